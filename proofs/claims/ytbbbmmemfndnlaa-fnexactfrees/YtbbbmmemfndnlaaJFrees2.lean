/- My own texts, joined: OkG OkH OkJ OkN OkR FoA FoB. -/
import Derived.Test.YtbbbmmemfndnlaaJFrees0
import Derived.Test.YtbbbmmemfndnlaaJFrees1
import Derived.Laws.EntriesVeiled
import Derived.Deep.WholeRow
/- Contracts for trees that are ok: a node is as its kind asks. -/
namespace Go.Proofs.Ytbbbmmemfndnlaa
open Go.RowKit
attribute [local go_sem] cell_alloc_is frozen_alloc_is
/-- block T is the table of kinds -/
def Tbl (w : World) (T b : Nat) : Prop := w.heap[T]? = some (.cells (tblV b) 72 (0, 0))
theorem Tbl.cell {w : World} {T b : Nat} (h : Tbl w T b) (j : Nat) (hj : j < 75) : w.cell? ⟨T, j, none⟩ = some ((tblV b)[j]'(by rw [tbl_size]; exact hj)) := by
  have hs : j < (tblV b).size := by rw [tbl_size]; exact hj
  unfold Tbl at h
  simp [World.cell?, h, hs]
theorem Tbl.grow {w w' : World} {T b : Nat} (h : Tbl w T b) (hb : Below w.heap.size w w') : Tbl w' T b := (hb.block T (Array.getElem?_eq_some_iff.1 h).1).trans h
theorem box5 (w : World) (k : Int) (t : ByteArray) (m e : Int) (v : Value) (ty : TypeId) : ∀ w', Below (w.heap.size + 1) (w.alloc (.cells #[.int .i64 k, .string t, .int .i64 m, .int .i64 e, v] ty)) w' →
    (w'.cell? ⟨w.heap.size, 0, none⟩ = some (.int .i64 k) ∧ w'.cell? ⟨w.heap.size, 1, none⟩ = some (.string t) ∧ w'.cell? ⟨w.heap.size, 2, none⟩ = some (.int .i64 m) ∧ w'.cell? ⟨w.heap.size, 3, none⟩ = some (.int .i64 e) ∧ w'.cell? ⟨w.heap.size, 4, none⟩ = some v) := by
  intro w' h
  refine ⟨?_, ?_, ?_, ?_, ?_⟩
  · exact (h.cell (p := ⟨w.heap.size, 0, none⟩) (Nat.lt_succ_self _)).trans (by simp)
  · exact (h.cell (p := ⟨w.heap.size, 1, none⟩) (Nat.lt_succ_self _)).trans (by simp)
  · exact (h.cell (p := ⟨w.heap.size, 2, none⟩) (Nat.lt_succ_self _)).trans (by simp)
  · exact (h.cell (p := ⟨w.heap.size, 3, none⟩) (Nat.lt_succ_self _)).trans (by simp)
  · exact (h.cell (p := ⟨w.heap.size, 4, none⟩) (Nat.lt_succ_self _)).trans (by simp)
set_option maxRecDepth 100000 in
set_option maxHeartbeats 2000000 in
theorem fit_0 (i lo hi : Nat) (hi1 : 1 ≤ i) (hi2 : i ≤ 24) (hlo : lo ≤ 8) (_hhi : hi ≤ 8) (h16 : i = 16 → 1 ≤ lo) (t : ByteArray) (m e : Int) (a : Option Addr) (c : Nat) (F : Fo) (T b : Nat) (w : World) (hM : IsMap w b bindsB)
    (t0 : w.cell? ⟨T, i * 3, none⟩ = some (.func (.func 78) #[] #[])) (t1 : w.cell? ⟨T, i * 3 + 1, none⟩ = some (.int .i64 lo)) (t2 : w.cell? ⟨T, i * 3 + 2, none⟩ = some (.int .i64 hi))
    (hin : F.In w a) (hl : F.len ≤ c) (hc : c ≤ maxLen) (_ht : t.size ≤ maxLen) :
    Calls Try.prog 55 #[.pointer (some ⟨T, 0, none⟩), nodeV i t m e a F.len c] w fun r w' => r = .returned (.bool (((decide (lo ≤ F.len) && decide (F.len ≤ hi)) && Om.textOf 0 t) && (Om.num i m e && Om.below i t F))) ∧ Below w.heap.size w w' := by
  have hcc := hc
  unfold maxLen at hcc
  have hTl := World.block_lt_of_cell? w _ t0
  have hml := (Array.getElem?_eq_some_iff.1 hM).1
  have g1 : ¬ (i : Int) < 1 := by omega
  have g2 : ¬ (24 : Int) < (i : Int) := by omega
  have g3 : (i : Int) < 25 := by omega
  have g4 : i < 25 := by omega
  have HK : Hid (∀ W, Below w.heap.size w W → ((i : Int) = 16 → 1 ≤ F.len) → Calls Try.prog 83 #[nodeV i t m e a F.len c] W fun r w' => r = .returned (.bool (Om.below i t F)) ∧ Below W.heap.size W w') := fun W h => kidsFit_any i t m e a c F W (hin.grow h) hl hc
  have HN : Hid (∀ W, Calls Try.prog 82 #[nodeV i t m e a F.len c] W fun r w' => r = .returned (.bool (Om.num i m e)) ∧ Below W.heap.size W w') := fun W => numFits_any i t m e a F.len c W
  have HT : Hid (Om.textOf 0 t = (t.toList == [])) := rfl
  clear hin
  go_enter Try.func55, Try.ntmps55
  go_wp2_with fail
  have hB0 := (Below.refl _ w).alloc (Nat.le_refl _) (.cells #[.int .i64 i, .string t, .int .i64 m, .int .i64 e, .slice a F.len c] 33)
  obtain ⟨b0, b1, b2, b3, b4⟩ := box5 w i t m e (.slice a F.len c) 33 _ (Below.refl _ _)
  have T0 := (hB0.cell (p := ⟨T, i * 3, none⟩) hTl).trans t0
  have T1 := (hB0.cell (p := ⟨T, i * 3 + 1, none⟩) hTl).trans t1
  have T2 := (hB0.cell (p := ⟨T, i * 3 + 2, none⟩) hTl).trans t2
  have HM0 : IsMap _ b bindsB := (hB0.block b hml).trans hM
  have hsz : w.heap.size < (w.alloc (.cells #[.int .i64 i, .string t, .int .i64 m, .int .i64 e, .slice a F.len c] 33)).heap.size := by simp
  generalize w.alloc (.cells #[.int .i64 i, .string t, .int .i64 m, .int .i64 e, .slice a F.len c] 33) = W0 at *
  have hTl0 : T < W0.heap.size := World.block_lt_of_cell? _ _ T0
  clear t0 t1 t2
  go_region
  have hD : Below W0.heap.size W0 (W0.alloc (.cells #[.func (.func 78) #[] #[], .int .i64 lo, .int .i64 hi] 70)).drew := ((Below.refl _ W0).alloc (Nat.le_refl _) _).drew
  have hB1 := hB0.trans (hD.mono hB0.size)
  have d0 := (hD.cell (p := ⟨w.heap.size, 0, none⟩) hsz).trans b0
  have d1 := (hD.cell (p := ⟨w.heap.size, 1, none⟩) hsz).trans b1
  have d2 := (hD.cell (p := ⟨w.heap.size, 2, none⟩) hsz).trans b2
  have d3 := (hD.cell (p := ⟨w.heap.size, 3, none⟩) hsz).trans b3
  have d4 := (hD.cell (p := ⟨w.heap.size, 4, none⟩) hsz).trans b4
  have HM1 : IsMap _ b bindsB := HM0.grown hD
  have e0 : (W0.alloc (.cells #[.func (.func 78) #[] #[], .int .i64 lo, .int .i64 hi] 70)).drew.cell? ⟨W0.heap.size, 0, none⟩ = some (.func (.func 78) #[] #[]) := by simp
  have e1 : (W0.alloc (.cells #[.func (.func 78) #[] #[], .int .i64 lo, .int .i64 hi] 70)).drew.cell? ⟨W0.heap.size, 1, none⟩ = some (.int .i64 lo) := by simp
  have e2 : (W0.alloc (.cells #[.func (.func 78) #[] #[], .int .i64 lo, .int .i64 hi] 70)).drew.cell? ⟨W0.heap.size, 2, none⟩ = some (.int .i64 hi) := by simp
  generalize (W0.alloc (.cells #[.func (.func 78) #[] #[], .int .i64 lo, .int .i64 hi] 70)).drew = W1 at *
  clear hD T0 T1 T2 b0 b1 b2 b3 b4 hB0 HM0
  by_cases q1 : lo ≤ F.len
  · have q1' : ¬ (F.len : Int) < (lo : Int) := by omega
    by_cases q2 : F.len ≤ hi
    · have q2' : ¬ (hi : Int) < (F.len : Int) := by omega
      have HR : Hid ((((decide (lo ≤ F.len) && decide (F.len ≤ hi)) && Om.textOf 0 t) && (Om.num i m e && Om.below i t F)) = ((t.toList == []) && (Om.num i m e && Om.below i t F))) := by unfold Hid; rw [HT.out]; simp [q1, q2]
      go_wp2_with fail
      refine (noText_any t _).mono ?_
      rintro r w' ⟨rfl, hw⟩
      subst w'
      generalize htx : (t.toList == []) = tx at *
      have HX : Hid ((t.toList == []) = tx) := htx
      clear htx
      cases tx
      · go_wp2_with fail
        go_ret
        exact ⟨lret_bool (by first | rfl | (rw [HR.out]; done) | (rw [HR.out]; rfl)), hB1⟩
      · go_wp2_with fail
        refine (HN.out _).mono ?_
        rintro r w2 ⟨rfl, hb2⟩
        have f0 := (hb2.cell (p := ⟨w.heap.size, 0, none⟩) (World.block_lt_of_cell? _ _ d0)).trans d0
        have f1 := (hb2.cell (p := ⟨w.heap.size, 1, none⟩) (World.block_lt_of_cell? _ _ d1)).trans d1
        have f2 := (hb2.cell (p := ⟨w.heap.size, 2, none⟩) (World.block_lt_of_cell? _ _ d2)).trans d2
        have f3 := (hb2.cell (p := ⟨w.heap.size, 3, none⟩) (World.block_lt_of_cell? _ _ d3)).trans d3
        have f4 := (hb2.cell (p := ⟨w.heap.size, 4, none⟩) (World.block_lt_of_cell? _ _ d4)).trans d4
        have hB2 := hB1.trans (hb2.mono hB1.size)
        clear d0 d1 d2 d3 d4 e0 e1 e2 hb2 hB1 HM1
        generalize hnn : Om.num i m e = nn
        have HN2 : Hid (Om.num i m e = nn) := hnn
        clear hnn
        cases nn
        · go_wp2_with fail
          go_ret
          exact ⟨lret_bool (by first | rfl | (rw [HR.out, HN2.out]; rfl)), hB2⟩
        · go_wp2_with fail
          refine (HK.out _ hB2 (fun h => by have := h16 (by omega); omega)).mono ?_
          rintro r w3 ⟨rfl, hb3⟩
          have hB3 := hB2.trans (hb3.mono hB2.size)
          generalize hbb : Om.below i t F = bb
          have HB2 : Hid (Om.below i t F = bb) := hbb
          clear hbb
          go_wp2_with fail
          go_ret
          exact ⟨lret_bool (by first | rfl | (rw [HR.out, HN2.out, HB2.out]; rfl)), hB3⟩
    · have q2' : (hi : Int) < (F.len : Int) := by omega
      have HR : Hid ((((decide (lo ≤ F.len) && decide (F.len ≤ hi)) && Om.textOf 0 t) && (Om.num i m e && Om.below i t F)) = false) := by unfold Hid; simp [q2]
      go_wp2_with fail
      go_ret
      exact ⟨lret_bool (by first | rfl | (rw [HR.out]; done) | (rw [HR.out]; rfl)), hB1⟩
  · have q1' : (F.len : Int) < (lo : Int) := by omega
    have HR : Hid ((((decide (lo ≤ F.len) && decide (F.len ≤ hi)) && Om.textOf 0 t) && (Om.num i m e && Om.below i t F)) = false) := by unfold Hid; simp [q1]
    go_wp2_with fail
    go_ret
    exact ⟨lret_bool (by first | rfl | (rw [HR.out]; done) | (rw [HR.out]; rfl)), hB1⟩
set_option maxRecDepth 100000 in
set_option maxHeartbeats 2000000 in
theorem fit_1 (i lo hi : Nat) (hi1 : 1 ≤ i) (hi2 : i ≤ 24) (hlo : lo ≤ 8) (_hhi : hi ≤ 8) (h16 : i = 16 → 1 ≤ lo) (t : ByteArray) (m e : Int) (a : Option Addr) (c : Nat) (F : Fo) (T b : Nat) (w : World) (hM : IsMap w b bindsB)
    (t0 : w.cell? ⟨T, i * 3, none⟩ = some (.func (.func 79) #[] #[])) (t1 : w.cell? ⟨T, i * 3 + 1, none⟩ = some (.int .i64 lo)) (t2 : w.cell? ⟨T, i * 3 + 2, none⟩ = some (.int .i64 hi))
    (hin : F.In w a) (hl : F.len ≤ c) (hc : c ≤ maxLen) (_ht : t.size ≤ maxLen) :
    Calls Try.prog 55 #[.pointer (some ⟨T, 0, none⟩), nodeV i t m e a F.len c] w fun r w' => r = .returned (.bool (((decide (lo ≤ F.len) && decide (F.len ≤ hi)) && Om.textOf 1 t) && (Om.num i m e && Om.below i t F))) ∧ Below w.heap.size w w' := by
  have hcc := hc
  unfold maxLen at hcc
  have hTl := World.block_lt_of_cell? w _ t0
  have hml := (Array.getElem?_eq_some_iff.1 hM).1
  have g1 : ¬ (i : Int) < 1 := by omega
  have g2 : ¬ (24 : Int) < (i : Int) := by omega
  have g3 : (i : Int) < 25 := by omega
  have g4 : i < 25 := by omega
  have HK : Hid (∀ W, Below w.heap.size w W → ((i : Int) = 16 → 1 ≤ F.len) → Calls Try.prog 83 #[nodeV i t m e a F.len c] W fun r w' => r = .returned (.bool (Om.below i t F)) ∧ Below W.heap.size W w') := fun W h => kidsFit_any i t m e a c F W (hin.grow h) hl hc
  have HN : Hid (∀ W, Calls Try.prog 82 #[nodeV i t m e a F.len c] W fun r w' => r = .returned (.bool (Om.num i m e)) ∧ Below W.heap.size W w') := fun W => numFits_any i t m e a F.len c W
  have HT : Hid (Om.textOf 1 t = (decide (t.size ≤ 1500))) := rfl
  clear hin
  go_enter Try.func55, Try.ntmps55
  go_wp2_with fail
  have hB0 := (Below.refl _ w).alloc (Nat.le_refl _) (.cells #[.int .i64 i, .string t, .int .i64 m, .int .i64 e, .slice a F.len c] 33)
  obtain ⟨b0, b1, b2, b3, b4⟩ := box5 w i t m e (.slice a F.len c) 33 _ (Below.refl _ _)
  have T0 := (hB0.cell (p := ⟨T, i * 3, none⟩) hTl).trans t0
  have T1 := (hB0.cell (p := ⟨T, i * 3 + 1, none⟩) hTl).trans t1
  have T2 := (hB0.cell (p := ⟨T, i * 3 + 2, none⟩) hTl).trans t2
  have HM0 : IsMap _ b bindsB := (hB0.block b hml).trans hM
  have hsz : w.heap.size < (w.alloc (.cells #[.int .i64 i, .string t, .int .i64 m, .int .i64 e, .slice a F.len c] 33)).heap.size := by simp
  generalize w.alloc (.cells #[.int .i64 i, .string t, .int .i64 m, .int .i64 e, .slice a F.len c] 33) = W0 at *
  have hTl0 : T < W0.heap.size := World.block_lt_of_cell? _ _ T0
  clear t0 t1 t2
  go_region
  have hD : Below W0.heap.size W0 (W0.alloc (.cells #[.func (.func 79) #[] #[], .int .i64 lo, .int .i64 hi] 70)).drew := ((Below.refl _ W0).alloc (Nat.le_refl _) _).drew
  have hB1 := hB0.trans (hD.mono hB0.size)
  have d0 := (hD.cell (p := ⟨w.heap.size, 0, none⟩) hsz).trans b0
  have d1 := (hD.cell (p := ⟨w.heap.size, 1, none⟩) hsz).trans b1
  have d2 := (hD.cell (p := ⟨w.heap.size, 2, none⟩) hsz).trans b2
  have d3 := (hD.cell (p := ⟨w.heap.size, 3, none⟩) hsz).trans b3
  have d4 := (hD.cell (p := ⟨w.heap.size, 4, none⟩) hsz).trans b4
  have HM1 : IsMap _ b bindsB := HM0.grown hD
  have e0 : (W0.alloc (.cells #[.func (.func 79) #[] #[], .int .i64 lo, .int .i64 hi] 70)).drew.cell? ⟨W0.heap.size, 0, none⟩ = some (.func (.func 79) #[] #[]) := by simp
  have e1 : (W0.alloc (.cells #[.func (.func 79) #[] #[], .int .i64 lo, .int .i64 hi] 70)).drew.cell? ⟨W0.heap.size, 1, none⟩ = some (.int .i64 lo) := by simp
  have e2 : (W0.alloc (.cells #[.func (.func 79) #[] #[], .int .i64 lo, .int .i64 hi] 70)).drew.cell? ⟨W0.heap.size, 2, none⟩ = some (.int .i64 hi) := by simp
  generalize (W0.alloc (.cells #[.func (.func 79) #[] #[], .int .i64 lo, .int .i64 hi] 70)).drew = W1 at *
  clear hD T0 T1 T2 b0 b1 b2 b3 b4 hB0 HM0
  by_cases q1 : lo ≤ F.len
  · have q1' : ¬ (F.len : Int) < (lo : Int) := by omega
    by_cases q2 : F.len ≤ hi
    · have q2' : ¬ (hi : Int) < (F.len : Int) := by omega
      have HR : Hid ((((decide (lo ≤ F.len) && decide (F.len ≤ hi)) && Om.textOf 1 t) && (Om.num i m e && Om.below i t F)) = ((decide (t.size ≤ 1500)) && (Om.num i m e && Om.below i t F))) := by unfold Hid; rw [HT.out]; simp [q1, q2]
      go_wp2_with fail
      refine (shortText_any t _ _ht).mono ?_
      rintro r w' ⟨rfl, hw⟩
      subst w'
      generalize htx : (decide (t.size ≤ 1500)) = tx at *
      have HX : Hid ((decide (t.size ≤ 1500)) = tx) := htx
      clear htx
      cases tx
      · go_wp2_with fail
        go_ret
        exact ⟨lret_bool (by first | rfl | (rw [HR.out]; done) | (rw [HR.out]; rfl)), hB1⟩
      · go_wp2_with fail
        refine (HN.out _).mono ?_
        rintro r w2 ⟨rfl, hb2⟩
        have f0 := (hb2.cell (p := ⟨w.heap.size, 0, none⟩) (World.block_lt_of_cell? _ _ d0)).trans d0
        have f1 := (hb2.cell (p := ⟨w.heap.size, 1, none⟩) (World.block_lt_of_cell? _ _ d1)).trans d1
        have f2 := (hb2.cell (p := ⟨w.heap.size, 2, none⟩) (World.block_lt_of_cell? _ _ d2)).trans d2
        have f3 := (hb2.cell (p := ⟨w.heap.size, 3, none⟩) (World.block_lt_of_cell? _ _ d3)).trans d3
        have f4 := (hb2.cell (p := ⟨w.heap.size, 4, none⟩) (World.block_lt_of_cell? _ _ d4)).trans d4
        have hB2 := hB1.trans (hb2.mono hB1.size)
        clear d0 d1 d2 d3 d4 e0 e1 e2 hb2 hB1 HM1
        generalize hnn : Om.num i m e = nn
        have HN2 : Hid (Om.num i m e = nn) := hnn
        clear hnn
        cases nn
        · go_wp2_with fail
          go_ret
          exact ⟨lret_bool (by first | rfl | (rw [HR.out, HN2.out]; rfl)), hB2⟩
        · go_wp2_with fail
          refine (HK.out _ hB2 (fun h => by have := h16 (by omega); omega)).mono ?_
          rintro r w3 ⟨rfl, hb3⟩
          have hB3 := hB2.trans (hb3.mono hB2.size)
          generalize hbb : Om.below i t F = bb
          have HB2 : Hid (Om.below i t F = bb) := hbb
          clear hbb
          go_wp2_with fail
          go_ret
          exact ⟨lret_bool (by first | rfl | (rw [HR.out, HN2.out, HB2.out]; rfl)), hB3⟩
    · have q2' : (hi : Int) < (F.len : Int) := by omega
      have HR : Hid ((((decide (lo ≤ F.len) && decide (F.len ≤ hi)) && Om.textOf 1 t) && (Om.num i m e && Om.below i t F)) = false) := by unfold Hid; simp [q2]
      go_wp2_with fail
      go_ret
      exact ⟨lret_bool (by first | rfl | (rw [HR.out]; done) | (rw [HR.out]; rfl)), hB1⟩
  · have q1' : (F.len : Int) < (lo : Int) := by omega
    have HR : Hid ((((decide (lo ≤ F.len) && decide (F.len ≤ hi)) && Om.textOf 1 t) && (Om.num i m e && Om.below i t F)) = false) := by unfold Hid; simp [q1]
    go_wp2_with fail
    go_ret
    exact ⟨lret_bool (by first | rfl | (rw [HR.out]; done) | (rw [HR.out]; rfl)), hB1⟩
set_option maxRecDepth 100000 in
set_option maxHeartbeats 2000000 in
theorem fit_2 (i lo hi : Nat) (hi1 : 1 ≤ i) (hi2 : i ≤ 24) (hlo : lo ≤ 8) (_hhi : hi ≤ 8) (h16 : i = 16 → 1 ≤ lo) (t : ByteArray) (m e : Int) (a : Option Addr) (c : Nat) (F : Fo) (T b : Nat) (w : World) (hM : IsMap w b bindsB)
    (t0 : w.cell? ⟨T, i * 3, none⟩ = some (.func (.func 41) #[] #[])) (t1 : w.cell? ⟨T, i * 3 + 1, none⟩ = some (.int .i64 lo)) (t2 : w.cell? ⟨T, i * 3 + 2, none⟩ = some (.int .i64 hi))
    (hin : F.In w a) (hl : F.len ≤ c) (hc : c ≤ maxLen) (_ht : t.size ≤ maxLen) :
    Calls Try.prog 55 #[.pointer (some ⟨T, 0, none⟩), nodeV i t m e a F.len c] w fun r w' => r = .returned (.bool (((decide (lo ≤ F.len) && decide (F.len ≤ hi)) && Om.textOf 2 t) && (Om.num i m e && Om.below i t F))) ∧ Below w.heap.size w w' := by
  have hcc := hc
  unfold maxLen at hcc
  have hTl := World.block_lt_of_cell? w _ t0
  have hml := (Array.getElem?_eq_some_iff.1 hM).1
  have g1 : ¬ (i : Int) < 1 := by omega
  have g2 : ¬ (24 : Int) < (i : Int) := by omega
  have g3 : (i : Int) < 25 := by omega
  have g4 : i < 25 := by omega
  have HK : Hid (∀ W, Below w.heap.size w W → ((i : Int) = 16 → 1 ≤ F.len) → Calls Try.prog 83 #[nodeV i t m e a F.len c] W fun r w' => r = .returned (.bool (Om.below i t F)) ∧ Below W.heap.size W w') := fun W h => kidsFit_any i t m e a c F W (hin.grow h) hl hc
  have HN : Hid (∀ W, Calls Try.prog 82 #[nodeV i t m e a F.len c] W fun r w' => r = .returned (.bool (Om.num i m e)) ∧ Below W.heap.size W w') := fun W => numFits_any i t m e a F.len c W
  have HT : Hid (Om.textOf 2 t = (Qm.name t)) := rfl
  clear hin
  go_enter Try.func55, Try.ntmps55
  go_wp2_with fail
  have hB0 := (Below.refl _ w).alloc (Nat.le_refl _) (.cells #[.int .i64 i, .string t, .int .i64 m, .int .i64 e, .slice a F.len c] 33)
  obtain ⟨b0, b1, b2, b3, b4⟩ := box5 w i t m e (.slice a F.len c) 33 _ (Below.refl _ _)
  have T0 := (hB0.cell (p := ⟨T, i * 3, none⟩) hTl).trans t0
  have T1 := (hB0.cell (p := ⟨T, i * 3 + 1, none⟩) hTl).trans t1
  have T2 := (hB0.cell (p := ⟨T, i * 3 + 2, none⟩) hTl).trans t2
  have HM0 : IsMap _ b bindsB := (hB0.block b hml).trans hM
  have hsz : w.heap.size < (w.alloc (.cells #[.int .i64 i, .string t, .int .i64 m, .int .i64 e, .slice a F.len c] 33)).heap.size := by simp
  generalize w.alloc (.cells #[.int .i64 i, .string t, .int .i64 m, .int .i64 e, .slice a F.len c] 33) = W0 at *
  have hTl0 : T < W0.heap.size := World.block_lt_of_cell? _ _ T0
  clear t0 t1 t2
  go_region
  have hD : Below W0.heap.size W0 (W0.alloc (.cells #[.func (.func 41) #[] #[], .int .i64 lo, .int .i64 hi] 70)).drew := ((Below.refl _ W0).alloc (Nat.le_refl _) _).drew
  have hB1 := hB0.trans (hD.mono hB0.size)
  have d0 := (hD.cell (p := ⟨w.heap.size, 0, none⟩) hsz).trans b0
  have d1 := (hD.cell (p := ⟨w.heap.size, 1, none⟩) hsz).trans b1
  have d2 := (hD.cell (p := ⟨w.heap.size, 2, none⟩) hsz).trans b2
  have d3 := (hD.cell (p := ⟨w.heap.size, 3, none⟩) hsz).trans b3
  have d4 := (hD.cell (p := ⟨w.heap.size, 4, none⟩) hsz).trans b4
  have HM1 : IsMap _ b bindsB := HM0.grown hD
  have e0 : (W0.alloc (.cells #[.func (.func 41) #[] #[], .int .i64 lo, .int .i64 hi] 70)).drew.cell? ⟨W0.heap.size, 0, none⟩ = some (.func (.func 41) #[] #[]) := by simp
  have e1 : (W0.alloc (.cells #[.func (.func 41) #[] #[], .int .i64 lo, .int .i64 hi] 70)).drew.cell? ⟨W0.heap.size, 1, none⟩ = some (.int .i64 lo) := by simp
  have e2 : (W0.alloc (.cells #[.func (.func 41) #[] #[], .int .i64 lo, .int .i64 hi] 70)).drew.cell? ⟨W0.heap.size, 2, none⟩ = some (.int .i64 hi) := by simp
  generalize (W0.alloc (.cells #[.func (.func 41) #[] #[], .int .i64 lo, .int .i64 hi] 70)).drew = W1 at *
  clear hD T0 T1 T2 b0 b1 b2 b3 b4 hB0 HM0
  by_cases q1 : lo ≤ F.len
  · have q1' : ¬ (F.len : Int) < (lo : Int) := by omega
    by_cases q2 : F.len ≤ hi
    · have q2' : ¬ (hi : Int) < (F.len : Int) := by omega
      have HR : Hid ((((decide (lo ≤ F.len) && decide (F.len ≤ hi)) && Om.textOf 2 t) && (Om.num i m e && Om.below i t F)) = ((Qm.name t) && (Om.num i m e && Om.below i t F))) := by unfold Hid; rw [HT.out]; simp [q1, q2]
      go_wp2_with fail
      refine (iNameOk_any t _ _ht).mono ?_
      rintro r w' ⟨rfl, hw⟩
      subst w'
      generalize htx : (Qm.name t) = tx at *
      have HX : Hid ((Qm.name t) = tx) := htx
      clear htx
      cases tx
      · go_wp2_with fail
        go_ret
        exact ⟨lret_bool (by first | rfl | (rw [HR.out]; done) | (rw [HR.out]; rfl)), hB1⟩
      · go_wp2_with fail
        refine (HN.out _).mono ?_
        rintro r w2 ⟨rfl, hb2⟩
        have f0 := (hb2.cell (p := ⟨w.heap.size, 0, none⟩) (World.block_lt_of_cell? _ _ d0)).trans d0
        have f1 := (hb2.cell (p := ⟨w.heap.size, 1, none⟩) (World.block_lt_of_cell? _ _ d1)).trans d1
        have f2 := (hb2.cell (p := ⟨w.heap.size, 2, none⟩) (World.block_lt_of_cell? _ _ d2)).trans d2
        have f3 := (hb2.cell (p := ⟨w.heap.size, 3, none⟩) (World.block_lt_of_cell? _ _ d3)).trans d3
        have f4 := (hb2.cell (p := ⟨w.heap.size, 4, none⟩) (World.block_lt_of_cell? _ _ d4)).trans d4
        have hB2 := hB1.trans (hb2.mono hB1.size)
        clear d0 d1 d2 d3 d4 e0 e1 e2 hb2 hB1 HM1
        generalize hnn : Om.num i m e = nn
        have HN2 : Hid (Om.num i m e = nn) := hnn
        clear hnn
        cases nn
        · go_wp2_with fail
          go_ret
          exact ⟨lret_bool (by first | rfl | (rw [HR.out, HN2.out]; rfl)), hB2⟩
        · go_wp2_with fail
          refine (HK.out _ hB2 (fun h => by have := h16 (by omega); omega)).mono ?_
          rintro r w3 ⟨rfl, hb3⟩
          have hB3 := hB2.trans (hb3.mono hB2.size)
          generalize hbb : Om.below i t F = bb
          have HB2 : Hid (Om.below i t F = bb) := hbb
          clear hbb
          go_wp2_with fail
          go_ret
          exact ⟨lret_bool (by first | rfl | (rw [HR.out, HN2.out, HB2.out]; rfl)), hB3⟩
    · have q2' : (hi : Int) < (F.len : Int) := by omega
      have HR : Hid ((((decide (lo ≤ F.len) && decide (F.len ≤ hi)) && Om.textOf 2 t) && (Om.num i m e && Om.below i t F)) = false) := by unfold Hid; simp [q2]
      go_wp2_with fail
      go_ret
      exact ⟨lret_bool (by first | rfl | (rw [HR.out]; done) | (rw [HR.out]; rfl)), hB1⟩
  · have q1' : (F.len : Int) < (lo : Int) := by omega
    have HR : Hid ((((decide (lo ≤ F.len) && decide (F.len ≤ hi)) && Om.textOf 2 t) && (Om.num i m e && Om.below i t F)) = false) := by unfold Hid; simp [q1]
    go_wp2_with fail
    go_ret
    exact ⟨lret_bool (by first | rfl | (rw [HR.out]; done) | (rw [HR.out]; rfl)), hB1⟩
set_option maxRecDepth 100000 in
set_option maxHeartbeats 2000000 in
theorem fit_3 (i lo hi : Nat) (hi1 : 1 ≤ i) (hi2 : i ≤ 24) (hlo : lo ≤ 8) (_hhi : hi ≤ 8) (h16 : i = 16 → 1 ≤ lo) (t : ByteArray) (m e : Int) (a : Option Addr) (c : Nat) (F : Fo) (T b : Nat) (w : World) (hM : IsMap w b bindsB)
    (t0 : w.cell? ⟨T, i * 3, none⟩ = some (.func (.func 80) #[.map (some b)] #[])) (t1 : w.cell? ⟨T, i * 3 + 1, none⟩ = some (.int .i64 lo)) (t2 : w.cell? ⟨T, i * 3 + 2, none⟩ = some (.int .i64 hi))
    (hin : F.In w a) (hl : F.len ≤ c) (hc : c ≤ maxLen) (_ht : t.size ≤ maxLen) :
    Calls Try.prog 55 #[.pointer (some ⟨T, 0, none⟩), nodeV i t m e a F.len c] w fun r w' => r = .returned (.bool (((decide (lo ≤ F.len) && decide (F.len ≤ hi)) && Om.textOf 3 t) && (Om.num i m e && Om.below i t F))) ∧ Below w.heap.size w w' := by
  have hcc := hc
  unfold maxLen at hcc
  have hTl := World.block_lt_of_cell? w _ t0
  have hml := (Array.getElem?_eq_some_iff.1 hM).1
  have g1 : ¬ (i : Int) < 1 := by omega
  have g2 : ¬ (24 : Int) < (i : Int) := by omega
  have g3 : (i : Int) < 25 := by omega
  have g4 : i < 25 := by omega
  have HK : Hid (∀ W, Below w.heap.size w W → ((i : Int) = 16 → 1 ≤ F.len) → Calls Try.prog 83 #[nodeV i t m e a F.len c] W fun r w' => r = .returned (.bool (Om.below i t F)) ∧ Below W.heap.size W w') := fun W h => kidsFit_any i t m e a c F W (hin.grow h) hl hc
  have HN : Hid (∀ W, Calls Try.prog 82 #[nodeV i t m e a F.len c] W fun r w' => r = .returned (.bool (Om.num i m e)) ∧ Below W.heap.size W w') := fun W => numFits_any i t m e a F.len c W
  have HT : Hid (Om.textOf 3 t = (Qm.has Om.signs t.toList)) := rfl
  clear hin
  go_enter Try.func55, Try.ntmps55
  go_wp2_with fail
  have hB0 := (Below.refl _ w).alloc (Nat.le_refl _) (.cells #[.int .i64 i, .string t, .int .i64 m, .int .i64 e, .slice a F.len c] 33)
  obtain ⟨b0, b1, b2, b3, b4⟩ := box5 w i t m e (.slice a F.len c) 33 _ (Below.refl _ _)
  have T0 := (hB0.cell (p := ⟨T, i * 3, none⟩) hTl).trans t0
  have T1 := (hB0.cell (p := ⟨T, i * 3 + 1, none⟩) hTl).trans t1
  have T2 := (hB0.cell (p := ⟨T, i * 3 + 2, none⟩) hTl).trans t2
  have HM0 : IsMap _ b bindsB := (hB0.block b hml).trans hM
  have hsz : w.heap.size < (w.alloc (.cells #[.int .i64 i, .string t, .int .i64 m, .int .i64 e, .slice a F.len c] 33)).heap.size := by simp
  generalize w.alloc (.cells #[.int .i64 i, .string t, .int .i64 m, .int .i64 e, .slice a F.len c] 33) = W0 at *
  have hTl0 : T < W0.heap.size := World.block_lt_of_cell? _ _ T0
  clear t0 t1 t2
  go_region
  have hD : Below W0.heap.size W0 (W0.alloc (.cells #[.func (.func 80) #[.map (some b)] #[], .int .i64 lo, .int .i64 hi] 70)).drew := ((Below.refl _ W0).alloc (Nat.le_refl _) _).drew
  have hB1 := hB0.trans (hD.mono hB0.size)
  have d0 := (hD.cell (p := ⟨w.heap.size, 0, none⟩) hsz).trans b0
  have d1 := (hD.cell (p := ⟨w.heap.size, 1, none⟩) hsz).trans b1
  have d2 := (hD.cell (p := ⟨w.heap.size, 2, none⟩) hsz).trans b2
  have d3 := (hD.cell (p := ⟨w.heap.size, 3, none⟩) hsz).trans b3
  have d4 := (hD.cell (p := ⟨w.heap.size, 4, none⟩) hsz).trans b4
  have HM1 : IsMap _ b bindsB := HM0.grown hD
  have e0 : (W0.alloc (.cells #[.func (.func 80) #[.map (some b)] #[], .int .i64 lo, .int .i64 hi] 70)).drew.cell? ⟨W0.heap.size, 0, none⟩ = some (.func (.func 80) #[.map (some b)] #[]) := by simp
  have e1 : (W0.alloc (.cells #[.func (.func 80) #[.map (some b)] #[], .int .i64 lo, .int .i64 hi] 70)).drew.cell? ⟨W0.heap.size, 1, none⟩ = some (.int .i64 lo) := by simp
  have e2 : (W0.alloc (.cells #[.func (.func 80) #[.map (some b)] #[], .int .i64 lo, .int .i64 hi] 70)).drew.cell? ⟨W0.heap.size, 2, none⟩ = some (.int .i64 hi) := by simp
  generalize (W0.alloc (.cells #[.func (.func 80) #[.map (some b)] #[], .int .i64 lo, .int .i64 hi] 70)).drew = W1 at *
  clear hD T0 T1 T2 b0 b1 b2 b3 b4 hB0 HM0
  by_cases q1 : lo ≤ F.len
  · have q1' : ¬ (F.len : Int) < (lo : Int) := by omega
    by_cases q2 : F.len ≤ hi
    · have q2' : ¬ (hi : Int) < (F.len : Int) := by omega
      have HR : Hid ((((decide (lo ≤ F.len) && decide (F.len ≤ hi)) && Om.textOf 3 t) && (Om.num i m e && Om.below i t F)) = ((Qm.has Om.signs t.toList) && (Om.num i m e && Om.below i t F))) := by unfold Hid; rw [HT.out]; simp [q1, q2]
      go_wp2_with fail
      refine (has_any b t _ HM1).mono ?_
      rintro r w' ⟨rfl, hw⟩
      subst w'
      generalize htx : (Qm.has Om.signs t.toList) = tx at *
      have HX : Hid ((Qm.has Om.signs t.toList) = tx) := htx
      clear htx
      cases tx
      · go_wp2_with fail
        go_ret
        exact ⟨lret_bool (by first | rfl | (rw [HR.out]; done) | (rw [HR.out]; rfl)), hB1⟩
      · go_wp2_with fail
        refine (HN.out _).mono ?_
        rintro r w2 ⟨rfl, hb2⟩
        have f0 := (hb2.cell (p := ⟨w.heap.size, 0, none⟩) (World.block_lt_of_cell? _ _ d0)).trans d0
        have f1 := (hb2.cell (p := ⟨w.heap.size, 1, none⟩) (World.block_lt_of_cell? _ _ d1)).trans d1
        have f2 := (hb2.cell (p := ⟨w.heap.size, 2, none⟩) (World.block_lt_of_cell? _ _ d2)).trans d2
        have f3 := (hb2.cell (p := ⟨w.heap.size, 3, none⟩) (World.block_lt_of_cell? _ _ d3)).trans d3
        have f4 := (hb2.cell (p := ⟨w.heap.size, 4, none⟩) (World.block_lt_of_cell? _ _ d4)).trans d4
        have hB2 := hB1.trans (hb2.mono hB1.size)
        clear d0 d1 d2 d3 d4 e0 e1 e2 hb2 hB1 HM1
        generalize hnn : Om.num i m e = nn
        have HN2 : Hid (Om.num i m e = nn) := hnn
        clear hnn
        cases nn
        · go_wp2_with fail
          go_ret
          exact ⟨lret_bool (by first | rfl | (rw [HR.out, HN2.out]; rfl)), hB2⟩
        · go_wp2_with fail
          refine (HK.out _ hB2 (fun h => by have := h16 (by omega); omega)).mono ?_
          rintro r w3 ⟨rfl, hb3⟩
          have hB3 := hB2.trans (hb3.mono hB2.size)
          generalize hbb : Om.below i t F = bb
          have HB2 : Hid (Om.below i t F = bb) := hbb
          clear hbb
          go_wp2_with fail
          go_ret
          exact ⟨lret_bool (by first | rfl | (rw [HR.out, HN2.out, HB2.out]; rfl)), hB3⟩
    · have q2' : (hi : Int) < (F.len : Int) := by omega
      have HR : Hid ((((decide (lo ≤ F.len) && decide (F.len ≤ hi)) && Om.textOf 3 t) && (Om.num i m e && Om.below i t F)) = false) := by unfold Hid; simp [q2]
      go_wp2_with fail
      go_ret
      exact ⟨lret_bool (by first | rfl | (rw [HR.out]; done) | (rw [HR.out]; rfl)), hB1⟩
  · have q1' : (F.len : Int) < (lo : Int) := by omega
    have HR : Hid ((((decide (lo ≤ F.len) && decide (F.len ≤ hi)) && Om.textOf 3 t) && (Om.num i m e && Om.below i t F)) = false) := by unfold Hid; simp [q1]
    go_wp2_with fail
    go_ret
    exact ⟨lret_bool (by first | rfl | (rw [HR.out]; done) | (rw [HR.out]; rfl)), hB1⟩
set_option maxRecDepth 100000 in
set_option maxHeartbeats 2000000 in
theorem fit_4 (i lo hi : Nat) (hi1 : 1 ≤ i) (hi2 : i ≤ 24) (hlo : lo ≤ 8) (_hhi : hi ≤ 8) (h16 : i = 16 → 1 ≤ lo) (t : ByteArray) (m e : Int) (a : Option Addr) (c : Nat) (F : Fo) (T b : Nat) (w : World) (hM : IsMap w b bindsB)
    (t0 : w.cell? ⟨T, i * 3, none⟩ = some (.func (.func 81) #[] #[])) (t1 : w.cell? ⟨T, i * 3 + 1, none⟩ = some (.int .i64 lo)) (t2 : w.cell? ⟨T, i * 3 + 2, none⟩ = some (.int .i64 hi))
    (hin : F.In w a) (hl : F.len ≤ c) (hc : c ≤ maxLen) (_ht : t.size ≤ maxLen) :
    Calls Try.prog 55 #[.pointer (some ⟨T, 0, none⟩), nodeV i t m e a F.len c] w fun r w' => r = .returned (.bool (((decide (lo ≤ F.len) && decide (F.len ≤ hi)) && Om.textOf 4 t) && (Om.num i m e && Om.below i t F))) ∧ Below w.heap.size w w' := by
  have hcc := hc
  unfold maxLen at hcc
  have hTl := World.block_lt_of_cell? w _ t0
  have hml := (Array.getElem?_eq_some_iff.1 hM).1
  have g1 : ¬ (i : Int) < 1 := by omega
  have g2 : ¬ (24 : Int) < (i : Int) := by omega
  have g3 : (i : Int) < 25 := by omega
  have g4 : i < 25 := by omega
  have HK : Hid (∀ W, Below w.heap.size w W → ((i : Int) = 16 → 1 ≤ F.len) → Calls Try.prog 83 #[nodeV i t m e a F.len c] W fun r w' => r = .returned (.bool (Om.below i t F)) ∧ Below W.heap.size W w') := fun W h => kidsFit_any i t m e a c F W (hin.grow h) hl hc
  have HN : Hid (∀ W, Calls Try.prog 82 #[nodeV i t m e a F.len c] W fun r w' => r = .returned (.bool (Om.num i m e)) ∧ Below W.heap.size W w') := fun W => numFits_any i t m e a F.len c W
  have HT : Hid (Om.textOf 4 t = (decide (0 < Om.std t.toList))) := rfl
  clear hin
  go_enter Try.func55, Try.ntmps55
  go_wp2_with fail
  have hB0 := (Below.refl _ w).alloc (Nat.le_refl _) (.cells #[.int .i64 i, .string t, .int .i64 m, .int .i64 e, .slice a F.len c] 33)
  obtain ⟨b0, b1, b2, b3, b4⟩ := box5 w i t m e (.slice a F.len c) 33 _ (Below.refl _ _)
  have T0 := (hB0.cell (p := ⟨T, i * 3, none⟩) hTl).trans t0
  have T1 := (hB0.cell (p := ⟨T, i * 3 + 1, none⟩) hTl).trans t1
  have T2 := (hB0.cell (p := ⟨T, i * 3 + 2, none⟩) hTl).trans t2
  have HM0 : IsMap _ b bindsB := (hB0.block b hml).trans hM
  have hsz : w.heap.size < (w.alloc (.cells #[.int .i64 i, .string t, .int .i64 m, .int .i64 e, .slice a F.len c] 33)).heap.size := by simp
  generalize w.alloc (.cells #[.int .i64 i, .string t, .int .i64 m, .int .i64 e, .slice a F.len c] 33) = W0 at *
  have hTl0 : T < W0.heap.size := World.block_lt_of_cell? _ _ T0
  clear t0 t1 t2
  go_region
  have hD : Below W0.heap.size W0 (W0.alloc (.cells #[.func (.func 81) #[] #[], .int .i64 lo, .int .i64 hi] 70)).drew := ((Below.refl _ W0).alloc (Nat.le_refl _) _).drew
  have hB1 := hB0.trans (hD.mono hB0.size)
  have d0 := (hD.cell (p := ⟨w.heap.size, 0, none⟩) hsz).trans b0
  have d1 := (hD.cell (p := ⟨w.heap.size, 1, none⟩) hsz).trans b1
  have d2 := (hD.cell (p := ⟨w.heap.size, 2, none⟩) hsz).trans b2
  have d3 := (hD.cell (p := ⟨w.heap.size, 3, none⟩) hsz).trans b3
  have d4 := (hD.cell (p := ⟨w.heap.size, 4, none⟩) hsz).trans b4
  have HM1 : IsMap _ b bindsB := HM0.grown hD
  have e0 : (W0.alloc (.cells #[.func (.func 81) #[] #[], .int .i64 lo, .int .i64 hi] 70)).drew.cell? ⟨W0.heap.size, 0, none⟩ = some (.func (.func 81) #[] #[]) := by simp
  have e1 : (W0.alloc (.cells #[.func (.func 81) #[] #[], .int .i64 lo, .int .i64 hi] 70)).drew.cell? ⟨W0.heap.size, 1, none⟩ = some (.int .i64 lo) := by simp
  have e2 : (W0.alloc (.cells #[.func (.func 81) #[] #[], .int .i64 lo, .int .i64 hi] 70)).drew.cell? ⟨W0.heap.size, 2, none⟩ = some (.int .i64 hi) := by simp
  generalize (W0.alloc (.cells #[.func (.func 81) #[] #[], .int .i64 lo, .int .i64 hi] 70)).drew = W1 at *
  clear hD T0 T1 T2 b0 b1 b2 b3 b4 hB0 HM0
  by_cases q1 : lo ≤ F.len
  · have q1' : ¬ (F.len : Int) < (lo : Int) := by omega
    by_cases q2 : F.len ≤ hi
    · have q2' : ¬ (hi : Int) < (F.len : Int) := by omega
      have HR : Hid ((((decide (lo ≤ F.len) && decide (F.len ≤ hi)) && Om.textOf 4 t) && (Om.num i m e && Om.below i t F)) = ((decide (0 < Om.std t.toList)) && (Om.num i m e && Om.below i t F))) := by unfold Hid; rw [HT.out]; simp [q1, q2]
      go_wp2_with fail
      refine (isStd_any t _).mono ?_
      rintro r w' ⟨rfl, hw⟩
      subst w'
      generalize htx : (decide (0 < Om.std t.toList)) = tx at *
      have HX : Hid ((decide (0 < Om.std t.toList)) = tx) := htx
      clear htx
      cases tx
      · go_wp2_with fail
        go_ret
        exact ⟨lret_bool (by first | rfl | (rw [HR.out]; done) | (rw [HR.out]; rfl)), hB1⟩
      · go_wp2_with fail
        refine (HN.out _).mono ?_
        rintro r w2 ⟨rfl, hb2⟩
        have f0 := (hb2.cell (p := ⟨w.heap.size, 0, none⟩) (World.block_lt_of_cell? _ _ d0)).trans d0
        have f1 := (hb2.cell (p := ⟨w.heap.size, 1, none⟩) (World.block_lt_of_cell? _ _ d1)).trans d1
        have f2 := (hb2.cell (p := ⟨w.heap.size, 2, none⟩) (World.block_lt_of_cell? _ _ d2)).trans d2
        have f3 := (hb2.cell (p := ⟨w.heap.size, 3, none⟩) (World.block_lt_of_cell? _ _ d3)).trans d3
        have f4 := (hb2.cell (p := ⟨w.heap.size, 4, none⟩) (World.block_lt_of_cell? _ _ d4)).trans d4
        have hB2 := hB1.trans (hb2.mono hB1.size)
        clear d0 d1 d2 d3 d4 e0 e1 e2 hb2 hB1 HM1
        generalize hnn : Om.num i m e = nn
        have HN2 : Hid (Om.num i m e = nn) := hnn
        clear hnn
        cases nn
        · go_wp2_with fail
          go_ret
          exact ⟨lret_bool (by first | rfl | (rw [HR.out, HN2.out]; rfl)), hB2⟩
        · go_wp2_with fail
          refine (HK.out _ hB2 (fun h => by have := h16 (by omega); omega)).mono ?_
          rintro r w3 ⟨rfl, hb3⟩
          have hB3 := hB2.trans (hb3.mono hB2.size)
          generalize hbb : Om.below i t F = bb
          have HB2 : Hid (Om.below i t F = bb) := hbb
          clear hbb
          go_wp2_with fail
          go_ret
          exact ⟨lret_bool (by first | rfl | (rw [HR.out, HN2.out, HB2.out]; rfl)), hB3⟩
    · have q2' : (hi : Int) < (F.len : Int) := by omega
      have HR : Hid ((((decide (lo ≤ F.len) && decide (F.len ≤ hi)) && Om.textOf 4 t) && (Om.num i m e && Om.below i t F)) = false) := by unfold Hid; simp [q2]
      go_wp2_with fail
      go_ret
      exact ⟨lret_bool (by first | rfl | (rw [HR.out]; done) | (rw [HR.out]; rfl)), hB1⟩
  · have q1' : (F.len : Int) < (lo : Int) := by omega
    have HR : Hid ((((decide (lo ≤ F.len) && decide (F.len ≤ hi)) && Om.textOf 4 t) && (Om.num i m e && Om.below i t F)) = false) := by unfold Hid; simp [q1]
    go_wp2_with fail
    go_ret
    exact ⟨lret_bool (by first | rfl | (rw [HR.out]; done) | (rw [HR.out]; rfl)), hB1⟩
end Go.Proofs.Ytbbbmmemfndnlaa
/- Contracts for trees that are ok: a node is as its kind asks, for every kind. -/
namespace Go.Proofs.Ytbbbmmemfndnlaa
open Go.RowKit
theorem fit_eq {k : Int} {lo hi q : Nat} (h : (1 ≤ k ∧ k ≤ 24) ∧ Om.low' k = lo ∧ Om.high' k = hi ∧ Om.sort k = q) (t : ByteArray) (m e : Int) (F : Fo) :
    Om.fit k t m e F = (((decide (lo ≤ F.len) && decide (F.len ≤ hi)) && Om.textOf q t) && (Om.num k m e && Om.below k t F)) := by
  obtain ⟨⟨h1, h2⟩, rfl, rfl, rfl⟩ := h
  unfold Om.fit
  simp [h1, h2]
set_option maxRecDepth 100000 in
set_option maxHeartbeats 1000000 in
theorem fit_in (i : Nat) (hi1 : 1 ≤ i) (hi2 : i ≤ 24) (t : ByteArray) (m e : Int) (a : Option Addr) (c : Nat) (F : Fo) (T b : Nat) (w : World) (hM : IsMap w b bindsB) (hT : Tbl w T b) (hin : F.In w a) (hl : F.len ≤ c) (hc : c ≤ maxLen) (ht : t.size ≤ maxLen) :
    Calls Try.prog 55 #[.pointer (some ⟨T, 0, none⟩), nodeV i t m e a F.len c] w fun r w' => r = .returned (.bool (Om.fit i t m e F)) ∧ Below w.heap.size w w' := by
  have cases : i = 1 ∨ i = 2 ∨ i = 3 ∨ i = 4 ∨ i = 5 ∨ i = 6 ∨ i = 7 ∨ i = 8 ∨ i = 9 ∨ i = 10 ∨ i = 11 ∨ i = 12 ∨ i = 13 ∨ i = 14 ∨ i = 15 ∨ i = 16 ∨ i = 17 ∨ i = 18 ∨ i = 19 ∨ i = 20 ∨ i = 21 ∨ i = 22 ∨ i = 23 ∨ i = 24 := by omega
  rcases cases with rfl | rfl | rfl | rfl | rfl | rfl | rfl | rfl | rfl | rfl | rfl | rfl | rfl | rfl | rfl | rfl | rfl | rfl | rfl | rfl | rfl | rfl | rfl | rfl
  · rw [fit_eq (lo := 0) (hi := 0) (q := 0) (by decide)]; exact fit_0 1 0 0 hi1 hi2 (by omega) (by omega) (fun h => by omega) t m e a c F T b w hM (hT.cell 3 (by omega)) (hT.cell 4 (by omega)) (hT.cell 5 (by omega)) hin hl hc ht
  · rw [fit_eq (lo := 0) (hi := 0) (q := 0) (by decide)]; exact fit_0 2 0 0 hi1 hi2 (by omega) (by omega) (fun h => by omega) t m e a c F T b w hM (hT.cell 6 (by omega)) (hT.cell 7 (by omega)) (hT.cell 8 (by omega)) hin hl hc ht
  · rw [fit_eq (lo := 0) (hi := 0) (q := 0) (by decide)]; exact fit_0 3 0 0 hi1 hi2 (by omega) (by omega) (fun h => by omega) t m e a c F T b w hM (hT.cell 9 (by omega)) (hT.cell 10 (by omega)) (hT.cell 11 (by omega)) hin hl hc ht
  · rw [fit_eq (lo := 0) (hi := 0) (q := 0) (by decide)]; exact fit_0 4 0 0 hi1 hi2 (by omega) (by omega) (fun h => by omega) t m e a c F T b w hM (hT.cell 12 (by omega)) (hT.cell 13 (by omega)) (hT.cell 14 (by omega)) hin hl hc ht
  · rw [fit_eq (lo := 0) (hi := 0) (q := 1) (by decide)]; exact fit_1 5 0 0 hi1 hi2 (by omega) (by omega) (fun h => by omega) t m e a c F T b w hM (hT.cell 15 (by omega)) (hT.cell 16 (by omega)) (hT.cell 17 (by omega)) hin hl hc ht
  · rw [fit_eq (lo := 0) (hi := 0) (q := 2) (by decide)]; exact fit_2 6 0 0 hi1 hi2 (by omega) (by omega) (fun h => by omega) t m e a c F T b w hM (hT.cell 18 (by omega)) (hT.cell 19 (by omega)) (hT.cell 20 (by omega)) hin hl hc ht
  · rw [fit_eq (lo := 0) (hi := 0) (q := 0) (by decide)]; exact fit_0 7 0 0 hi1 hi2 (by omega) (by omega) (fun h => by omega) t m e a c F T b w hM (hT.cell 21 (by omega)) (hT.cell 22 (by omega)) (hT.cell 23 (by omega)) hin hl hc ht
  · rw [fit_eq (lo := 0) (hi := 0) (q := 2) (by decide)]; exact fit_2 8 0 0 hi1 hi2 (by omega) (by omega) (fun h => by omega) t m e a c F T b w hM (hT.cell 24 (by omega)) (hT.cell 25 (by omega)) (hT.cell 26 (by omega)) hin hl hc ht
  · rw [fit_eq (lo := 0) (hi := 0) (q := 2) (by decide)]; exact fit_2 9 0 0 hi1 hi2 (by omega) (by omega) (fun h => by omega) t m e a c F T b w hM (hT.cell 27 (by omega)) (hT.cell 28 (by omega)) (hT.cell 29 (by omega)) hin hl hc ht
  · rw [fit_eq (lo := 1) (hi := 1) (q := 0) (by decide)]; exact fit_0 10 1 1 hi1 hi2 (by omega) (by omega) (fun h => by omega) t m e a c F T b w hM (hT.cell 30 (by omega)) (hT.cell 31 (by omega)) (hT.cell 32 (by omega)) hin hl hc ht
  · rw [fit_eq (lo := 1) (hi := 1) (q := 0) (by decide)]; exact fit_0 11 1 1 hi1 hi2 (by omega) (by omega) (fun h => by omega) t m e a c F T b w hM (hT.cell 33 (by omega)) (hT.cell 34 (by omega)) (hT.cell 35 (by omega)) hin hl hc ht
  · rw [fit_eq (lo := 1) (hi := 1) (q := 0) (by decide)]; exact fit_0 12 1 1 hi1 hi2 (by omega) (by omega) (fun h => by omega) t m e a c F T b w hM (hT.cell 36 (by omega)) (hT.cell 37 (by omega)) (hT.cell 38 (by omega)) hin hl hc ht
  · rw [fit_eq (lo := 2) (hi := 2) (q := 3) (by decide)]; exact fit_3 13 2 2 hi1 hi2 (by omega) (by omega) (fun h => by omega) t m e a c F T b w hM (hT.cell 39 (by omega)) (hT.cell 40 (by omega)) (hT.cell 41 (by omega)) hin hl hc ht
  · rw [fit_eq (lo := 3) (hi := 3) (q := 0) (by decide)]; exact fit_0 14 3 3 hi1 hi2 (by omega) (by omega) (fun h => by omega) t m e a c F T b w hM (hT.cell 42 (by omega)) (hT.cell 43 (by omega)) (hT.cell 44 (by omega)) hin hl hc ht
  · rw [fit_eq (lo := 2) (hi := 2) (q := 2) (by decide)]; exact fit_2 15 2 2 hi1 hi2 (by omega) (by omega) (fun h => by omega) t m e a c F T b w hM (hT.cell 45 (by omega)) (hT.cell 46 (by omega)) (hT.cell 47 (by omega)) hin hl hc ht
  · rw [fit_eq (lo := 1) (hi := 8) (q := 0) (by decide)]; exact fit_0 16 1 8 hi1 hi2 (by omega) (by omega) (fun h => by omega) t m e a c F T b w hM (hT.cell 48 (by omega)) (hT.cell 49 (by omega)) (hT.cell 50 (by omega)) hin hl hc ht
  · rw [fit_eq (lo := 1) (hi := 8) (q := 0) (by decide)]; exact fit_0 17 1 8 hi1 hi2 (by omega) (by omega) (fun h => by omega) t m e a c F T b w hM (hT.cell 51 (by omega)) (hT.cell 52 (by omega)) (hT.cell 53 (by omega)) hin hl hc ht
  · rw [fit_eq (lo := 1) (hi := 1) (q := 2) (by decide)]; exact fit_2 18 1 1 hi1 hi2 (by omega) (by omega) (fun h => by omega) t m e a c F T b w hM (hT.cell 54 (by omega)) (hT.cell 55 (by omega)) (hT.cell 56 (by omega)) hin hl hc ht
  · rw [fit_eq (lo := 2) (hi := 2) (q := 0) (by decide)]; exact fit_0 19 2 2 hi1 hi2 (by omega) (by omega) (fun h => by omega) t m e a c F T b w hM (hT.cell 57 (by omega)) (hT.cell 58 (by omega)) (hT.cell 59 (by omega)) hin hl hc ht
  · rw [fit_eq (lo := 0) (hi := 8) (q := 0) (by decide)]; exact fit_0 20 0 8 hi1 hi2 (by omega) (by omega) (fun h => by omega) t m e a c F T b w hM (hT.cell 60 (by omega)) (hT.cell 61 (by omega)) (hT.cell 62 (by omega)) hin hl hc ht
  · rw [fit_eq (lo := 2) (hi := 2) (q := 2) (by decide)]; exact fit_2 21 2 2 hi1 hi2 (by omega) (by omega) (fun h => by omega) t m e a c F T b w hM (hT.cell 63 (by omega)) (hT.cell 64 (by omega)) (hT.cell 65 (by omega)) hin hl hc ht
  · rw [fit_eq (lo := 0) (hi := 8) (q := 0) (by decide)]; exact fit_0 22 0 8 hi1 hi2 (by omega) (by omega) (fun h => by omega) t m e a c F T b w hM (hT.cell 66 (by omega)) (hT.cell 67 (by omega)) (hT.cell 68 (by omega)) hin hl hc ht
  · rw [fit_eq (lo := 1) (hi := 1) (q := 2) (by decide)]; exact fit_2 23 1 1 hi1 hi2 (by omega) (by omega) (fun h => by omega) t m e a c F T b w hM (hT.cell 69 (by omega)) (hT.cell 70 (by omega)) (hT.cell 71 (by omega)) hin hl hc ht
  · rw [fit_eq (lo := 1) (hi := 3) (q := 4) (by decide)]; exact fit_4 24 1 3 hi1 hi2 (by omega) (by omega) (fun h => by omega) t m e a c F T b w hM (hT.cell 72 (by omega)) (hT.cell 73 (by omega)) (hT.cell 74 (by omega)) hin hl hc ht
set_option maxHeartbeats 1000000 in
theorem fit_out (k : Int) (hk : ¬ (1 ≤ k ∧ k ≤ 24)) (t : ByteArray) (m e : Int) (a : Option Addr) (c n : Nat) (p : Option Addr) (w : World) :
    Calls Try.prog 55 #[.pointer p, nodeV k t m e a n c] w fun r w' => r = .returned (.bool false) ∧ Below w.heap.size w w' := by
  by_cases h1 : k < 1
  · go_enter Try.func55, Try.ntmps55
    go_wp2_with fail
    go_ret
    exact ⟨rfl, (Below.refl _ w).alloc (Nat.le_refl _) _⟩
  · have h2 : 24 < k := by omega
    go_enter Try.func55, Try.ntmps55
    go_wp2_with fail
    go_ret
    exact ⟨rfl, (Below.refl _ w).alloc (Nat.le_refl _) _⟩
theorem fit_any (k : Int) (t : ByteArray) (m e : Int) (a : Option Addr) (c : Nat) (F : Fo) (T b : Nat) (w : World) (hM : IsMap w b bindsB) (hT : Tbl w T b) (hin : F.In w a) (hl : F.len ≤ c) (hc : c ≤ maxLen) (ht : t.size ≤ maxLen) :
    Calls Try.prog 55 #[.pointer (some ⟨T, 0, none⟩), nodeV k t m e a F.len c] w fun r w' => r = .returned (.bool (Om.fit k t m e F)) ∧ Below w.heap.size w w' := by
  by_cases hk : 1 ≤ k ∧ k ≤ 24
  · obtain ⟨i, rfl⟩ : ∃ i : Nat, k = i := ⟨k.toNat, by omega⟩
    exact fit_in i (by omega) (by omega) t m e a c F T b w hM hT hin hl hc ht
  · have h0 : Om.fit k t m e F = false := by
      unfold Om.fit
      have : (decide (1 ≤ k) && decide (k ≤ 24)) = false := by rw [← Bool.decide_and]; exact decide_eq_false hk
      rw [this]; rfl
    rw [h0]
    exact fit_out k hk t m e a c F.len _ w
end Go.Proofs.Ytbbbmmemfndnlaa
/- Contract: TreeOk of the program. -/
namespace Go.Proofs.Ytbbbmmemfndnlaa
open Go.RowKit Go.Shelf
attribute [local go_sem] Oper.semAt_some cell_alloc_is frozen_alloc_is

theorem wpListIn_store_row {F : Fence} {nF : Nat} {P : Program} {ops : Array Oper} {rest : List Oper} {op : Oper} {a : Act} {w : World} {Q : Exit → Act → World → Prop} (hgd : op.guard = none) (ty : TypeId) (x y : Operand) (ho : op.op = .store ty x y)
    (b : Nat) (c c' : Array Value) (hx : a.eval x = .pointer (some ⟨b, 0, none⟩)) (hy : a.eval y = .agg c') (hb : w.heap[b]? = some (.cells c ty (0, 0))) (hi : (P.info? ty).map (·.size) = some c'.size) (hs : c.size = c'.size) (h1 : c'.all (·.oneCell') = true)
    (h : wpListIn F nF P ops Q rest (a.put op.dst undef) (w.setRow b c')) : wpListIn F nF P ops Q (op :: rest) a w := by
  refine wpListIn_plain hgd fun K hK => ?_
  unfold Oper.wpIn
  refine ⟨by simp [Oper.about, ho], ?_⟩
  rw [Oper.semAt_plain F _ _ (by rw [ho]; intro c hc'; cases hc')]
  unfold execOp
  simp only [ho, hx, hy, Instr.storeAt, Instr.sureAddr, Sem.run_bind, Sem.run_pure, Result.andThen_ok, run_storeVar_row w b ty ty c c' hb hi hs h1]
  exact hK _ _ h
theorem wpListIn_store_new {F : Fence} {nF : Nat} {P : Program} {ops : Array Oper} {rest : List Oper} {op : Oper} {a : Act} {w : World} {Q : Exit → Act → World → Prop} (hgd : op.guard = none) (ty : TypeId) (x y : Operand) (ho : op.op = .store ty x y)
    (c c' : Array Value) (hx : a.eval x = .pointer (some ⟨w.heap.size, 0, none⟩)) (hy : a.eval y = .agg c') (hi : (P.info? ty).map (·.size) = some c'.size) (hs : c.size = c'.size) (h1 : c'.all (·.oneCell') = true)
    (h : wpListIn F nF P ops Q rest (a.put op.dst undef) (w.alloc (.cells c' ty))) : wpListIn F nF P ops Q (op :: rest) a (w.alloc (.cells c ty)) :=
  wpListIn_store_row hgd ty x y ho w.heap.size c c' hx hy (World.alloc_heap_new w _) hi hs h1 (by rw [World.setRow_alloc_new]; exact h)
/-- all in a list so far are as they are to be -/
def Good {w : World} (pre : List (TI w)) : Prop := pre.length ≤ 200 ∧ ∀ x ∈ pre, x.d ≤ 20 ∧ Om.fit x.k x.t x.m x.e x.kids = true
theorem own_block {B : Nat} {W W' : World} {row : Option Nat} (hg : W.grownBy W' row) (hr : ∀ r, row = some r → B ≤ r ∧ ∃ o : Obj, W.heap[r]? = some o ∧ o.isCells = false) {j : Nat} {o : Obj} (hj : W.heap[j]? = some o) (h : j < B ∨ o.isCells = true) : W'.heap[j]? = some o := by
  refine (hg.block j (Array.getElem?_eq_some_iff.1 hj).1 ?_).trans hj
  intro e
  obtain ⟨h1, o', h2, h3⟩ := hr j e.symm
  rcases h with h | h
  · omega
  · rw [hj] at h2; cases h2; rw [h] at h3; cases h3

/-- a tree and all below it, at most 200, none deeper than 20, each as its kind asks -/
def TreeGood (k : Int) (t : ByteArray) (m e : Int) (F : Fo) : Prop := ((1, k, t, m, e, F) :: F.flat 2).length ≤ 200 ∧ ∀ x ∈ ((1, k, t, m, e, F) :: F.flat 2), x.1 ≤ 20 ∧ Om.fit x.2.1 x.2.2.1 x.2.2.2.1 x.2.2.2.2.1 x.2.2.2.2.2 = true
/-- it is said whether -/
def Says (p : Prop) (r : Ending) : Prop := ∃ q : Bool, r = .returned (.bool q) ∧ (q = true ↔ p)
set_option maxRecDepth 100000 in
set_option maxHeartbeats 2000000 in
theorem iTreeOk_main (k : Int) (t : ByteArray) (m e : Int) (a : Option Addr) (c : Nat) (F : Fo) (w : World) (hk : ¬ k = 23) (hF : F.size ≤ 2000000) (hin : F.In w a) (hl : F.len ≤ c) (hc : c ≤ maxLen) (ht : t.size ≤ maxLen) :
    Calls Try.prog 28 #[nodeV k t m e a F.len c] w fun r w' => Says (TreeGood k t m e F) r ∧ Below w.heap.size w w' := by
  have hk23 : (k == 23) = false := by simp [hk]
  refine (callsIn_wide (n := 5)).1 ?_
  refine callsIn_of_wp_marks Try.func28 rfl trivial ?_ rfl
  simp only [Try.ntmps28, List.size_toArray, List.length_cons, List.length_nil, Nat.reduceAdd, Nat.reduceSub, Array.replicate_succ, Array.replicate_zero, List.push_toArray, List.append_toArray, List.nil_append, List.cons_append]
  gi_wp2_with fail
  refine ⟨trivial, (callsIn_wide.2 (nodeKinds_any _)).mono ?_⟩
  rintro r w1 ⟨b, rfl, hb1, hm1, hB1⟩
  have hB1' : Below w.heap.size w w1 := (((Below.refl _ w).alloc (Nat.le_refl _) _).alloc (by simp) _).trans (hB1.mono (by simp; omega))
  have d0 : w1.cell? ⟨w.heap.size, 0, none⟩ = some (.int .i64 k) := (hB1.cell (p := ⟨w.heap.size, 0, none⟩) (by simp; omega)).trans (by simp)
  have d1 : w1.cell? ⟨w.heap.size, 1, none⟩ = some (.string t) := (hB1.cell (p := ⟨w.heap.size, 1, none⟩) (by simp; omega)).trans (by simp)
  have d2 : w1.cell? ⟨w.heap.size, 2, none⟩ = some (.int .i64 m) := (hB1.cell (p := ⟨w.heap.size, 2, none⟩) (by simp; omega)).trans (by simp)
  have d3 : w1.cell? ⟨w.heap.size, 3, none⟩ = some (.int .i64 e) := (hB1.cell (p := ⟨w.heap.size, 3, none⟩) (by simp; omega)).trans (by simp)
  have d4 : w1.cell? ⟨w.heap.size, 4, none⟩ = some (.slice a F.len c) := (hB1.cell (p := ⟨w.heap.size, 4, none⟩) (by simp; omega)).trans (by simp)
  have hBr : w1.heap[w.heap.size + 1]? = some (.cells #[.bool false] 4 (0, 0)) := (hB1.block _ (by simp)).trans (by have := World.alloc_heap_new (w.alloc (.cells #[.int .i64 k, .string t, .int .i64 m, .int .i64 e, .slice a F.len c] 33)) (.cells #[.bool false] 4); rwa [World.size_alloc] at this)
  have hsz1 : w.heap.size + 2 ≤ w1.heap.size := by have := hB1.size; simp at this; omega
  have hb1' : w.heap.size + 2 ≤ b := by simp at hb1; omega
  clear hB1 hb1
  gi_wp2_with (refine wpListIn_store_new rfl 72 (.tmp 3) (.tmp 10) rfl _ (tblV b) rfl rfl tblInfo zeroTbl_size (tbl_one _) ?_)
  refine ⟨trivial, (callsIn_wide.2 (nodes_any k t m e a F.len c _)).mono ?_⟩
  rintro r W0 ⟨B, hBge, rfl, ⟨n0, n1, n2, n3, n4⟩, hBn⟩
  have hT0 : Tbl W0 w1.heap.size b := (hBn.block _ (by simp; omega)).trans ((Below.heap_alloc _ _ _ (by simp)).trans (World.alloc_heap_new w1 _))
  have hS0 : W0.heap[w1.heap.size + 1]? = some (.cells #[.int .i64 0] 3 (0, 0)) := (hBn.block _ (by simp)).trans (by have := World.alloc_heap_new (w1.alloc (.cells (tblV b) 72)) (.cells #[.int .i64 0] 3); rwa [World.size_alloc] at this)
  have hml := (Array.getElem?_eq_some_iff.1 hm1).1
  have hA : Below w1.heap.size w1 W0 := (((Below.refl _ w1).alloc (Nat.le_refl _) _).alloc (by simp) _).trans (hBn.mono (by simp; omega))
  have hM0 : IsMap W0 b bindsB := hm1.grown hA
  have hR0 : W0.heap[w.heap.size + 1]? = some (.cells #[.bool false] 4 (0, 0)) := (hA.block _ (by omega)).trans hBr
  have hBW : Below w.heap.size w W0 := hB1'.trans (hA.mono (by omega))
  have hsz2 : w1.heap.size + 2 ≤ W0.heap.size := by have := hBn.size; simp at this; omega
  have hBlt := World.block_lt_of_cell? W0 _ n0
  have hm2 : b ≠ w.heap.size + 1 := by omega
  have hm3 : b < w1.heap.size := hml
  clear hBn hA hB1' hm1 hBr d0 d1 d2 d3 d4 hml
  gi_wp2_with fail
  refine wpIn_rangeFunc_ownH rfl (by omega) (gf := 90) (lb := #[.pointer (some ⟨B, 0, none⟩)]) rfl trivial (enters_of Try.func90 (by kernel_rfl) rfl)
    (all_stops w 4 w.heap.size W0.heap.size B ⟨1, k, t, m, e, a, F, c, hin, hl, hc, ht⟩ W0 rfl (by show F.size ≤ 2000000; omega) (Nat.le_refl _) (Nat.le_refl _) (Sub.of_below hBW) n0 n1 n2 n3 n4)
    Kept.trans (fun W l o o' hl' h hcl _ => ⟨(grownBy_putObj' W l o').size, fun j x hx hxc _ => ((grownBy_putObj' W l o').block j (Array.getElem?_eq_some_iff.1 hx).1 (by intro e; cases e; rw [h] at hx; cases hx; rw [hcl] at hxc; cases hxc)).trans hx⟩)
    (Below.refl _ _) (fun _ => rfl)
    (fun pre W => (((W.heap[w.heap.size + 1]? = some (.cells #[.bool false] 4 (0, 0)) ∧ W.heap[w1.heap.size + 1]? = some (.cells #[.int .i64 pre.length] 3 (0, 0))) ∧ Tbl W w1.heap.size b ∧ IsMap W b bindsB) ∧ (Good pre ∧ W0.heap.size ≤ W.heap.size)) ∧ Below w.heap.size w W)
    (fun cd pre W => ((cd = .ret ∧ ¬ Good pre) ∧ W.heap[w.heap.size + 1]? = some (.cells #[.bool false] 4 (0, 0))) ∧ Below w.heap.size w W)
    (OwnFrom.and (fun s W W' row hs hg hr => ⟨⟨⟨own_block hg hr hs.1.1.1 (.inl (by omega)), own_block hg hr hs.1.1.2 (.inl (by omega))⟩, own_block hg hr hs.1.2.1 (.inl (by omega)), own_block hg hr hs.1.2.2 (.inl (by omega))⟩, hs.2.1, Nat.le_trans hs.2.2 hg.size⟩) (ownFrom_below (Nat.le_refl _) (by omega)))
    (fun cd => OwnFrom.and (fun s W W' row hs hg hr => ⟨hs.1, own_block hg hr hs.2 (.inl (by omega))⟩) (ownFrom_below (Nat.le_refl _) (by omega)))
    ⟨⟨⟨⟨hR0, hS0⟩, hT0, hM0⟩, by simp [Good], Nat.le_refl _⟩, hBW⟩
    (fun x a' W => ∃ Bx, W0.heap.size ≤ Bx ∧ W.heap[Bx]? = some (.cells #[.int .i64 x.k, .string x.t, .int .i64 x.m, .int .i64 x.e, .slice x.a x.kids.len x.c] 33 (0, 0)) ∧ a' = { tmps := #[nodeV k t m e a F.len c, .pointer (some ⟨w.heap.size, 0, none⟩), .pointer (some ⟨w.heap.size + 1, 0, none⟩), .pointer (some ⟨w1.heap.size, 0, none⟩), .pointer (some ⟨w1.heap.size + 1, 0, none⟩), .int .i64 x.d, .pointer (some ⟨Bx, 0, none⟩), .pointer (some ⟨w.heap.size, 0, none⟩), .int .i64 k, .bool false, .agg (tblV b), nodeV k t m e a F.len c, .func (.func 90) #[] #[.pointer (some ⟨B, 0, none⟩)], .int .i64 x.d, .agg #[.int .i64 x.k, .string x.t, .int .i64 x.m, .int .i64 x.e, .slice x.a x.kids.len x.c], undef, undef, undef, undef, undef, undef, undef, undef, undef, undef, undef, undef, undef], defers := [] })
    (fun x a' _ W W' row hs hg hr => by obtain ⟨Bx, e1, e2, e3⟩ := hs; exact ⟨Bx, e1, own_block hg hr e2 (.inr rfl), e3⟩)
    ?assign ?body ?done ?stop
  case assign =>
    rintro l pre x W K ⟨⟨⟨⟨hR, hS⟩, hT, hM⟩, hg, hz⟩, hB⟩ hK
    have hbA : Below W.heap.size W (W.alloc (.cells #[.int .i64 x.k, .string x.t, .int .i64 x.m, .int .i64 x.e, .slice x.a x.kids.len x.c] 33)) := (Below.refl _ W).alloc (Nat.le_refl _) _
    dsimp only [TI.enc]
    gi_wp2
    exact hK _ _ ((KeepsOthers.alloc _ _).from _) (Kept.of_below hbA)
      ⟨⟨⟨⟨(hbA.block _ (Array.getElem?_eq_some_iff.1 hR).1).trans hR, (hbA.block _ (Array.getElem?_eq_some_iff.1 hS).1).trans hS⟩, hT.grow hbA, hM.grown hbA⟩, hg, Nat.le_trans hz hbA.size⟩, hB.trans (hbA.mono hB.size)⟩
      ⟨W.heap.size, hz, World.alloc_heap_new W _, rfl⟩
  case body =>
    rintro l pre x a' W hl' ⟨rr, hrr⟩ ⟨⟨⟨⟨hR, hS⟩, hT, hM⟩, hg, hz⟩, hB⟩ ⟨Bx, hBx, hX, rfl⟩ hlt
    have cS := (show Boxed W (w1.heap.size + 1) 3 (.int .i64 pre.length) from hS).cell
    have fS := (show Boxed W (w1.heap.size + 1) 3 (.int .i64 pre.length) from hS).frozen
    have hgl := hg.1
    have x0 : W.cell? ⟨Bx, 0, none⟩ = some (.int .i64 x.k) := by simp [World.cell?, hX]
    have x1 : W.cell? ⟨Bx, 1, none⟩ = some (.string x.t) := by simp [World.cell?, hX]
    have x2 : W.cell? ⟨Bx, 2, none⟩ = some (.int .i64 x.m) := by simp [World.cell?, hX]
    have x3 : W.cell? ⟨Bx, 3, none⟩ = some (.int .i64 x.e) := by simp [World.cell?, hX]
    have x4 : W.cell? ⟨Bx, 4, none⟩ = some (.slice x.a x.kids.len x.c) := by simp [World.cell?, hX]
    have cR := (show Boxed W (w.heap.size + 1) 4 (.bool false) from hR).cell
    have fR := (show Boxed W (w.heap.size + 1) 4 (.bool false) from hR).frozen
    have hne : ¬ w1.heap.size + 1 = Bx := by omega
    have hne2 : ¬ w1.heap.size + 1 = w.heap.size + 1 := by omega
    obtain ⟨Wn, hWn⟩ : ∃ Wn, Wn = W.setCell ⟨w1.heap.size + 1, 0, none⟩ (.int .i64 ((pre.length : Int) + 1)) := ⟨_, rfl⟩
    have hSn : Wn.heap[w1.heap.size + 1]? = some (.cells #[.int .i64 ((pre ++ [x]).length : Nat)] 3 (0, 0)) := by rw [hWn, show ((pre.length : Int) + 1) = (((pre ++ [x]).length : Nat) : Int) by simp]; exact Boxed.set _ (show Boxed W (w1.heap.size + 1) 3 (.int .i64 pre.length) from hS)
    have hoth : ∀ j, j ≠ w1.heap.size + 1 → Wn.heap[j]? = W.heap[j]? := fun j hj => by rw [hWn]; exact Below.heap_setCell _ _ _ j (fun e => hj e)
    have hKo : KeepsOthers W Wn := by rw [hWn]; exact KeepsOthers.setCell _ _ _
    have hBn : Below w.heap.size w Wn := by rw [hWn]; exact hB.setCell (p := ⟨w1.heap.size + 1, 0, none⟩) (by show _ ≤ _ + 1; omega) _
    have hszn : Wn.heap.size = W.heap.size := by rw [hWn]; simp [World.setCell]
    have hKn : Kept w.heap.size W0.heap.size W Wn := ⟨by omega, fun j o ho _ hj => (hoth j (by omega)).trans ho⟩
    have hRn : Wn.heap[w.heap.size + 1]? = some (.cells #[.bool false] 4 (0, 0)) := (hoth _ (by omega)).trans hR
    have hTn : Tbl Wn w1.heap.size b := (hoth _ (by omega)).trans hT
    have hMn : IsMap Wn b bindsB := (hoth _ (by omega)).trans hM
    by_cases q1 : pre.length + 1 ≤ 200
    · have q1' : ¬ (200 : Int) < (pre.length : Int) + 1 := by omega
      by_cases q2 : x.d ≤ 20
      · have q2' : ¬ (20 : Int) < (x.d : Int) := by omega
        gi_wp2_with fail
        rw [← hWn]
        clear hWn x0 x1 x2 x3 x4 cS fS cR fR
        refine ⟨trivial, (CallsIn.inRound l (callsIn_wide.2 (fit_any x.k x.t x.m x.e x.a x.c x.kids w1.heap.size b Wn hMn hTn (x.hin.sub (Sub.of_below hBn)) x.hl x.hc x.ht))).mono ?_⟩
        rintro r W2 ⟨rfl, hb2⟩
        have hB2 := hBn.trans (hb2.mono hBn.size)
        have cR2 : W2.heap[w.heap.size + 1]? = some (.cells #[.bool false] 4 (0, 0)) := (hb2.block _ (Array.getElem?_eq_some_iff.1 hRn).1).trans hRn
        have hKo2 : KeepsOthers W W2 := hKo.trans (KeepsOthers.of_grownBy (grown_below hb2) (fun j o e => by cases e))
        generalize hfit : Om.fit x.k x.t x.m x.e x.kids = ft
        cases ft
        · have cR3 := (show Boxed W2 (w.heap.size + 1) 4 (.bool false) from cR2).cell
          have fR3 := (show Boxed W2 (w.heap.size + 1) 4 (.bool false) from cR2).frozen
          gi_wp2_with fail
          refine ⟨(hKo2.trans (KeepsOthers.setCell _ _ _)).from _, ⟨⟨rfl, fun hgd => ?_⟩, Boxed.set (.bool false) (show Boxed W2 (w.heap.size + 1) 4 (.bool false) from cR2)⟩, hB2.setCell (p := ⟨w.heap.size + 1, 0, none⟩) (by show _ ≤ _ + 1; omega) _⟩
          have := (hgd.2 x (by simp)).2
          rw [hfit] at this
          cases this
        · gi_wp2_with fail
          refine ⟨hKo2.from _, hKn.trans (Kept.of_below hb2), ⟨⟨⟨cR2, (hb2.block _ (Array.getElem?_eq_some_iff.1 hSn).1).trans hSn⟩, hTn.grow hb2, hMn.grown hb2⟩, ⟨by simp; omega, fun y hy => ?_⟩, by have := hb2.size; omega⟩, hB2⟩
          rcases List.mem_append.1 hy with hy | hy
          · exact hg.2 y hy
          · obtain rfl : y = x := by simpa using hy
            exact ⟨q2, hfit⟩
      · have q2' : (20 : Int) < (x.d : Int) := by omega
        gi_wp2_with fail
        refine ⟨trivial, ?_⟩
        gi_wp2_with fail
        rw [← hWn]
        refine ⟨(hKo.trans (KeepsOthers.setCell _ _ _)).from _, ⟨⟨rfl, fun hgd => ?_⟩, Boxed.set (.bool false) (show Boxed Wn (w.heap.size + 1) 4 (.bool false) from hRn)⟩, hBn.setCell (p := ⟨w.heap.size + 1, 0, none⟩) (by show _ ≤ _ + 1; omega) _⟩
        exact absurd (hgd.2 x (by simp)).1 q2
    · have q1' : (200 : Int) < (pre.length : Int) + 1 := by omega
      gi_wp2_with fail
      refine ⟨trivial, ?_⟩
      gi_wp2_with fail
      rw [← hWn]
      refine ⟨(hKo.trans (KeepsOthers.setCell _ _ _)).from _, ⟨⟨rfl, fun hgd => ?_⟩, Boxed.set (.bool false) (show Boxed Wn (w.heap.size + 1) 4 (.bool false) from hRn)⟩, hBn.setCell (p := ⟨w.heap.size + 1, 0, none⟩) (by show _ ≤ _ + 1; omega) _⟩
      have := hgd.1
      simp at this
      omega
  case done =>
    rintro D ys W hD hS ⟨⟨⟨⟨hR, _⟩, _, _⟩, hg, _⟩, hB⟩ hK
    have cR := (show Boxed W (w.heap.size + 1) 4 (.bool false) from hR).cell
    have fR := (show Boxed W (w.heap.size + 1) 4 (.bool false) from hR).frozen
    gi_wp2
    have hK' := (KeepsOthers.setCell W ⟨w.heap.size + 1, 0, none⟩ (.bool true)).same D _ hK rfl
    refine ⟨by simp, .inl ⟨_, _, rfl, run_takeDeferred hK', ?_⟩⟩
    have hc5 := cell_kept (Boxed.set (.bool true) (show Boxed W (w.heap.size + 1) 4 (.bool false) from hR)).cell (grownBy_putObj' _ D (.deferred none)) (fun r e => by cases e; exact ⟨_, hK', rfl⟩)
    refine ⟨.bool true, ?_, ⟨true, rfl, ?_⟩, (hB.setCell (p := ⟨w.heap.size + 1, 0, none⟩) (by show _ ≤ _ + 1; omega) _).trans (belowK_b (w := w) (Nat.le_refl _) _ D _ _ (by omega) hK' rfl rfl)⟩
    · simp [results, Try.results28, go_sem, hc5]
    · have hS' : ys.map TI.raw = (1, k, t, m, e, F) :: F.flat 2 := hS
      unfold TreeGood
      rw [← hS']
      refine ⟨fun _ => ⟨by rw [List.length_map]; exact hg.1, fun z hz => ?_⟩, fun _ => rfl⟩
      obtain ⟨y, hy, rfl⟩ := List.mem_map.1 hz
      exact hg.2 y hy
  case stop =>
    rintro D cd pre W hD hpre ⟨⟨⟨rfl, hng⟩, hR⟩, hB⟩ hK
    gi_wp2
    refine ⟨by simp, .inl ⟨_, _, rfl, run_takeDeferred hK, ?_⟩⟩
    have hc5 := cell_kept (show Boxed W (w.heap.size + 1) 4 (.bool false) from hR).cell (grownBy_putObj' _ D (.deferred none)) (fun r e => by cases e; exact ⟨_, hK, rfl⟩)
    refine ⟨.bool false, ?_, ⟨false, rfl, ?_⟩, hB.trans (belowK_b (w := w) (Nat.le_refl _) W D _ _ (by omega) hK rfl rfl)⟩
    · simp [results, Try.results28, go_sem, hc5]
    · have hS' : pre.map TI.raw <+: (1, k, t, m, e, F) :: F.flat 2 := hpre
      refine ⟨fun h => (by cases h), fun h => absurd (⟨?_, fun y hy => ?_⟩ : Good pre) hng⟩
      · have := hS'.length_le
        have h1 := h.1
        rw [List.length_map] at this
        omega
      · exact h.2 y.raw (hS'.subset (List.mem_map.2 ⟨y, hy, rfl⟩))
set_option maxHeartbeats 1000000 in
theorem iTreeOk_field (t : ByteArray) (m e : Int) (a : Option Addr) (n c : Nat) (w : World) :
    Calls Try.prog 28 #[nodeV 23 t m e a n c] w fun r w' => r = .returned (.bool false) ∧ Below w.heap.size w w' := by
  refine (callsIn_wide (n := 5)).1 ?_
  refine callsIn_of_wp_marks Try.func28 rfl trivial ?_ rfl
  simp only [Try.ntmps28, List.size_toArray, List.length_cons, List.length_nil, Nat.reduceAdd, Nat.reduceSub, Array.replicate_succ, Array.replicate_zero, List.push_toArray, List.append_toArray, List.nil_append, List.cons_append]
  gi_wp2_with fail
  refine ⟨.bool false, ?_, rfl, ((Below.refl _ w).alloc (Nat.le_refl _) _).alloc (by simp) _⟩
  simp [results, Try.results28, go_sem]
theorem iTreeOk_any (k : Int) (t : ByteArray) (m e : Int) (a : Option Addr) (c : Nat) (F : Fo) (w : World) (hF : F.size ≤ 2000000) (hin : F.In w a) (hl : F.len ≤ c) (hc : c ≤ maxLen) (ht : t.size ≤ maxLen) :
    Calls Try.prog 28 #[nodeV k t m e a F.len c] w fun r w' => Says (¬ k = 23 ∧ TreeGood k t m e F) r ∧ Below w.heap.size w w' := by
  by_cases hk : k = 23
  · subst hk
    refine (iTreeOk_field t m e a F.len c w).mono ?_
    rintro r w' ⟨rfl, h⟩
    exact ⟨⟨false, rfl, fun h => (by cases h), fun h => absurd rfl h.1⟩, h⟩
  · refine (iTreeOk_main k t m e a c F w hk hF hin hl hc ht).mono ?_
    rintro r w' ⟨⟨q, rfl, hq⟩, h⟩
    exact ⟨⟨q, rfl, hq.trans ⟨fun h => ⟨hk, h⟩, fun h => h.2⟩⟩, h⟩
end Go.Proofs.Ytbbbmmemfndnlaa
/- Which trees are ok: by their measure, and each by itself. -/
namespace Go.Proofs.Ytbbbmmemfndnlaa
/-- all in a list, and all below, are as their kinds ask -/
def Fo.allFit : Fo → Bool
  | .nil => true
  | .cons k t m e _ _ kids next => Om.fit k t m e kids && (kids.allFit && next.allFit)
theorem Fo.deep_nil {F : Fo} (h : F.len = 0) : F.deep = 0 := by
  cases F with
  | nil => rfl
  | cons k t m e a c kids next => exact absurd h (Nat.succ_ne_zero _)
theorem Fo.flat_all : ∀ (F : Fo) (d : Nat), (∀ x ∈ F.flat d, x.1 ≤ 20 ∧ Om.fit x.2.1 x.2.2.1 x.2.2.2.1 x.2.2.2.2.1 x.2.2.2.2.2 = true) ↔ (F.len = 0 ∨ d + F.deep ≤ 21) ∧ F.allFit = true := by
  intro F
  induction F with
  | nil => intro d; exact ⟨fun _ => ⟨.inl rfl, rfl⟩, fun _ x hx => by cases hx⟩
  | cons k t m e a c kids next ih1 ih2 =>
    intro d
    have hf : (Fo.cons k t m e a c kids next).flat d = (d, k, t, m, e, kids) :: (kids.flat (d + 1) ++ next.flat d) := rfl
    have hd : (Fo.cons k t m e a c kids next).deep = max (kids.deep + 1) next.deep := rfl
    have ha : (Fo.cons k t m e a c kids next).allFit = (Om.fit k t m e kids && (kids.allFit && next.allFit)) := rfl
    have hl : ¬ (Fo.cons k t m e a c kids next).len = 0 := Nat.succ_ne_zero _
    rw [hf, hd, ha, List.forall_mem_cons, List.forall_mem_append, ih1 (d + 1), ih2 d, Bool.and_eq_true, Bool.and_eq_true]
    have k0 := @Fo.deep_nil kids
    have n0 := @Fo.deep_nil next
    constructor
    · rintro ⟨⟨h1, h2⟩, ⟨h3, h4⟩, h5, h6⟩
      refine ⟨.inr ?_, h2, h4, h6⟩
      have h1' : d ≤ 20 := h1
      have e1 : d + 1 + kids.deep ≤ 21 := by
        rcases h3 with h3 | h3
        · have := k0 h3; omega
        · exact h3
      have e2 : d + next.deep ≤ 21 := by
        rcases h5 with h5 | h5
        · have := n0 h5; omega
        · exact h5
      omega
    · rintro ⟨h1, h2, h4, h6⟩
      rcases h1 with h1 | h1
      · exact absurd h1 hl
      · exact ⟨⟨by show d ≤ 20; omega, h2⟩, ⟨.inr (by omega), h4⟩, .inr (by omega), h6⟩
theorem good_iff (k : Int) (t : ByteArray) (m e : Int) (F : Fo) : TreeGood k t m e F ↔ (F.size + 1 ≤ 200 ∧ F.deep + 1 ≤ 20) ∧ Om.fit k t m e F = true ∧ F.allFit = true := by
  unfold TreeGood
  rw [List.forall_mem_cons, Fo.flat_all F 2, List.length_cons, Fo.flat_len]
  have k0 := @Fo.deep_nil F
  constructor
  · rintro ⟨h1, ⟨_, h2⟩, h3, h4⟩
    refine ⟨⟨h1, ?_⟩, h2, h4⟩
    rcases h3 with h3 | h3
    · have := k0 h3; omega
    · omega
  · rintro ⟨⟨h1, h2⟩, h3, h4⟩
    exact ⟨h1, ⟨by show 1 ≤ 20; omega, h3⟩, .inr (by omega), h4⟩
end Go.Proofs.Ytbbbmmemfndnlaa
/- Which trees are ok: the specification's way and the program's are one. -/
namespace Go.Proofs.Ytbbbmmemfndnlaa
/-- at a place: it fits, and all below it -/
def Fo.fitAt (F : Fo) (i : Nat) : Bool := Om.fit (F.kindAt i) (F.textAt i) (F.manAt i) (F.expAt i) (F.kidsAt i) && (F.kidsAt i).allFit
theorem Fo.allFit_iff : ∀ (F : Fo), F.allFit = true ↔ ∀ i, i < F.len → F.fitAt i = true := by
  intro F
  induction F with
  | nil => exact ⟨fun _ i h => absurd h (Nat.not_lt_zero _), fun _ => rfl⟩
  | cons k t m e a c kids next _ ih =>
    have ha : (Fo.cons k t m e a c kids next).allFit = (Om.fit k t m e kids && (kids.allFit && next.allFit)) := rfl
    rw [ha, Bool.and_eq_true, Bool.and_eq_true, ih]
    constructor
    · rintro ⟨h1, h2, h3⟩ i hi
      cases i with
      | zero => show (Om.fit k t m e kids && kids.allFit) = true; rw [h1, h2]; rfl
      | succ i => exact h3 i (Nat.lt_of_succ_lt_succ hi)
    · intro h
      have h0 : (Om.fit k t m e kids && kids.allFit) = true := h 0 (Nat.succ_pos _)
      rw [Bool.and_eq_true] at h0
      exact ⟨h0.1, h0.2, fun i hi => h (i + 1) (Nat.succ_lt_succ hi)⟩
theorem Fo.cnt_all (F : Fo) (q : Int) (n : Nat) : F.cnt q n = n ↔ ∀ i, i < n → F.kindAt i = q := by
  induction n with
  | zero => exact ⟨fun _ i h => absurd h (Nat.not_lt_zero _), fun _ => rfl⟩
  | succ n ih =>
    show F.cnt q n + (if F.kindAt n = q then 1 else 0) = n + 1 ↔ _
    have hle := F.cnt_le q n
    constructor
    · intro h i hi
      by_cases hq : F.kindAt n = q
      · rw [if_pos hq] at h
        rcases Nat.lt_succ_iff_lt_or_eq.1 hi with hi | rfl
        · exact ih.1 (by omega) i hi
        · exact hq
      · rw [if_neg hq] at h; omega
    · intro h
      rw [if_pos (h n (Nat.lt_succ_self n)), ih.2 fun i hi => h i (Nat.lt_succ_of_lt hi)]
theorem Fo.cnt_none (F : Fo) (q : Int) (n : Nat) : F.cnt q n = 0 ↔ ∀ i, i < n → ¬ F.kindAt i = q := by
  induction n with
  | zero => exact ⟨fun _ i h => absurd h (Nat.not_lt_zero _), fun _ => rfl⟩
  | succ n ih =>
    show F.cnt q n + (if F.kindAt n = q then 1 else 0) = 0 ↔ _
    constructor
    · intro h i hi
      by_cases hq : F.kindAt n = q
      · rw [if_pos hq] at h; omega
      · rcases Nat.lt_succ_iff_lt_or_eq.1 hi with hi | rfl
        · exact ih.1 (by omega) i hi
        · exact hq
    · intro h
      rw [if_neg (h n (Nat.lt_succ_self n)), ih.2 fun i hi => h i (Nat.lt_succ_of_lt hi)]
theorem allN_iff (p : Nat → Bool) (fr n : Nat) : allN p fr n = true ↔ ∀ i, fr ≤ i → i < n → p i = true := by
  induction n with
  | zero => exact ⟨fun _ i _ h => absurd h (Nat.not_lt_zero _), fun _ => rfl⟩
  | succ n ih =>
    show (allN p fr n && (decide (n < fr) || p n)) = true ↔ _
    rw [Bool.and_eq_true, ih, Bool.or_eq_true, decide_eq_true_eq]
    constructor
    · rintro ⟨h1, h2⟩ i hf hi
      rcases Nat.lt_succ_iff_lt_or_eq.1 hi with hi | rfl
      · exact h1 i hf hi
      · rcases h2 with h2 | h2
        · omega
        · exact h2
    · intro h
      refine ⟨fun i hf hi => h i hf (Nat.lt_succ_of_lt hi), ?_⟩
      by_cases hn : n < fr
      · exact .inl hn
      · exact .inr (h n (by omega) (Nat.lt_succ_self n))
theorem Fo.fldN_iff (F : Fo) (q : Nat → Bool) (n : Nat) : F.fldN q n = true ↔ (∀ i, i < n → q i = true) ∧ F.dist n = true := by
  induction n with
  | zero => exact ⟨fun _ => ⟨fun i h => absurd h (Nat.not_lt_zero _), rfl⟩, fun _ => rfl⟩
  | succ n ih =>
    show (F.fldN q n && (q n && F.newAt n n)) = true ↔ _ ∧ (F.dist n && F.newAt n n) = true
    rw [Bool.and_eq_true, Bool.and_eq_true, Bool.and_eq_true, ih]
    constructor
    · rintro ⟨⟨h1, h2⟩, h3, h4⟩
      refine ⟨fun i hi => ?_, h2, h4⟩
      rcases Nat.lt_succ_iff_lt_or_eq.1 hi with hi | rfl
      · exact h1 i hi
      · exact h3
    · rintro ⟨h1, h2, h4⟩
      exact ⟨⟨fun i hi => h1 i (Nat.lt_succ_of_lt hi), h2⟩, h1 n (Nat.lt_succ_self n), h4⟩
theorem Fo.nmOk_iff (F : Fo) (n : Nat) : F.nmOk n = true ↔ (∀ i, i < n → F.nameHead i = true) ∧ F.dist n = true := by
  induction n with
  | zero => exact ⟨fun _ => ⟨fun i h => absurd h (Nat.not_lt_zero _), rfl⟩, fun _ => rfl⟩
  | succ n ih =>
    show (F.nmOk n && (F.nameHead n && F.newAt n n)) = true ↔ _ ∧ (F.dist n && F.newAt n n) = true
    rw [Bool.and_eq_true, Bool.and_eq_true, Bool.and_eq_true, ih]
    constructor
    · rintro ⟨⟨h1, h2⟩, h3, h4⟩
      refine ⟨fun i hi => ?_, h2, h4⟩
      rcases Nat.lt_succ_iff_lt_or_eq.1 hi with hi | rfl
      · exact h1 i hi
      · exact h3
    · rintro ⟨h1, h2, h4⟩
      exact ⟨⟨fun i hi => h1 i (Nat.lt_succ_of_lt hi), h2⟩, h1 n (Nat.lt_succ_self n), h4⟩
theorem Fo.nil_of_len {F : Fo} (h : F.len = 0) : F = .nil := by
  cases F with
  | nil => rfl
  | cons k t m e a c kids next => exact absurd h (Nat.succ_ne_zero _)
/-- what fits by the program's table, told apart -/
theorem fit_iff (k : Int) (t : ByteArray) (m e : Int) (F : Fo) : Om.fit k t m e F = true ↔ (1 ≤ k ∧ k ≤ 24) ∧ (Om.low' k ≤ F.len ∧ F.len ≤ Om.high' k) ∧ Om.textOf (Om.sort k) t = true ∧ Om.num k m e = true ∧ Om.below k t F = true := by
  unfold Om.fit
  simp only [Bool.and_eq_true, decide_eq_true_eq]
  constructor
  · rintro ⟨⟨h1, h2, h3⟩, h4, h5⟩; exact ⟨h1, h2, h3, h4, h5⟩
  · rintro ⟨h1, h2, h3, h4, h5⟩; exact ⟨⟨h1, h2, h3⟩, h4, h5⟩
/-- a name fits just if it is one -/
theorem nameHead_iff (F : Fo) (i : Nat) : F.nameHead i = true ↔ F.kindAt i = 6 ∧ F.fitAt i = true := by
  unfold Fo.nameHead Fo.fitAt
  simp only [Bool.and_eq_true, decide_eq_true_eq]
  constructor
  · rintro ⟨h1, h2, h3, h4, h5⟩
    refine ⟨h1, ?_, ?_⟩
    · rw [h1, fit_iff]
      refine ⟨by omega, ⟨by simp [Om.low', Om.low], by simp [Om.high', Om.high, h5]⟩, by simpa [Om.sort, Om.textOf] using h2, by simp [Om.num, h3, h4], ?_⟩
      simp [Om.below, h5, Fo.cnt]
    · rw [Fo.nil_of_len h5]; rfl
  · rintro ⟨h1, h2, _⟩
    rw [h1, fit_iff] at h2
    obtain ⟨_, ⟨_, hl⟩, ht, hn, _⟩ := h2
    refine ⟨h1, by simpa [Om.sort, Om.textOf] using ht, ?_⟩
    simp [Om.num] at hn
    simp [Om.high', Om.high] at hl
    exact ⟨hn.1, hn.2, hl⟩
/-- a field, if what is below is told -/
theorem field_iff (k : Int) (t : ByteArray) (m e : Int) (G : Fo) (hg : G.len = 1 → ((G.okp 0).1 = true ↔ ¬ G.kindAt 0 = 23 ∧ G.fitAt 0 = true)) :
    (sField k t m e G.len && (G.okp 0).1) = true ↔ k = 23 ∧ Om.fit k t m e G = true ∧ G.allFit = true := by
  unfold sField
  simp only [Bool.and_eq_true, decide_eq_true_eq]
  rw [Fo.allFit_iff]
  constructor
  · rintro ⟨⟨rfl, h2, h3, h4, h5, h6⟩, h7⟩
    have h8 := (hg h3).1 h7
    refine ⟨rfl, ?_, fun i hi => ?_⟩
    · rw [fit_iff]
      refine ⟨by omega, ⟨by simp [Om.low', h3], by simp [Om.high', h3]⟩, by simpa [Om.sort, Om.textOf] using h2, by simp [Om.num, h4, h5, h6], ?_⟩
      simp [Om.below, h3, Fo.cnt, h8.1]
    · obtain rfl : i = 0 := by omega
      exact h8.2
  · rintro ⟨rfl, h2, h3⟩
    rw [fit_iff] at h2
    obtain ⟨_, ⟨hl, hh⟩, ht, hn, hb⟩ := h2
    have h1 : G.len = 1 := by simp [Om.low'] at hl; simp [Om.high'] at hh; omega
    simp [Om.num] at hn
    simp [Om.below, h1, Fo.cnt] at hb
    exact ⟨⟨rfl, by simpa [Om.sort, Om.textOf] using ht, h1, hn.1, hn.2.1, hn.2.2⟩, (hg h1).2 ⟨hb, h3 0 (by omega)⟩⟩
theorem head_iff {k : Int} {t : ByteArray} {n : Nat} (h23 : ¬ k = 23) (h24 : ¬ k = 24) : headOf k t n = true ↔ (1 ≤ k ∧ k ≤ 24) ∧ (Om.low' k ≤ n ∧ n ≤ Om.high' k) ∧ Om.textOf (Om.sort k) t = true := by
  have e1 : Om.low' k = Om.low k := by unfold Om.low'; rw [if_neg (by omega)]
  have e2 : Om.high' k = Om.high k := by unfold Om.high'; rw [if_neg h23, if_neg h24]
  have e3 : sText k t n = Om.textOf (Om.sort k) t := by unfold sText; rw [if_neg h24, if_neg h23]
  unfold headOf
  rw [e1, e2, e3, decide_eq_false h23]
  simp only [Bool.and_eq_true, decide_eq_true_eq, Bool.not_false, true_and, Int.ofNat_le]
theorem head_std {t : ByteArray} {n : Nat} : headOf 24 t n = true ↔ Om.std t.toList = n ∧ 0 < Om.std t.toList := by
  have e3 : sText 24 t n = decide (stdOr t.toList = (n : Int)) := rfl
  have hle := Om.std_le t.toList
  have e1 : Om.low 24 = 0 := by decide
  have e2 : Om.high 24 = 8 := by decide
  unfold headOf
  rw [e3, e1, e2]
  simp only [Bool.and_eq_true, decide_eq_true_eq, Bool.not_eq_true', decide_eq_false_iff_not]
  unfold stdOr
  constructor
  · rintro ⟨_, _, _, h⟩
    split at h <;> omega
  · rintro ⟨h1, h2⟩
    refine ⟨by omega, by omega, by omega, ?_⟩
    split <;> omega
theorem num_iff {k m e : Int} (h4 : ¬ k = 4) (h23 : ¬ k = 23) : Om.num k m e = true ↔ m = 0 ∧ e = 0 := by
  unfold Om.num
  rw [if_neg h4, if_neg h23]
  simp
theorem ok_iff (N : Nat) : ∀ (k : Int) (t : ByteArray) (m e : Int) (F : Fo), F.size < N → (okOne k t m e F = true ↔ ¬ k = 23 ∧ Om.fit k t m e F = true ∧ F.allFit = true) := by
  induction N with
  | zero => intro k t m e F h; omega
  | succ N ih =>
    intro k t m e F hN
    have P1 : ∀ i, i < F.len → ((F.okp i).1 = true ↔ ¬ F.kindAt i = 23 ∧ F.fitAt i = true) := by
      intro i hi
      have hs := Fo.size_at hi
      rw [Fo.okp1 hi, ih _ _ _ _ _ (by omega)]
      unfold Fo.fitAt
      rw [Bool.and_eq_true]
    have P2 : ∀ i, i < F.len → ((F.okp i).2 = true ↔ F.kindAt i = 23 ∧ F.fitAt i = true) := by
      intro i hi
      have hs := Fo.size_at hi
      rw [Fo.okp2 hi, field_iff]
      · unfold Fo.fitAt
        rw [Bool.and_eq_true]
      · intro h1
        have h01 : 0 < (F.kidsAt i).len := by omega
        have hs2 := Fo.size_at h01
        rw [Fo.okp1 h01, ih _ _ _ _ _ (by omega)]
        unfold Fo.fitAt
        rw [Bool.and_eq_true]
    have L : (∀ i, i < F.len → (F.okp i).1 = true) ↔ F.cnt 23 F.len = 0 ∧ F.allFit = true := by
      rw [Fo.cnt_none, Fo.allFit_iff]
      exact ⟨fun h => ⟨fun i hi => ((P1 i hi).1 (h i hi)).1, fun i hi => ((P1 i hi).1 (h i hi)).2⟩, fun h i hi => (P1 i hi).2 ⟨h.1 i hi, h.2 i hi⟩⟩
    have L22 : (∀ i, i < F.len → (F.okp i).2 = true) ↔ F.cnt 23 F.len = F.len ∧ F.allFit = true := by
      rw [Fo.cnt_all, Fo.allFit_iff]
      exact ⟨fun h => ⟨fun i hi => ((P2 i hi).1 (h i hi)).1, fun i hi => ((P2 i hi).1 (h i hi)).2⟩, fun h i hi => (P2 i hi).2 ⟨h.1 i hi, h.2 i hi⟩⟩
    by_cases h23 : k = 23
    · subst h23
      rw [okOne_not (by unfold headOf; simp)]
      exact ⟨fun h => (by cases h), fun h => absurd rfl h.1⟩
    cases hh : headOf k t F.len
    · rw [okOne_not hh]
      refine ⟨fun h => (by cases h), fun h => ?_⟩
      rw [fit_iff] at h
      obtain ⟨_, ⟨f1, f2, f3, f4, f5⟩, _⟩ := h
      exfalso
      by_cases h24 : k = 24
      · subst h24
        have : headOf 24 t F.len = true := by
          rw [head_std]
          simp [Om.below] at f5
          simp [Om.low'] at f2
          omega
        rw [hh] at this; cases this
      · have := (head_iff (t := t) (n := F.len) h23 h24).2 ⟨f1, f2, f3⟩
        rw [hh] at this; cases this
    · rw [okOne_head hh, fit_iff]
      by_cases h24 : k = 24
      · subst h24
        have hs := head_std.1 hh
        have hle := Om.std_le t.toList
        rw [if_neg (by decide), num_iff (by decide) (by decide)]
        have ek : kidsOf 24 F (fun i => (F.okp i).1) (fun i => (F.okp i).2) = allN (fun i => (F.okp i).1) 0 F.len := rfl
        have eb : Om.below 24 t F = (decide (Om.std t.toList = F.len) && decide (F.cnt 23 F.len = 0)) := rfl
        have el : Om.low' 24 = 1 := by decide
        have eh : Om.high' 24 = 3 := by decide
        have et : Om.textOf (Om.sort 24) t = decide (0 < Om.std t.toList) := rfl
        rw [ek, eb, el, eh, et, decide_eq_true hs.1, decide_eq_true hs.2]
        simp only [Bool.and_eq_true, decide_eq_true_eq, true_and]
        rw [allN_iff]
        constructor
        · rintro ⟨h1, h2⟩
          have := L.1 fun i hi => h2 i (Nat.zero_le _) hi
          exact ⟨by decide, ⟨by decide, by omega, h1, this.1⟩, this.2⟩
        · rintro ⟨_, ⟨_, _, h1, h2⟩, h3⟩
          exact ⟨h1, fun i _ hi => L.2 ⟨h2, h3⟩ i hi⟩
      · obtain ⟨f1, f2, f3⟩ := (head_iff h23 h24).1 hh
        by_cases h4 : k = 4
        · subst h4
          have hl : F.len = 0 := by have h2 := f2.2; simp [Om.high', Om.high] at h2; exact h2
          have hf := Fo.nil_of_len hl
          subst hf
          rw [if_pos rfl]
          have en : Om.num 4 m e = (Dm.ok m e && decide (0 ≤ m)) := rfl
          rw [en]
          exact ⟨fun h => ⟨h23, ⟨f1, f2, f3, h, rfl⟩, rfl⟩, fun h => h.2.1.2.2.2.1⟩
        · rw [if_neg h4, num_iff h4 h23]
          simp only [Bool.and_eq_true, decide_eq_true_eq]
          by_cases h22 : k = 22
          · subst h22
            have ek : kidsOf 22 F (fun i => (F.okp i).1) (fun i => (F.okp i).2) = F.fldN (fun i => (F.okp i).2) F.len := rfl
            have eb : Om.below 22 t F = (decide (F.cnt 23 F.len = F.len) && F.dist F.len) := rfl
            rw [ek, eb, Fo.fldN_iff, L22]
            simp only [Bool.and_eq_true, decide_eq_true_eq]
            constructor
            · rintro ⟨h1, ⟨h2, h3⟩, h5⟩
              exact ⟨h23, ⟨f1, f2, f3, h1, h2, h5⟩, h3⟩
            · rintro ⟨_, ⟨_, _, _, h1, h2, h5⟩, h3⟩
              exact ⟨h1, ⟨h2, h3⟩, h5⟩
          · by_cases h16 : k = 16
            · subst h16
              have ek : kidsOf 16 F (fun i => (F.okp i).1) (fun i => (F.okp i).2) = (F.nmOk (F.len - 1) && allN (fun i => (F.okp i).1) (F.len - 1) F.len) := rfl
              have eb : Om.below 16 t F = (decide (F.cnt 6 (F.len - 1) = F.len - 1) && (F.dist (F.len - 1) && decide (F.cnt 23 F.len = 0))) := rfl
              rw [ek, eb]
              simp only [Bool.and_eq_true, decide_eq_true_eq]
              rw [Fo.nmOk_iff, allN_iff, Fo.cnt_all, Fo.cnt_none, Fo.allFit_iff]
              constructor
              · rintro ⟨h1, ⟨h2, h3⟩, h5⟩
                have hx : ∀ i, i < F.len → ¬ F.kindAt i = 23 ∧ F.fitAt i = true := by
                  intro i hi
                  by_cases hi2 : i < F.len - 1
                  · have := (nameHead_iff F i).1 (h2 i hi2)
                    exact ⟨by rw [this.1]; decide, this.2⟩
                  · exact (P1 i hi).1 (h5 i (by omega) hi)
                exact ⟨h23, ⟨f1, f2, f3, h1, fun i hi => ((nameHead_iff F i).1 (h2 i hi)).1, h3, fun i hi => (hx i hi).1⟩, fun i hi => (hx i hi).2⟩
              · rintro ⟨_, ⟨_, _, _, h1, h2, h5, h6⟩, h3⟩
                exact ⟨h1, ⟨fun i hi => (nameHead_iff F i).2 ⟨h2 i hi, h3 i (by omega)⟩, h5⟩, fun i _ hi => (P1 i hi).2 ⟨h6 i hi, h3 i hi⟩⟩
            · have ek : kidsOf k F (fun i => (F.okp i).1) (fun i => (F.okp i).2) = allN (fun i => (F.okp i).1) 0 F.len := by unfold kidsOf; rw [if_neg h22, if_neg h16]
              have eb : Om.below k t F = decide (F.cnt 23 F.len = 0) := by unfold Om.below; rw [if_neg h22, if_neg h16, if_neg h24]
              rw [ek, eb, allN_iff, decide_eq_true_eq]
              constructor
              · rintro ⟨h1, h2⟩
                have := L.1 fun i hi => h2 i (Nat.zero_le _) hi
                exact ⟨h23, ⟨f1, f2, f3, h1, this.1⟩, this.2⟩
              · rintro ⟨_, ⟨_, _, _, h1, h2⟩, h3⟩
                exact ⟨h1, fun i _ hi => L.2 ⟨h2, h3⟩ i hi⟩
end Go.Proofs.Ytbbbmmemfndnlaa
/- Contracts over trees: TreeSize and TreeDeep of the specification. -/
namespace Go.Proofs.Ytbbbmmemfndnlaa
open Go.RowKit

set_option maxHeartbeats 1000000 in
theorem sTreeSize_any (N : Nat) : ∀ (k : Int) (t : ByteArray) (m e : Int) (a : Option Addr) (c : Nat) (F : Fo) (w : World), F.size < N → N ≤ 2000000 → F.In w a → F.len ≤ c → c ≤ maxLen →
    Calls Try.prog 48 #[nodeV k t m e a F.len c] w fun e w' => e = .returned (.int .i64 (F.size + 1 : Nat)) ∧ Below w.heap.size w w' := by
  induction N with
  | zero => intro k t m e a c F w hF; omega
  | succ N ih =>
    intro k t m e a c F w hF hN hin hl hc
    unfold maxLen at hc
    have hll := F.len_le
    go_enter Try.func48, Try.ntmps48
    go_wp2_with fail
    go_loopw [3, 4] (fun o i wr => ∃ (j s : Nat) (G : Fo), i = .int .i64 j ∧ o = .int .i64 s ∧ j + G.len = F.len ∧ s + G.size = F.size + 1 ∧ 1 ≤ s ∧ (G = .nil ∨ ∃ b o', a = some ⟨b, o', none⟩ ∧ G.From wr b (o' + j * 5)) ∧ wr.cell? ⟨w.heap.size, 4, none⟩ = some (.slice a F.len c) ∧ Below w.heap.size w wr) (fun _ i _ => F.len - (intOf i).toNat)
    case atStart =>
      refine ⟨0, 1, F, rfl, rfl, by omega, by omega, Nat.le_refl _, ?_, by simp, (Below.refl _ _).alloc (Nat.le_refl _) _⟩
      rcases hin with h | ⟨b, o', e1, e2⟩
      · exact .inl h
      · exact .inr ⟨b, o', e1, by simpa using Fo.from_grow ((Below.refl _ w).alloc (Nat.le_refl _) _) F b o' e2⟩
    case round =>
      obtain ⟨j, s, G, rfl, rfl, hj, hs, hs1, hG, hcell, hb⟩ := hrel
      cases G with
      | nil =>
        have hj' : j = F.len := by simpa [Fo.len] using hj
        have hs' : s = F.size + 1 := by simpa [Fo.size] using hs
        subst hj' hs'
        clear hG hj hs
        go_wp2_with fail
        go_ret
        exact ⟨rfl, hb⟩
      | cons k' t' m' e' a' c' kids next =>
        rcases hG with hG | ⟨b, o', rfl, ⟨h1, h2, h3, h4, h5⟩, hk, hc1, hc2, _, hn⟩
        · cases hG
        · have hlt : (j : Int) < (F.len : Int) := by have : j + (next.len + 1) = F.len := hj; omega
          have hjl : j < F.len := by omega
          have hsz : s + (kids.size + 1 + next.size) = F.size + 1 := hs
          have hln : j + (next.len + 1) = F.len := hj
          clear hj hs hin
          go_wp2_with fail
          refine (ih k' t' m' e' a' c' kids wr (by omega) (by omega) hk hc1 hc2).mono ?_
          rintro e w1 ⟨rfl, hb1⟩
          have hn1 := Fo.from_grow hb1 next b _ hn
          have hz := hb.size
          have hlw := World.block_lt_of_cell? wr _ hcell
          have hcell1 : w1.cell? ⟨w.heap.size, 4, none⟩ = some (.slice (some ⟨b, o', none⟩) F.len c) := (hb1.cell (p := ⟨w.heap.size, 4, none⟩) hlw).trans hcell
          have hb2 := hb.trans (hb1.mono hz)
          clear h1 h2 h3 h4 h5 hk hn hcell hb1 hb ih
          go_wp2_with fail
          go_round
          case rel =>
            refine ⟨j + 1, s + (kids.size + 1), next, by go_num, by go_num, by omega, by omega, by omega, .inr ⟨b, o', rfl, ?_⟩, hcell1, hb2⟩
            rw [show o' + (j + 1) * 5 = o' + j * 5 + 5 by omega]; exact hn1
          case measure => simp [intOf]; omega
set_option maxHeartbeats 1000000 in
theorem sTreeDeep_any (N : Nat) : ∀ (k : Int) (t : ByteArray) (m e : Int) (a : Option Addr) (c : Nat) (F : Fo) (w : World), F.size < N → N ≤ 2000000 → F.In w a → F.len ≤ c → c ≤ maxLen →
    Calls Try.prog 49 #[nodeV k t m e a F.len c] w fun e w' => e = .returned (.int .i64 (F.deep + 1 : Nat)) ∧ Below w.heap.size w w' := by
  induction N with
  | zero => intro k t m e a c F w hF; omega
  | succ N ih =>
    intro k t m e a c F w hF hN hin hl hc
    unfold maxLen at hc
    have hll := F.len_le
    have hdd := F.deep_le
    go_enter Try.func49, Try.ntmps49
    go_wp2_with fail
    go_loopw [3, 4] (fun o i wr => ∃ (j s : Nat) (G : Fo), i = .int .i64 j ∧ o = .int .i64 s ∧ j + G.len = F.len ∧ max s G.deep = F.deep ∧ G.size ≤ F.size ∧ (G = .nil ∨ ∃ b o', a = some ⟨b, o', none⟩ ∧ G.From wr b (o' + j * 5)) ∧ wr.cell? ⟨w.heap.size, 4, none⟩ = some (.slice a F.len c) ∧ Below w.heap.size w wr) (fun _ i _ => F.len - (intOf i).toNat)
    case atStart =>
      refine ⟨0, 0, F, rfl, rfl, by omega, by omega, Nat.le_refl _, ?_, by simp, (Below.refl _ _).alloc (Nat.le_refl _) _⟩
      rcases hin with h | ⟨b, o', e1, e2⟩
      · exact .inl h
      · exact .inr ⟨b, o', e1, by simpa using Fo.from_grow ((Below.refl _ w).alloc (Nat.le_refl _) _) F b o' e2⟩
    case round =>
      obtain ⟨j, s, G, rfl, rfl, hj, hs, hs1, hG, hcell, hb⟩ := hrel
      cases G with
      | nil =>
        have hj' : j = F.len := by simpa [Fo.len] using hj
        have hs' : s = F.deep := by simpa [Fo.deep] using hs
        subst hj' hs'
        clear hG hj hs
        go_wp2_with fail
        go_ret
        exact ⟨rfl, hb⟩
      | cons k' t' m' e' a' c' kids next =>
        rcases hG with hG | ⟨b, o', rfl, ⟨h1, h2, h3, h4, h5⟩, hk, hc1, hc2, _, hn⟩
        · cases hG
        · have hlt : (j : Int) < (F.len : Int) := by have : j + (next.len + 1) = F.len := hj; omega
          have hjl : j < F.len := by omega
          have hsz : kids.size + 1 + next.size ≤ F.size := hs1
          have hds : max s (max (kids.deep + 1) next.deep) = F.deep := hs
          have hln : j + (next.len + 1) = F.len := hj
          clear hj hs hin hs1
          go_wp2_with fail
          refine (ih k' t' m' e' a' c' kids wr (by omega) (by omega) hk hc1 hc2).mono ?_
          rintro e w1 ⟨rfl, hb1⟩
          have hn1 := Fo.from_grow hb1 next b _ hn
          have hz := hb.size
          have hlw := World.block_lt_of_cell? wr _ hcell
          have hcell1 : w1.cell? ⟨w.heap.size, 4, none⟩ = some (.slice (some ⟨b, o', none⟩) F.len c) := (hb1.cell (p := ⟨w.heap.size, 4, none⟩) hlw).trans hcell
          have hb2 := hb.trans (hb1.mono hz)
          have hkd : kids.deep + 1 ≤ F.deep := by omega
          clear h1 h2 h3 h4 h5 hk hn hcell hb1 hb ih
          have HD : Hid (max s (max (kids.deep + 1) next.deep) = F.deep) := hds
          clear hds
          by_cases hd : s < kids.deep + 1
          · have hd' : (s : Int) < (kids.deep : Int) + 1 := by omega
            go_wp2_with fail
            go_round
            case rel =>
              refine ⟨j + 1, kids.deep + 1, next, by go_num, by go_num, by omega, ?_, by omega, .inr ⟨b, o', rfl, ?_⟩, hcell1, hb2⟩
              · have := HD.out; omega
              · rw [show o' + (j + 1) * 5 = o' + j * 5 + 5 by omega]; exact hn1
            case measure => simp [intOf]; omega
          · have hd' : ¬ (s : Int) < (kids.deep : Int) + 1 := by omega
            go_wp2_with fail
            go_round
            case rel =>
              refine ⟨j + 1, s, next, by go_num, by go_num, by omega, ?_, by omega, .inr ⟨b, o', rfl, ?_⟩, hcell1, hb2⟩
              · have := HD.out; omega
              · rw [show o' + (j + 1) * 5 = o' + j * 5 + 5 by omega]; exact hn1
            case measure => simp [intOf]; omega
end Go.Proofs.Ytbbbmmemfndnlaa
/- Contracts over trees: the laws' own measure. -/
namespace Go.Proofs.Ytbbbmmemfndnlaa
open Go.RowKit

set_option maxHeartbeats 1000000 in
theorem szNodeS_step (N : Nat) (H : ∀ (k : Int) (t : ByteArray) (m e : Int) (a : Option Addr) (c : Nat) (F : Fo) (w : World) (l : Nat), F.size < N → F.In w a → F.len ≤ c → c ≤ maxLen → t.size ≤ maxLen → l ≤ 1048576 →
      Calls Try.prog 7 #[nodeV k t m e a F.len c, .int .i64 l] w fun e w' => e = .returned (.int .i64 (leftOf (t.size + F.wt) l)) ∧ Below w.heap.size w w') :
    ∀ (a : Option Addr) (c : Nat) (F : Fo) (w : World) (l : Nat), F.size ≤ N → F.In w a → F.len ≤ c → c ≤ maxLen → l ≤ 1048576 →
      Calls Try.prog 23 #[.slice a F.len c, .int .i64 l] w fun e w' => e = .returned (.int .i64 (leftOf F.wt l)) ∧ Below w.heap.size w w' := by
  intro a c F w l hF hin hl hc hl2
  unfold maxLen at hc
  have hlw := F.len_wt
  by_cases h0 : F.len ≤ l
  · have h0' : ¬ (l : Int) - (F.len : Int) < 0 := by omega
    go_enter Try.func23, Try.ntmps23
    go_wp2_with fail
    go_loopw [1, 5] (fun o i wr => ∃ (j d : Nat) (G : Fo), i = .int .i64 j ∧ o = .int .i64 d ∧ j + G.len = F.len ∧ d + F.wt + G.len = l + G.wt ∧ d ≤ l ∧ G.size ≤ F.size ∧ (G = .nil ∨ ∃ b o', a = some ⟨b, o', none⟩ ∧ G.From wr b (o' + j * 5)) ∧ Below w.heap.size w wr) (fun _ i _ => F.len - (intOf i).toNat)
    case atStart =>
      refine ⟨0, l - F.len, F, rfl, by congr 1; omega, by omega, by omega, by omega, Nat.le_refl _, ?_, Below.refl _ _⟩
      rcases hin with h | ⟨b, o', e1, e2⟩
      · exact .inl h
      · exact .inr ⟨b, o', e1, by simpa using e2⟩
    case round =>
      obtain ⟨j, d, G, rfl, rfl, hj, hs, hs1, hs2, hG, hb⟩ := hrel
      cases G with
      | nil =>
        have hj' : j = F.len := by simpa [Fo.len] using hj
        have hs' : d + F.wt = l := by simpa [Fo.len, Fo.wt] using hs
        have HL : Hid (leftOf F.wt l = (d : Int)) := by unfold Hid leftOf; rw [if_pos (by omega)]; congr 1; omega
        subst hj'
        clear hG hj hs hs' H
        go_wp2_with fail
        go_ret
        exact ⟨by rw [HL.out]; rfl, hb⟩
      | cons k' t' m' e' a' c' kids next =>
        rcases hG with hG | ⟨b, o', rfl, ⟨h1, h2, h3, h4, h5⟩, hk, hc1, hc2, ht', hn⟩
        · cases hG
        · have hln : j + (next.len + 1) = F.len := hj
          have hlt : (j : Int) < (F.len : Int) := by omega
          have hjl : j < F.len := by omega
          have hsz : kids.size + 1 + next.size ≤ F.size := hs2
          have hwt : d + F.wt + (next.len + 1) = l + (t'.size + kids.wt + 1 + next.wt) := hs
          have hnw := next.len_wt
          clear hj hs hin hs2
          go_wp2_with fail
          refine (H k' t' m' e' a' c' kids wr d (by omega) hk hc1 hc2 ht' (by omega)).mono ?_
          rintro e w1 ⟨rfl, hb1⟩
          have hn1 := Fo.from_grow hb1 next b _ hn
          have hb2 := hb.trans (hb1.mono hb.size)
          clear h1 h2 h3 h4 h5 hk hn hb1 hb H
          by_cases hd : t'.size + kids.wt ≤ d
          · have HL : Hid (leftOf (t'.size + kids.wt) d = ((d - (t'.size + kids.wt) : Nat) : Int)) := by unfold Hid leftOf; rw [if_pos hd]
            rw [HL.out]
            obtain ⟨d', hd'⟩ : ∃ d', d' = d - (t'.size + kids.wt) := ⟨_, rfl⟩
            rw [← hd']
            have hd2 : d' + (t'.size + kids.wt) = d := by omega
            clear hd' HL hd
            have hd0 : ¬ (d' : Int) < 0 := by omega
            go_wp2_with fail
            go_round
            case rel =>
              refine ⟨j + 1, d', next, by go_num, rfl, by omega, by omega, by omega, by omega, .inr ⟨b, o', rfl, ?_⟩, hb2⟩
              rw [show o' + (j + 1) * 5 = o' + j * 5 + 5 by omega]; exact hn1
            case measure => simp [intOf]; omega
          · have HL : Hid (leftOf (t'.size + kids.wt) d = -1) := by unfold Hid leftOf; rw [if_neg hd]
            have HR : Hid (leftOf F.wt l = -1) := by unfold Hid leftOf; rw [if_neg (by omega)]
            rw [HL.out]
            clear HL hd
            go_wp2_with fail
            go_ret
            exact ⟨by rw [HR.out]; rfl, hb2⟩
  · have h0' : (l : Int) - (F.len : Int) < 0 := by omega
    have HL : Hid (leftOf F.wt l = -1) := by unfold Hid leftOf; rw [if_neg (by omega)]
    rw [HL.out]
    clear H
    go_enter Try.func23, Try.ntmps23
    go_wp2_with fail
    go_ret
    exact ⟨rfl, Below.refl _ _⟩

set_option maxHeartbeats 1000000 in
theorem szNode_step (N : Nat) (H : ∀ (a : Option Addr) (c : Nat) (F : Fo) (w : World) (l : Nat), F.size ≤ N → F.In w a → F.len ≤ c → c ≤ maxLen → l ≤ 1048576 →
      Calls Try.prog 23 #[.slice a F.len c, .int .i64 l] w fun e w' => e = .returned (.int .i64 (leftOf F.wt l)) ∧ Below w.heap.size w w') :
    ∀ (k : Int) (t : ByteArray) (m e : Int) (a : Option Addr) (c : Nat) (F : Fo) (w : World) (l : Nat), F.size ≤ N → F.In w a → F.len ≤ c → c ≤ maxLen → t.size ≤ maxLen → l ≤ 1048576 →
      Calls Try.prog 7 #[nodeV k t m e a F.len c, .int .i64 l] w fun e w' => e = .returned (.int .i64 (leftOf (t.size + F.wt) l)) ∧ Below w.heap.size w w' := by
  intro k t m e a c F w l hF hin hl hc ht hl2
  have hcc := hc
  unfold maxLen at hc ht
  by_cases h0 : t.size ≤ l
  · have h0' : ¬ (l : Int) - (t.size : Int) < 0 := by omega
    go_enter Try.func7, Try.ntmps7
    go_wp2_with fail
    rw [show (l : Int) - (t.size : Int) = ((l - t.size : Nat) : Int) by omega]
    have hb0 : Below w.heap.size w (w.alloc (.cells #[.int .i64 k, .string t, .int .i64 m, .int .i64 e, .slice a F.len c] 26)) := (Below.refl _ w).alloc (Nat.le_refl _) _
    refine (H a c F _ (l - t.size) hF (hin.grow hb0) hl hcc (by omega)).mono ?_
    rintro e w1 ⟨rfl, hb1⟩
    have hb2 : Below w.heap.size w w1 := hb0.trans (hb1.mono (by simp))
    clear hb0 hb1 H hin
    by_cases hd : t.size + F.wt ≤ l
    · have HL : Hid (leftOf F.wt (l - t.size) = ((l - (t.size + F.wt) : Nat) : Int)) := by unfold Hid leftOf; rw [if_pos (by omega)]; congr 1; omega
      have HR : Hid (leftOf (t.size + F.wt) l = ((l - (t.size + F.wt) : Nat) : Int)) := by unfold Hid leftOf; rw [if_pos hd]
      rw [HL.out]
      obtain ⟨d', hd'⟩ : ∃ d', d' = l - (t.size + F.wt) := ⟨_, rfl⟩
      rw [← hd'] at HR ⊢
      have hd0 : ¬ (d' : Int) < 0 := by omega
      clear HL hd hd'
      go_wp2_with fail
      go_ret
      exact ⟨by rw [HR.out]; rfl, hb2⟩
    · have HL : Hid (leftOf F.wt (l - t.size) = -1) := by unfold Hid leftOf; rw [if_neg (by omega)]
      have HR : Hid (leftOf (t.size + F.wt) l = -1) := by unfold Hid leftOf; rw [if_neg hd]
      rw [HL.out]
      clear HL hd
      go_wp2_with fail
      go_ret
      exact ⟨by rw [HR.out]; rfl, hb2⟩
  · have h0' : (l : Int) - (t.size : Int) < 0 := by omega
    have HL : Hid (leftOf (t.size + F.wt) l = -1) := by unfold Hid leftOf; rw [if_neg (by omega)]
    rw [HL.out]
    clear H
    go_enter Try.func7, Try.ntmps7
    go_wp2_with fail
    go_ret
    exact ⟨rfl, (Below.refl _ _).alloc (Nat.le_refl _) _⟩

theorem szNode_all (N : Nat) : ∀ (k : Int) (t : ByteArray) (m e : Int) (a : Option Addr) (c : Nat) (F : Fo) (w : World) (l : Nat), F.size < N → F.In w a → F.len ≤ c → c ≤ maxLen → t.size ≤ maxLen → l ≤ 1048576 →
      Calls Try.prog 7 #[nodeV k t m e a F.len c, .int .i64 l] w fun e w' => e = .returned (.int .i64 (leftOf (t.size + F.wt) l)) ∧ Below w.heap.size w w' := by
  induction N with
  | zero => intro k t m e a c F w l hF; omega
  | succ N ih => exact fun k t m e a c F w l hF => szNode_step N (szNodeS_step N ih) k t m e a c F w l (by omega)
/-- the laws' measure of a tree -/
theorem szNode_any (k : Int) (t : ByteArray) (m e : Int) (a : Option Addr) (c : Nat) (F : Fo) (w : World) (l : Nat) (h1 : F.In w a) (h2 : F.len ≤ c) (h3 : c ≤ maxLen) (h4 : t.size ≤ maxLen) (h5 : l ≤ 1048576) :
      Calls Try.prog 7 #[nodeV k t m e a F.len c, .int .i64 l] w fun e w' => e = .returned (.int .i64 (leftOf (t.size + F.wt) l)) ∧ Below w.heap.size w w' :=
  szNode_all (F.size + 1) k t m e a c F w l (by omega) h1 h2 h3 h4 h5
end Go.Proofs.Ytbbbmmemfndnlaa
