/- My own texts, joined: OkA OkK OkB OkC OkD OkL OkM OkO OkP OkQ OkE. -/
import Derived.Test.YtbbbmmemfndnlaaJScopeCheck1
import Derived.Test.YtbbbmmemfndnlaaJScopeCheck0
import Derived.Deep.QuietTactic
import Derived.BigQuiet
import Derived.Deep.RegionHeld3
import Derived.Deep.DeepCutAuto
/- Contracts for trees that are ok: the texts, the counts. -/
namespace Go.Proofs.Ytbbbmmemfndnlaa
open Go.RowKit

theorem has_mem {L : List (List UInt8)} {l : List UInt8} (h : Qm.has L l = true) : l ∈ L := by
  induction L with
  | nil => cases h
  | cons x t ih =>
    simp only [Qm.has, Bool.or_eq_true, beq_iff_eq] at h
    rcases h with h | h
    · subst h; simp
    · exact List.mem_cons_of_mem _ (ih h)

set_option maxHeartbeats 1000000 in
theorem stdKids_any (s : ByteArray) (w : World) :
    Calls Try.prog 99 #[.string s] w fun e w' => e = .returned (.int .i64 (Om.std s.toList)) ∧ w' = w := by
  generalize hl : s.toList = l
  cases h1 : Qm.has Om.std1 l
  · cases h2 : Qm.has Om.std2 l
    · cases h3 : Qm.has Om.std3 l
      · have H : Hid (Om.std l = 0) := by unfold Hid Om.std; simp [h1, h2, h3]
        rw [H.out]
        simp only [Om.std1, Om.std2, Om.std3, Qm.has, Bool.or_eq_false_iff] at h1 h2 h3
        obtain ⟨a1, a2, a3, a4, a5, a6, _⟩ := h1
        obtain ⟨b1, b2, b3, b4, _⟩ := h2
        obtain ⟨c1, _⟩ := h3
        go_enter Try.func99, Try.ntmps99
        go_wp2_with fail
        go_ret
        exact ⟨rfl, rfl⟩
      · have H : Hid (Om.std l = 3) := by unfold Hid Om.std; simp [h1, h2, h3]
        rw [H.out]
        have hm := has_mem h3
        clear h1 h2 h3 H
        simp only [Om.std3, List.mem_cons, List.not_mem_nil, or_false] at hm
        subst hm
        go_enter Try.func99, Try.ntmps99
        go_wp2_with fail
        go_ret
        exact ⟨rfl, rfl⟩
    · have H : Hid (Om.std l = 2) := by unfold Hid Om.std; simp [h1, h2]
      rw [H.out]
      have hm := has_mem h2
      clear h1 h2 H
      simp only [Om.std2, List.mem_cons, List.not_mem_nil, or_false] at hm
      rcases hm with h | h | h | h
      all_goals
        subst h
        go_enter Try.func99, Try.ntmps99
        go_wp2_with fail
        go_ret
        exact ⟨rfl, rfl⟩
  · have H : Hid (Om.std l = 1) := by unfold Hid Om.std; simp [h1]
    rw [H.out]
    have hm := has_mem h1
    clear h1 H
    simp only [Om.std1, List.mem_cons, List.not_mem_nil, or_false] at hm
    rcases hm with h | h | h | h | h | h
    all_goals
      subst h
      go_enter Try.func99, Try.ntmps99
      go_wp2_with fail
      go_ret
      exact ⟨rfl, rfl⟩
/-- how many a function is given, or -1 -/
def stdOr (l : List UInt8) : Int := if Om.std l = 0 then -1 else (Om.std l : Int)
set_option maxHeartbeats 1000000 in
theorem l3Std_any (s : ByteArray) (w : World) :
    Calls Try.prog 97 #[.string s] w fun e w' => e = .returned (.int .i64 (stdOr s.toList)) ∧ w' = w := by
  generalize hl : s.toList = l
  cases h1 : Qm.has Om.std1 l
  · cases h2 : Qm.has Om.std2 l
    · cases h3 : Qm.has Om.std3 l
      · have H : Hid (stdOr l = -1) := by unfold Hid stdOr Om.std; simp [h1, h2, h3]
        rw [H.out]
        simp only [Om.std1, Om.std2, Om.std3, Qm.has, Bool.or_eq_false_iff] at h1 h2 h3
        obtain ⟨a1, a2, a3, a4, a5, a6, _⟩ := h1
        obtain ⟨b1, b2, b3, b4, _⟩ := h2
        obtain ⟨c1, _⟩ := h3
        go_enter Try.func97, Try.ntmps97
        go_wp2_with fail
        go_ret
        exact ⟨rfl, rfl⟩
      · have H : Hid (stdOr l = 3) := by unfold Hid stdOr Om.std; simp [h1, h2, h3]
        rw [H.out]
        have hm := has_mem h3
        clear h1 h2 h3 H
        simp only [Om.std3, List.mem_cons, List.not_mem_nil, or_false] at hm
        subst hm
        go_enter Try.func97, Try.ntmps97
        go_wp2_with fail
        go_ret
        exact ⟨rfl, rfl⟩
    · have H : Hid (stdOr l = 2) := by unfold Hid stdOr Om.std; simp [h1, h2]
      rw [H.out]
      have hm := has_mem h2
      clear h1 h2 H
      simp only [Om.std2, List.mem_cons, List.not_mem_nil, or_false] at hm
      rcases hm with h | h | h | h
      all_goals
        subst h
        go_enter Try.func97, Try.ntmps97
        go_wp2_with fail
        go_ret
        exact ⟨rfl, rfl⟩
  · have H : Hid (stdOr l = 1) := by unfold Hid stdOr Om.std; simp [h1]
    rw [H.out]
    have hm := has_mem h1
    clear h1 H
    simp only [Om.std1, List.mem_cons, List.not_mem_nil, or_false] at hm
    rcases hm with h | h | h | h | h | h
    all_goals
      subst h
      go_enter Try.func97, Try.ntmps97
      go_wp2_with fail
      go_ret
      exact ⟨rfl, rfl⟩

set_option maxHeartbeats 400000 in
theorem isStd_any (s : ByteArray) (w : World) :
    Calls Try.prog 81 #[.string s] w fun e w' => e = .returned (.bool (decide (0 < Om.std s.toList))) ∧ w' = w := by
  have hle := Om.std_le s.toList
  go_enter Try.func81, Try.ntmps81
  go_wp2_with (go_at_call 99; refine (stdKids_any _ _).mono ?_; rintro e w' ⟨rfl, rfl⟩)
  go_ret
  exact ⟨lret_bool (by first | rfl | (rw [Bool.eq_iff_iff]; simp)), rfl⟩
set_option maxHeartbeats 400000 in
theorem noText_any (s : ByteArray) (w : World) :
    Calls Try.prog 78 #[.string s] w fun e w' => e = .returned (.bool (s.toList == [])) ∧ w' = w := by
  go_enter Try.func78, Try.ntmps78
  go_wp2_with fail
  go_ret
  exact ⟨lret_bool (by first | rfl | (rw [Bool.eq_iff_iff]; simp)), rfl⟩
set_option maxHeartbeats 400000 in
theorem shortText_any (s : ByteArray) (w : World) (hs : s.size ≤ maxLen) :
    Calls Try.prog 79 #[.string s] w fun e w' => e = .returned (.bool (decide (s.size ≤ 1500))) ∧ w' = w := by
  unfold maxLen at hs
  go_enter Try.func79, Try.ntmps79
  go_wp2_with fail
  go_ret
  exact ⟨lret_bool (by rw [Bool.eq_iff_iff]; first | (simp; done) | (simp; omega)), rfl⟩

set_option maxHeartbeats 1000000 in
/-- how many of the first n of a list are of a kind -/
theorem countKind_any (F : Fo) (q : Int) (a : Option Addr) (n c : Nat) (w : World) (hin : F.In w a) (hn : n ≤ F.len) (hc : n ≤ c) (hm : c ≤ maxLen) :
    Calls Try.prog 101 #[.slice a n c, .int .i64 q] w fun e w' => e = .returned (.int .i64 (F.cnt q n)) ∧ Below w.heap.size w w' := by
  unfold maxLen at hm
  go_enter Try.func101, Try.ntmps101
  go_wp2_with fail
  go_loopw [5, 10] (fun s i wr => ∃ j : Nat, i = .int .i64 j ∧ s = .int .i64 (F.cnt q j) ∧ j ≤ n ∧ Below w.heap.size w wr) (fun _ i _ => n - (intOf i).toNat)
  case atStart => exact ⟨0, rfl, rfl, Nat.zero_le _, Below.refl _ _⟩
  case round =>
    obtain ⟨j, rfl, rfl, hj, hb⟩ := hrel
    have hcl := F.cnt_le q j
    by_cases hlt : j < n
    · have hlt' : (j : Int) < (n : Int) := by omega
      obtain ⟨b, o, rfl, hF⟩ : ∃ b o, a = some ⟨b, o, none⟩ ∧ F.From w b o := by
        rcases hin with rfl | h
        · exact absurd hn (by show ¬ n ≤ 0; omega)
        · exact h
      clear hin
      have hFr := Fo.from_at (Fo.from_grow hb F b o hF) (show j < F.len by omega)
      obtain ⟨⟨h1, h2, h3, h4, h5⟩, _, _, _, _⟩ := hFr
      by_cases hk : F.kindAt j = q
      · have HS : Hid (F.cnt q (j + 1) = F.cnt q j + 1) := by unfold Hid; show F.cnt q j + (if F.kindAt j = q then 1 else 0) = _; rw [if_pos hk]
        have hk' : (F.kindAt j == q) = true := by simp [hk]
        generalize F.cnt q j = cj at *
        generalize F.kindAt j = kj at *
        go_wp2_with fail
        go_round
        case rel => exact ⟨j + 1, by go_num, by rw [HS.out]; go_num, by omega, hb.alloc hb.size _⟩
        case measure => simp [intOf]; omega
      · have HS : Hid (F.cnt q (j + 1) = F.cnt q j) := by unfold Hid; show F.cnt q j + (if F.kindAt j = q then 1 else 0) = _; rw [if_neg hk]; rfl
        have hk' : (F.kindAt j == q) = false := by simp [hk]
        generalize F.cnt q j = cj at *
        generalize F.kindAt j = kj at *
        go_wp2_with fail
        go_round
        case rel => exact ⟨j + 1, by go_num, by rw [HS.out], by omega, hb.alloc hb.size _⟩
        case measure => simp [intOf]; omega
    · have e : j = n := by omega
      subst e
      have HE : ∃ cj, cj = F.cnt q j := ⟨_, rfl⟩
      obtain ⟨cj, hcj⟩ := HE
      rw [← hcj] at hcl ⊢
      have HC : Hid (F.cnt q j = cj) := hcj.symm
      clear hcj
      go_wp2_with fail
      go_ret
      exact ⟨by rw [HC.out]; rfl, hb⟩
end Go.Proofs.Ytbbbmmemfndnlaa
/- Contracts for trees that are ok, of the specification: how many below, the texts, a field. -/
namespace Go.Proofs.Ytbbbmmemfndnlaa
open Go.RowKit
abbrev twoInts (a b : Int) : Ending := .returned (.tuple #[.int .i64 a, .int .i64 b])
set_option maxHeartbeats 1000000 in
theorem l3Count_any (k : Int) (w : World) :
    Calls Try.prog 71 #[.int .i64 k] w fun e w' => e = twoInts (Om.low k) (Om.high k) ∧ w' = w := by
  by_cases h10 : k = 10
  · subst h10
    go_enter Try.func71, Try.ntmps71
    go_wp2_with fail
    go_ret2
    exact ⟨rfl, rfl⟩
  by_cases h11 : k = 11
  · subst h11
    go_enter Try.func71, Try.ntmps71
    go_wp2_with fail
    go_ret2
    exact ⟨rfl, rfl⟩
  by_cases h12 : k = 12
  · subst h12
    go_enter Try.func71, Try.ntmps71
    go_wp2_with fail
    go_ret2
    exact ⟨rfl, rfl⟩
  by_cases h18 : k = 18
  · subst h18
    go_enter Try.func71, Try.ntmps71
    go_wp2_with fail
    go_ret2
    exact ⟨rfl, rfl⟩
  by_cases h13 : k = 13
  · subst h13
    go_enter Try.func71, Try.ntmps71
    go_wp2_with fail
    go_ret2
    exact ⟨rfl, rfl⟩
  by_cases h15 : k = 15
  · subst h15
    go_enter Try.func71, Try.ntmps71
    go_wp2_with fail
    go_ret2
    exact ⟨rfl, rfl⟩
  by_cases h19 : k = 19
  · subst h19
    go_enter Try.func71, Try.ntmps71
    go_wp2_with fail
    go_ret2
    exact ⟨rfl, rfl⟩
  by_cases h21 : k = 21
  · subst h21
    go_enter Try.func71, Try.ntmps71
    go_wp2_with fail
    go_ret2
    exact ⟨rfl, rfl⟩
  by_cases h14 : k = 14
  · subst h14
    go_enter Try.func71, Try.ntmps71
    go_wp2_with fail
    go_ret2
    exact ⟨rfl, rfl⟩
  by_cases h16 : k = 16
  · subst h16
    go_enter Try.func71, Try.ntmps71
    go_wp2_with fail
    go_ret2
    exact ⟨rfl, rfl⟩
  by_cases h17 : k = 17
  · subst h17
    go_enter Try.func71, Try.ntmps71
    go_wp2_with fail
    go_ret2
    exact ⟨rfl, rfl⟩
  by_cases h20 : k = 20
  · subst h20
    go_enter Try.func71, Try.ntmps71
    go_wp2_with fail
    go_ret2
    exact ⟨rfl, rfl⟩
  by_cases h22 : k = 22
  · subst h22
    go_enter Try.func71, Try.ntmps71
    go_wp2_with fail
    go_ret2
    exact ⟨rfl, rfl⟩
  by_cases h24 : k = 24
  · subst h24
    go_enter Try.func71, Try.ntmps71
    go_wp2_with fail
    go_ret2
    exact ⟨rfl, rfl⟩
  have HL : Hid (Om.low k = 0) := by unfold Hid Om.low; simp [h10, h11, h12, h18, h13, h15, h19, h21, h14, h16, h17]
  have HH : Hid (Om.high k = 0) := by unfold Hid Om.high; simp [h10, h11, h12, h18, h13, h15, h19, h21, h14, h16, h17, h20, h22, h24]
  rw [HL.out, HH.out]
  have g10 : (k == 10) = false := by simp [h10]
  have g11 : (k == 11) = false := by simp [h11]
  have g12 : (k == 12) = false := by simp [h12]
  have g18 : (k == 18) = false := by simp [h18]
  have g13 : (k == 13) = false := by simp [h13]
  have g15 : (k == 15) = false := by simp [h15]
  have g19 : (k == 19) = false := by simp [h19]
  have g21 : (k == 21) = false := by simp [h21]
  have g14 : (k == 14) = false := by simp [h14]
  have g16 : (k == 16) = false := by simp [h16]
  have g17 : (k == 17) = false := by simp [h17]
  have g20 : (k == 20) = false := by simp [h20]
  have g22 : (k == 22) = false := by simp [h22]
  have g24 : (k == 24) = false := by simp [h24]
  go_enter Try.func71, Try.ntmps71
  go_wp2_with fail
  go_ret2
  exact ⟨rfl, rfl⟩
/-- the signs lie there, row by row -/
def SgIn (b : Nat) (w : World) : Prop := w.cell? ⟨b + 6, 0, none⟩ = some (.slice (some ⟨b + 0, 0, none⟩) 1 1) ∧ w.cell? ⟨b + 6, 1, none⟩ = some (.slice (some ⟨b + 1, 0, none⟩) 1 1) ∧ w.cell? ⟨b + 6, 2, none⟩ = some (.slice (some ⟨b + 2, 0, none⟩) 2 2) ∧ w.cell? ⟨b + 6, 3, none⟩ = some (.slice (some ⟨b + 3, 0, none⟩) 4 4) ∧ w.cell? ⟨b + 6, 4, none⟩ = some (.slice (some ⟨b + 4, 0, none⟩) 2 2) ∧ w.cell? ⟨b + 6, 5, none⟩ = some (.slice (some ⟨b + 5, 0, none⟩) 3 3) ∧ w.cell? ⟨b + 0, 0, none⟩ = some (.string ⟨#[124, 124]⟩) ∧ w.cell? ⟨b + 1, 0, none⟩ = some (.string ⟨#[38, 38]⟩) ∧ w.cell? ⟨b + 2, 0, none⟩ = some (.string ⟨#[61, 61]⟩) ∧ w.cell? ⟨b + 2, 1, none⟩ = some (.string ⟨#[33, 61]⟩) ∧ w.cell? ⟨b + 3, 0, none⟩ = some (.string ⟨#[60]⟩) ∧ w.cell? ⟨b + 3, 1, none⟩ = some (.string ⟨#[60, 61]⟩) ∧ w.cell? ⟨b + 3, 2, none⟩ = some (.string ⟨#[62]⟩) ∧ w.cell? ⟨b + 3, 3, none⟩ = some (.string ⟨#[62, 61]⟩) ∧ w.cell? ⟨b + 4, 0, none⟩ = some (.string ⟨#[43]⟩) ∧ w.cell? ⟨b + 4, 1, none⟩ = some (.string ⟨#[45]⟩) ∧ w.cell? ⟨b + 5, 0, none⟩ = some (.string ⟨#[42]⟩) ∧ w.cell? ⟨b + 5, 1, none⟩ = some (.string ⟨#[47]⟩) ∧ w.cell? ⟨b + 5, 2, none⟩ = some (.string ⟨#[37]⟩)
theorem heapAt (w : World) (o : Obj) (i : Nat) : (w.alloc o).heap[i]? = if i = w.heap.size then some o else w.heap[i]? := by
  show (w.heap.push o)[i]? = _
  rw [Array.getElem?_push]
theorem cellAt {w : World} {b : Nat} {cs : Array Value} {t : TypeId} (h : w.heap[b]? = some (.cells cs t (0, 0))) (j : Nat) : w.cell? ⟨b, j, none⟩ = cs[j]? := by
  simp [World.cell?, h]
set_option maxHeartbeats 1000000 in
theorem l3Signs_any (w : World) :
    Calls Try.prog 105 #[] w fun e w' => e = .returned (.slice (some ⟨w.heap.size + 6, 0, none⟩) 6 6) ∧ SgIn w.heap.size w' ∧ Below w.heap.size w w' := by
  go_enter Try.func105, Try.ntmps105
  go_wp2_with fail
  go_ret
  refine ⟨rfl, ?_, ?_⟩
  · unfold SgIn
    generalize hW : World.alloc _ _ = W
    have k6 := cellAt (b := w.heap.size + 6) (cs := #[.slice (some ⟨w.heap.size + 0, 0, none⟩) 1 1, .slice (some ⟨w.heap.size + 1, 0, none⟩) 1 1, .slice (some ⟨w.heap.size + 2, 0, none⟩) 2 2, .slice (some ⟨w.heap.size + 3, 0, none⟩) 4 4, .slice (some ⟨w.heap.size + 4, 0, none⟩) 2 2, .slice (some ⟨w.heap.size + 5, 0, none⟩) 3 3]) (t := 28) (w := W) (by subst hW; rw [heapAt, if_pos (by simp only [World.size_alloc])]; rfl)
    have k0 := cellAt (b := w.heap.size + 0) (cs := #[.string ⟨#[124, 124]⟩]) (t := 9) (w := W) (by subst hW; rw [heapAt, if_neg (by simp only [World.size_alloc]; omega)]; rw [heapAt, if_neg (by simp only [World.size_alloc]; omega)]; rw [heapAt, if_neg (by simp only [World.size_alloc]; omega)]; rw [heapAt, if_neg (by simp only [World.size_alloc]; omega)]; rw [heapAt, if_neg (by simp only [World.size_alloc]; omega)]; rw [heapAt, if_neg (by simp only [World.size_alloc]; omega)]; rw [heapAt, if_pos (Nat.add_zero _)])
    have k1 := cellAt (b := w.heap.size + 1) (cs := #[.string ⟨#[38, 38]⟩]) (t := 9) (w := W) (by subst hW; rw [heapAt, if_neg (by simp only [World.size_alloc]; omega)]; rw [heapAt, if_neg (by simp only [World.size_alloc]; omega)]; rw [heapAt, if_neg (by simp only [World.size_alloc]; omega)]; rw [heapAt, if_neg (by simp only [World.size_alloc]; omega)]; rw [heapAt, if_neg (by simp only [World.size_alloc]; omega)]; rw [heapAt, if_pos (by simp only [World.size_alloc])])
    have k2 := cellAt (b := w.heap.size + 2) (cs := #[.string ⟨#[61, 61]⟩, .string ⟨#[33, 61]⟩]) (t := 9) (w := W) (by subst hW; rw [heapAt, if_neg (by simp only [World.size_alloc]; omega)]; rw [heapAt, if_neg (by simp only [World.size_alloc]; omega)]; rw [heapAt, if_neg (by simp only [World.size_alloc]; omega)]; rw [heapAt, if_neg (by simp only [World.size_alloc]; omega)]; rw [heapAt, if_pos (by simp only [World.size_alloc])])
    have k3 := cellAt (b := w.heap.size + 3) (cs := #[.string ⟨#[60]⟩, .string ⟨#[60, 61]⟩, .string ⟨#[62]⟩, .string ⟨#[62, 61]⟩]) (t := 9) (w := W) (by subst hW; rw [heapAt, if_neg (by simp only [World.size_alloc]; omega)]; rw [heapAt, if_neg (by simp only [World.size_alloc]; omega)]; rw [heapAt, if_neg (by simp only [World.size_alloc]; omega)]; rw [heapAt, if_pos (by simp only [World.size_alloc])])
    have k4 := cellAt (b := w.heap.size + 4) (cs := #[.string ⟨#[43]⟩, .string ⟨#[45]⟩]) (t := 9) (w := W) (by subst hW; rw [heapAt, if_neg (by simp only [World.size_alloc]; omega)]; rw [heapAt, if_neg (by simp only [World.size_alloc]; omega)]; rw [heapAt, if_pos (by simp only [World.size_alloc])])
    have k5 := cellAt (b := w.heap.size + 5) (cs := #[.string ⟨#[42]⟩, .string ⟨#[47]⟩, .string ⟨#[37]⟩]) (t := 9) (w := W) (by subst hW; rw [heapAt, if_neg (by simp only [World.size_alloc]; omega)]; rw [heapAt, if_pos (by simp only [World.size_alloc])])
    exact ⟨k6 0, k6 1, k6 2, k6 3, k6 4, k6 5, k0 0, k1 0, k2 0, k2 1, k3 0, k3 1, k3 2, k3 3, k4 0, k4 1, k5 0, k5 1, k5 2⟩
  · exact ((((((((Below.refl _ w)).alloc (Nat.le_refl _) _).alloc (by simp <;> omega) _).alloc (by simp <;> omega) _).alloc (by simp <;> omega) _).alloc (by simp <;> omega) _).alloc (by simp <;> omega) _).alloc (by simp <;> omega) _
/-- the rows of signs -/
def sgRow : Nat → List ByteArray
  | 0 => [⟨#[124, 124]⟩]
  | 1 => [⟨#[38, 38]⟩]
  | 2 => [⟨#[61, 61]⟩, ⟨#[33, 61]⟩]
  | 3 => [⟨#[60]⟩, ⟨#[60, 61]⟩, ⟨#[62]⟩, ⟨#[62, 61]⟩]
  | 4 => [⟨#[43]⟩, ⟨#[45]⟩]
  | 5 => [⟨#[42]⟩, ⟨#[47]⟩, ⟨#[37]⟩]
  | _ => []
def sgHas (i : Nat) (l : List UInt8) : Bool := Qm.has ((sgRow i).map ByteArray.toList) l
theorem SgIn.row {b : Nat} {w : World} (h : SgIn b w) (i : Nat) (hi : i < 6) : w.cell? ⟨b + 6, i, none⟩ = some (.slice (some ⟨b + i, 0, none⟩) (sgRow i).length (sgRow i).length) ∧ ∀ k (hk : k < (sgRow i).length), w.cell? ⟨b + i, k, none⟩ = some (.string (sgRow i)[k]) := by
  unfold SgIn at h
  obtain ⟨r0, r1, r2, r3, r4, r5, s00, s10, s20, s21, s30, s31, s32, s33, s40, s41, s50, s51, s52⟩ := h
  have : i = 0 ∨ i = 1 ∨ i = 2 ∨ i = 3 ∨ i = 4 ∨ i = 5 := by omega
  rcases this with rfl | rfl | rfl | rfl | rfl | rfl
  · exact ⟨r0, fun k hk => by have : k = 0 := by have : k < 1 := hk; omega
                              subst this; exact s00⟩
  · exact ⟨r1, fun k hk => by have : k = 0 := by have : k < 1 := hk; omega
                              subst this; exact s10⟩
  · exact ⟨r2, fun k hk => by have : k = 0 ∨ k = 1 := by have : k < 2 := hk; omega
                              rcases this with rfl | rfl
                              · exact s20
                              · exact s21⟩
  · exact ⟨r3, fun k hk => by have : k = 0 ∨ k = 1 ∨ k = 2 ∨ k = 3 := by have : k < 4 := hk; omega
                              rcases this with rfl | rfl | rfl | rfl
                              · exact s30
                              · exact s31
                              · exact s32
                              · exact s33⟩
  · exact ⟨r4, fun k hk => by have : k = 0 ∨ k = 1 := by have : k < 2 := hk; omega
                              rcases this with rfl | rfl
                              · exact s40
                              · exact s41⟩
  · exact ⟨r5, fun k hk => by have : k = 0 ∨ k = 1 ∨ k = 2 := by have : k < 3 := hk; omega
                              rcases this with rfl | rfl | rfl
                              · exact s50
                              · exact s51
                              · exact s52⟩
theorem signs_rows (l : List UInt8) : Qm.has Om.signs l = (sgHas 0 l || (sgHas 1 l || (sgHas 2 l || (sgHas 3 l || (sgHas 4 l || sgHas 5 l))))) := by
  have e : ∀ i, sgHas i l = Qm.has ((sgRow i).map ByteArray.toList) l := fun _ => rfl
  rw [e, e, e, e, e, e]
  rw [show (sgRow 0).map ByteArray.toList = [[124, 124]] by decide +kernel, show (sgRow 1).map ByteArray.toList = [[38, 38]] by decide +kernel, show (sgRow 2).map ByteArray.toList = [[61, 61], [33, 61]] by decide +kernel,
    show (sgRow 3).map ByteArray.toList = [[60], [60, 61], [62], [62, 61]] by decide +kernel, show (sgRow 4).map ByteArray.toList = [[43], [45]] by decide +kernel, show (sgRow 5).map ByteArray.toList = [[42], [47], [37]] by decide +kernel]
  simp only [Om.signs, Qm.has, Bool.or_false, Bool.or_assoc]
/-- no row up to this one has it -/
def sgNone (l : List UInt8) : Nat → Bool
  | 0 => true
  | i + 1 => sgNone l i && !sgHas i l
theorem sgNone_has {l : List UInt8} (h : sgNone l 6 = true) : Qm.has Om.signs l = false := by
  rw [signs_rows]
  simp [sgNone] at h
  simp [h]
theorem sgHas_has {l : List UInt8} {i : Nat} (hi : i < 6) (h : sgHas i l = true) : Qm.has Om.signs l = true := by
  rw [signs_rows]
  have : i = 0 ∨ i = 1 ∨ i = 2 ∨ i = 3 ∨ i = 4 ∨ i = 5 := by omega
  rcases this with rfl | rfl | rfl | rfl | rfl | rfl <;> simp [h]
theorem sgRow_len (i : Nat) : (sgRow i).length ≤ 4 := by
  match i with
  | 0 | 1 | 2 | 3 | 4 | 5 => decide
  | n + 6 => exact Nat.zero_le _
set_option maxHeartbeats 1000000 in
theorem l3Level_any (t : ByteArray) (w : World) :
    Calls Try.prog 96 #[.string t] w fun e w' => (∃ z : Int, e = .returned (.int .i64 z) ∧ decide (0 ≤ z) = Qm.has Om.signs t.toList) ∧ Below w.heap.size w w' := by
  go_enter Try.func96, Try.ntmps96
  go_wp2_with fail
  refine (l3Signs_any w).mono ?_
  rintro r W ⟨rfl, hS, hB⟩
  go_wp2_with fail
  go_loop [4] (fun i => ∃ k : Nat, k ≤ 6 ∧ i = .int .i64 k ∧ sgNone t.toList k = true) (fun i => 6 - (intOf i).toNat)
  case atStart => exact ⟨0, Nat.zero_le _, rfl, rfl⟩
  case round =>
    obtain ⟨k, hk, rfl, hn⟩ := hrel
    have HN : Hid (sgNone t.toList k = true) := hn
    clear hn
    by_cases hlt : k < 6
    · have hlt' : (k : Int) < 6 := by omega
      obtain ⟨hr, hcs⟩ := hS.row k hlt
      have hlen := sgRow_len k
      have HH := l2Has_any (w.heap.size + k) (sgRow k).length (sgRow k) t W rfl (by omega) hcs
      have HE : Hid (Qm.has ((sgRow k).map ByteArray.toList) t.toList = sgHas k t.toList) := rfl
      rw [HE.out] at HH
      clear hcs
      generalize (sgRow k).length = n at *
      cases hh : sgHas k t.toList
      · rw [hh] at HH
        have HS : Hid (sgNone t.toList (k + 1) = true) := by unfold Hid; show (sgNone t.toList k && !sgHas k t.toList) = true; rw [HN.out, hh]; rfl
        go_wp2_with fail
        refine HH.mono ?_
        rintro r w' ⟨rfl, hw⟩
        subst w'
        go_wp2_with fail
        go_round
        case rel => exact ⟨k + 1, by omega, by go_num, HS.out⟩
        case measure => simp [intOf]; omega
      · rw [hh] at HH
        have HS : Hid (Qm.has Om.signs t.toList = true) := sgHas_has hlt hh
        go_wp2_with fail
        refine HH.mono ?_
        rintro r w' ⟨rfl, hw⟩
        subst w'
        go_wp2_with fail
        go_ret
        exact ⟨⟨k, rfl, by rw [HS.out]; simp⟩, hB⟩
    · have e : k = 6 := by omega
      subst e
      have HS : Hid (Qm.has Om.signs t.toList = false) := sgNone_has HN.out
      go_wp2_with fail
      go_ret
      exact ⟨⟨-1, rfl, by rw [HS.out]; rfl⟩, hB⟩
end Go.Proofs.Ytbbbmmemfndnlaa
/- Contracts for trees that are ok: no two texts alike; the number. -/
namespace Go.Proofs.Ytbbbmmemfndnlaa
open Go.RowKit

set_option maxHeartbeats 2000000 in
/-- whether of the first n of a list no two have one text -/
theorem distinct_any (F : Fo) (a : Option Addr) (n c : Nat) (w : World) (hin : F.In w a) (hn : n ≤ F.len) (hc : n ≤ c) (hm : c ≤ maxLen) :
    Calls Try.prog 102 #[.slice a n c] w fun e w' => e = .returned (.bool (F.dist n)) ∧ Below w.heap.size w w' := by
  unfold maxLen at hm
  go_enter Try.func102, Try.ntmps102
  go_wp2_with fail
  go_loopw [7] (fun i wr => ∃ j : Nat, i = .int .i64 j ∧ F.dist j = true ∧ j ≤ n ∧ Below w.heap.size w wr) (fun i _ => n - (intOf i).toNat)
  case atStart => exact ⟨0, rfl, rfl, Nat.zero_le _, Below.refl _ _⟩
  case round =>
    obtain ⟨j, rfl, hd, hj, hb⟩ := hrel
    have HD : Hid (F.dist j = true) := hd
    clear hd
    by_cases hlt : j < n
    · have hlt' : (j : Int) < (n : Int) := by omega
      obtain ⟨b, o, rfl, hF⟩ : ∃ b o, a = some ⟨b, o, none⟩ ∧ F.From w b o := by
        rcases hin with rfl | h
        · exact absurd hn (by show ¬ n ≤ 0; omega)
        · exact h
      clear hin
      go_wp2_with fail
      go_loopw [11] (fun i wr => ∃ q : Nat, i = .int .i64 q ∧ F.newAt j q = true ∧ q ≤ j ∧ Below w.heap.size w wr) (fun i _ => j - (intOf i).toNat)
      case atStart => exact ⟨0, rfl, rfl, Nat.zero_le _, hb⟩
      case round =>
        obtain ⟨q, rfl, hq, hqj, hb2⟩ := hrel
        have HQ : Hid (F.newAt j q = true) := hq
        clear hq
        by_cases hq2 : q < j
        · have hq2' : (q : Int) < (j : Int) := by omega
          have hqn : q < n := by omega
          have hqn' : (q : Int) < (n : Int) := by omega
          have hFr := Fo.from_grow hb2 F b o hF
          obtain ⟨⟨_, h2, _⟩, _⟩ := Fo.from_at hFr (show j < F.len by omega)
          obtain ⟨⟨_, g2, _⟩, _⟩ := Fo.from_at hFr (show q < F.len by omega)
          cases ht : ((F.textAt j).toList == (F.textAt q).toList)
          · have HS : Hid (F.newAt j (q + 1) = true) := by unfold Hid; show (F.newAt j q && !((F.textAt j).toList == (F.textAt q).toList)) = true; rw [HQ.out, ht]; rfl
            generalize F.textAt j = tj at *
            generalize F.textAt q = tq at *
            clear hFr HQ
            go_wp2_with fail
            go_region
            all_goals
              go_wp2_with fail
              go_round
              case rel => exact ⟨q + 1, by go_num, HS.out, by omega, hb2.drew⟩
              case measure => simp [intOf]; omega
          · have HS : Hid (F.dist n = false) := Fo.dist_false (Fo.newAt_false ht hq2) hlt
            generalize F.textAt j = tj at *
            generalize F.textAt q = tq at *
            clear hFr HQ
            go_wp2_with fail
            go_region
            all_goals
              go_wp2_with fail
              go_ret
              exact ⟨by rw [HS.out]; rfl, hb2.drew⟩
        · have e : q = j := by omega
          subst e
          have HS : Hid (F.dist (q + 1) = true) := by unfold Hid; show (F.dist q && F.newAt q q) = true; rw [HD.out, HQ.out]; rfl
          clear HQ HD
          go_wp2_with fail
          go_round
          case rel => exact ⟨q + 1, by go_num, HS.out, by omega, hb2⟩
          case measure => simp [intOf]; omega
    · have e : j = n := by omega
      subst e
      go_wp2_with fail
      go_ret
      exact ⟨by rw [HD.out]; rfl, hb⟩

set_option maxHeartbeats 2000000 in
theorem numFits_any (k : Int) (t : ByteArray) (m e : Int) (a : Option Addr) (n c : Nat) (w : World) :
    Calls Try.prog 82 #[nodeV k t m e a n c] w fun r w' => r = .returned (.bool (Om.num k m e)) ∧ Below w.heap.size w w' := by
  by_cases h4 : k = 4
  · subst h4
    have HN : Hid (Om.num 4 m e = (Dm.ok m e && decide (0 ≤ m))) := by unfold Hid Om.num; rw [if_pos rfl]
    rw [HN.out]
    clear HN
    cases hd : Dm.ok m e
    all_goals
      go_enter Try.func82, Try.ntmps82
      go_wp2_with fail
      refine (iDecOk_any m e _).mono ?_
      rintro r w1 ⟨rfl, hb1⟩
      rw [hd]
      have hB : Below w.heap.size w w1 := ((Below.refl _ w).alloc (Nat.le_refl _) _).trans (hb1.mono (by simp))
      have h2 : w1.cell? ⟨w.heap.size, 2, none⟩ = some (.int .i64 m) := (hb1.cell (p := ⟨w.heap.size, 2, none⟩) (by simp)).trans (by simp)
      clear hb1
      go_wp2_with fail
      go_ret
      exact ⟨lret_bool (by first | rfl | simp), hB⟩
  · have hk4 : (k == 4) = false := by simp [h4]
    by_cases h23 : k = 23
    · subst h23
      have HN : Hid (Om.num 23 m e = (decide (e = 0) && (decide (0 ≤ m) && decide (m ≤ 2)))) := by unfold Hid Om.num; rw [if_neg (by decide), if_pos rfl]
      rw [HN.out]
      clear HN
      by_cases g1 : e = 0
      · have g1' : (e == 0) = true := by simp [g1]
        by_cases g2 : 0 ≤ m
        · have g2' : decide (0 ≤ m) = true := by simp [g2]
          go_enter Try.func82, Try.ntmps82
          go_wp2_with fail
          go_ret
          exact ⟨lret_bool (by simp [g1, g2]), (Below.refl _ w).alloc (Nat.le_refl _) _⟩
        · have g2' : decide (0 ≤ m) = false := by simp [g2]
          go_enter Try.func82, Try.ntmps82
          go_wp2_with fail
          go_ret
          exact ⟨lret_bool (by first | rfl | simp), (Below.refl _ w).alloc (Nat.le_refl _) _⟩
      · have g1' : (e == 0) = false := by simp [g1]
        go_enter Try.func82, Try.ntmps82
        go_wp2_with fail
        go_ret
        exact ⟨lret_bool (by simp [g1]), (Below.refl _ w).alloc (Nat.le_refl _) _⟩
    · have hk23 : (k == 23) = false := by simp [h23]
      have HN : Hid (Om.num k m e = (decide (m = 0) && decide (e = 0))) := by unfold Hid Om.num; rw [if_neg h4, if_neg h23]
      rw [HN.out]
      clear HN
      go_enter Try.func82, Try.ntmps82
      go_wp2_with fail
      all_goals
        go_ret
        exact ⟨lret_bool (by simp_all), (Below.refl _ w).alloc (Nat.le_refl _) _⟩
end Go.Proofs.Ytbbbmmemfndnlaa
/- Contracts for trees that are ok: what is right below an object. -/
namespace Go.Proofs.Ytbbbmmemfndnlaa
open Go.RowKit

abbrev KH (W0 : World) (b : Nat) (v : Value) (w : World) : Prop := w.cell? ⟨b, 4, none⟩ = some v ∧ Below W0.heap.size W0 w
theorem KH.grow {W0 : World} {b : Nat} {v : Value} {w w' : World} (h : KH W0 b v w) (hb : Below w.heap.size w w') : KH W0 b v w' :=
  ⟨(hb.cell (p := ⟨b, 4, none⟩) (World.block_lt_of_cell? w _ h.1)).trans h.1, h.2.trans (hb.mono h.2.size)⟩
theorem KH.drew {W0 : World} {b : Nat} {v : Value} {w : World} (h : KH W0 b v w) : KH W0 b v w.drew := h.grow ((Below.refl _ _).drew)

set_option maxRecDepth 100000 in
set_option maxHeartbeats 4000000 in
theorem kidsFit_object (t : ByteArray) (m e : Int) (a : Option Addr) (c : Nat) (F : Fo) (w : World) (hin : F.In w a) (hl : F.len ≤ c) (hc : c ≤ maxLen) :
    Calls Try.prog 83 #[nodeV 22 t m e a F.len c] w fun r w' => r = .returned (.bool (decide (F.cnt 23 F.len = F.len) && F.dist F.len)) ∧ Below w.heap.size w w' := by
  have hcn := F.cnt_le 23 F.len
  have hcc := hc
  unfold maxLen at hcc
  go_enter Try.func83, Try.ntmps83
  go_wp2_with fail
  obtain ⟨W0, hW0⟩ : ∃ W0, W0 = w.alloc (.cells #[.int .i64 22, .string t, .int .i64 m, .int .i64 e, .slice a F.len c] 33) := ⟨_, rfl⟩
  have hB0 : Below w.heap.size w W0 := by subst hW0; exact (Below.refl _ w).alloc (Nat.le_refl _) _
  have A0 : W0.cell? ⟨w.heap.size, 4, none⟩ = some (.slice a F.len c) := by subst hW0; simp
  rw [← hW0]
  clear hW0
  have HC := countKind_any F 23 a F.len c
  have HD := distinct_any F a F.len c
  by_cases hq : F.cnt 23 F.len = F.len
  · rw [hq] at HC
    have HP : Hid ((decide (F.cnt 23 F.len = F.len) && F.dist F.len) = F.dist F.len) := by unfold Hid; simp [hq]
    clear hq hcn
    have HI : ∀ W, (W.cell? ⟨w.heap.size, 4, none⟩ = some (.slice a F.len c) ∧ Below W0.heap.size W0 W) → F.In W a := fun W h => hin.grow (hB0.trans (h.2.mono hB0.size))
    have hS0 : W0.cell? ⟨w.heap.size, 4, none⟩ = some (.slice a F.len c) ∧ Below W0.heap.size W0 W0 := ⟨A0, Below.refl _ _⟩
    generalize hdd : F.dist F.len = dd at HD
    have HDD : Hid (F.dist F.len = dd) := hdd
    clear hdd A0
    generalize hn : F.len = n at HC HD HI hS0 hl ⊢
    clear hn
    refine wp_region_held_drew (S := fun w' => w'.cell? ⟨w.heap.size, 4, none⟩ = some (.slice a n c) ∧ Below W0.heap.size W0 w') (by kernel_rfl) (KH.drew hS0) (fun hHeld => ?_)
    refine wpAnyH_take (i := 0) (v := .pointer (some ⟨w.heap.size, 4, none⟩)) rfl (by kernel_rfl) (by kernel_rfl) (by kernel_rfl) (fun _ _ _ h => h) (Or.inl ⟨by rfl, ?_⟩) (by assumption) ?_
    · intro w hSw
      (try dsimp only at hSw)
      go_simp
    (try simp only [Act.put, List.getElem_toArray, List.getElem_cons_zero, List.setIfInBounds_toArray, List.set_cons_zero, List.set_cons_succ])
    refine wpAnyH_take (i := 1) (v := .slice a n c) rfl (by kernel_rfl) (by kernel_rfl) (by kernel_rfl) (fun _ _ _ h => h) (Or.inl ⟨by rfl, ?_⟩) (by assumption) ?_
    · intro w hSw
      (try dsimp only at hSw)
      go_simp
    (try simp only [Act.put, List.getElem_toArray, List.getElem_cons_zero, List.getElem_cons_succ, List.setIfInBounds_toArray, List.set_cons_zero, List.set_cons_succ])
    refine wpAnyH_take (i := 3) (v := .pointer (some ⟨w.heap.size, 4, none⟩)) rfl (by kernel_rfl) (by kernel_rfl) (by kernel_rfl) (fun _ _ _ h => h) (Or.inl ⟨by rfl, ?_⟩) (by assumption) ?_
    · intro w hSw
      (try dsimp only at hSw)
      go_simp
    (try simp only [Act.put, List.getElem_toArray, List.getElem_cons_zero, List.getElem_cons_succ, List.setIfInBounds_toArray, List.set_cons_zero, List.set_cons_succ])
    refine wpAnyH_take (i := 4) (v := .slice a n c) rfl (by kernel_rfl) (by kernel_rfl) (by kernel_rfl) (fun _ _ _ h => h) (Or.inl ⟨by rfl, ?_⟩) (by assumption) ?_
    · intro w hSw
      (try dsimp only at hSw)
      go_simp
    (try simp only [Act.put, List.getElem_toArray, List.getElem_cons_zero, List.getElem_cons_succ, List.setIfInBounds_toArray, List.set_cons_zero, List.set_cons_succ])
    refine wpAnyH_take (i := 5) (v := .int .i64 n) rfl (by kernel_rfl) (by kernel_rfl) (by kernel_rfl) (fun _ _ _ h => h) (Or.inl ⟨by rfl, ?_⟩) (by assumption) ?_
    · intro w hSw
      (try dsimp only at hSw)
      go_simp
    (try simp only [Act.put, List.getElem_toArray, List.getElem_cons_zero, List.getElem_cons_succ, List.setIfInBounds_toArray, List.set_cons_zero, List.set_cons_succ])
    refine wpAnyH_ready (rs := [2]) (by kernel_rfl) (by simp) ?_
    refine AllReadyH.cons rfl (fun K hK => ?_) AllReadyH.nil
    go_simp
    refine (HC _ (HI _ (by assumption)) (Nat.le_refl _) hl hc).mono ?_
    rintro e w1' ⟨rfl, hb1⟩
    have hS := KH.grow (by assumption) hb1
    go_wp2_with fail
    refine hK.out _ _ hS (fun hHeld => ?_)
    clear hK K hS hb1
    refine wpAnyH_take (i := 6) (v := .bool true) rfl (by kernel_rfl) (by kernel_rfl) (by kernel_rfl) (fun _ _ _ h => h) (Or.inl ⟨by rfl, ?_⟩) (by assumption) ?_
    · intro w hSw
      (try dsimp only at hSw)
      go_simp
    (try simp only [Act.put, List.getElem_toArray, List.getElem_cons_zero, List.getElem_cons_succ, List.setIfInBounds_toArray, List.set_cons_zero, List.set_cons_succ])
    refine wpAnyH_take (i := 7) (v := .bool true) rfl (by kernel_rfl) (by kernel_rfl) (by kernel_rfl) (fun _ _ _ h => h) (Or.inl ⟨by rfl, ?_⟩) (by assumption) ?_
    · intro w hSw
      (try dsimp only at hSw)
      go_simp
    (try simp only [Act.put, List.getElem_toArray, List.getElem_cons_zero, List.getElem_cons_succ, List.setIfInBounds_toArray, List.set_cons_zero, List.set_cons_succ])
    refine wpAnyH_take (i := 8) (v := .pointer (some ⟨w.heap.size, 4, none⟩)) rfl (by kernel_rfl) (by kernel_rfl) (by kernel_rfl) (fun _ _ _ h => h) (Or.inl ⟨by rfl, ?_⟩) (by assumption) ?_
    · intro w hSw
      (try dsimp only at hSw)
      go_simp
    (try simp only [Act.put, List.getElem_toArray, List.getElem_cons_zero, List.getElem_cons_succ, List.setIfInBounds_toArray, List.set_cons_zero, List.set_cons_succ])
    refine wpAnyH_take (i := 9) (v := .slice a n c) rfl (by kernel_rfl) (by kernel_rfl) (by kernel_rfl) (fun _ _ _ h => h) (Or.inl ⟨by rfl, ?_⟩) (by assumption) ?_
    · intro w hSw
      (try dsimp only at hSw)
      go_simp
    (try simp only [Act.put, List.getElem_toArray, List.getElem_cons_zero, List.getElem_cons_succ, List.setIfInBounds_toArray, List.set_cons_zero, List.set_cons_succ])
    refine wpAnyH_ready (rs := [10]) (by kernel_rfl) (by simp) ?_
    refine AllReadyH.cons rfl (fun K hK => ?_) AllReadyH.nil
    rw [if_pos (by rfl)]
    go_simp
    refine (HD _ (HI _ (by assumption)) (Nat.le_refl _) hl hc).mono ?_
    rintro e w1' ⟨rfl, hb1⟩
    have hS := KH.grow (by assumption) hb1
    go_wp2_with fail
    refine hK.out _ _ hS (fun hHeld => ?_)
    clear hK K hS hb1
    refine wpAnyH_take (i := 11) (v := .bool dd) rfl (by kernel_rfl) (by kernel_rfl) (by kernel_rfl) (fun _ _ _ h => h) (Or.inl ⟨by rfl, ?_⟩) (by assumption) ?_
    · intro w hSw
      (try dsimp only at hSw)
      go_simp
    (try simp only [Act.put, List.getElem_toArray, List.getElem_cons_zero, List.getElem_cons_succ, List.setIfInBounds_toArray, List.set_cons_zero, List.set_cons_succ])
    refine wpAnyH_take (i := 12) (v := .bool dd) rfl (by kernel_rfl) (by kernel_rfl) (by kernel_rfl) (fun _ _ _ h => h) (Or.inl ⟨by rfl, ?_⟩) (by assumption) ?_
    · intro w hSw
      (try dsimp only at hSw)
      go_simp
    (try simp only [Act.put, List.getElem_toArray, List.getElem_cons_zero, List.getElem_cons_succ, List.setIfInBounds_toArray, List.set_cons_zero, List.set_cons_succ])
    refine wpAnyH_done (by kernel_rfl) ?_ _
    go_wp2_with fail
    go_ret
    exact ⟨by rw [HP.out, HDD.out]; rfl, hB0.trans (hHeld.2.mono hB0.size)⟩
  · skip
    have HP : Hid ((decide (F.cnt 23 F.len = F.len) && F.dist F.len) = false) := by unfold Hid; simp [hq]
    have hne : ((F.cnt 23 F.len : Int) == (F.len : Int)) = false := by simp; omega
    clear hq hcn
    have HI : ∀ W, (W.cell? ⟨w.heap.size, 4, none⟩ = some (.slice a F.len c) ∧ Below W0.heap.size W0 W) → F.In W a := fun W h => hin.grow (hB0.trans (h.2.mono hB0.size))
    have hS0 : W0.cell? ⟨w.heap.size, 4, none⟩ = some (.slice a F.len c) ∧ Below W0.heap.size W0 W0 := ⟨A0, Below.refl _ _⟩
    generalize hdd : F.dist F.len = dd at HD
    have HDD : Hid (F.dist F.len = dd) := hdd
    clear hdd A0
    generalize hcn : F.cnt 23 F.len = cn at HC hne
    clear hcn
    generalize hn : F.len = n at HC HD HI hS0 hl ⊢ hne
    clear hn
    refine wp_region_held_drew (S := fun w' => w'.cell? ⟨w.heap.size, 4, none⟩ = some (.slice a n c) ∧ Below W0.heap.size W0 w') (by kernel_rfl) (KH.drew hS0) (fun hHeld => ?_)
    refine wpAnyH_take (i := 0) (v := .pointer (some ⟨w.heap.size, 4, none⟩)) rfl (by kernel_rfl) (by kernel_rfl) (by kernel_rfl) (fun _ _ _ h => h) (Or.inl ⟨by rfl, ?_⟩) (by assumption) ?_
    · intro w hSw
      (try dsimp only at hSw)
      go_simp
    (try simp only [Act.put, List.getElem_toArray, List.getElem_cons_zero, List.setIfInBounds_toArray, List.set_cons_zero, List.set_cons_succ])
    refine wpAnyH_take (i := 1) (v := .slice a n c) rfl (by kernel_rfl) (by kernel_rfl) (by kernel_rfl) (fun _ _ _ h => h) (Or.inl ⟨by rfl, ?_⟩) (by assumption) ?_
    · intro w hSw
      (try dsimp only at hSw)
      go_simp
    (try simp only [Act.put, List.getElem_toArray, List.getElem_cons_zero, List.getElem_cons_succ, List.setIfInBounds_toArray, List.set_cons_zero, List.set_cons_succ])
    refine wpAnyH_take (i := 3) (v := .pointer (some ⟨w.heap.size, 4, none⟩)) rfl (by kernel_rfl) (by kernel_rfl) (by kernel_rfl) (fun _ _ _ h => h) (Or.inl ⟨by rfl, ?_⟩) (by assumption) ?_
    · intro w hSw
      (try dsimp only at hSw)
      go_simp
    (try simp only [Act.put, List.getElem_toArray, List.getElem_cons_zero, List.getElem_cons_succ, List.setIfInBounds_toArray, List.set_cons_zero, List.set_cons_succ])
    refine wpAnyH_take (i := 4) (v := .slice a n c) rfl (by kernel_rfl) (by kernel_rfl) (by kernel_rfl) (fun _ _ _ h => h) (Or.inl ⟨by rfl, ?_⟩) (by assumption) ?_
    · intro w hSw
      (try dsimp only at hSw)
      go_simp
    (try simp only [Act.put, List.getElem_toArray, List.getElem_cons_zero, List.getElem_cons_succ, List.setIfInBounds_toArray, List.set_cons_zero, List.set_cons_succ])
    refine wpAnyH_take (i := 5) (v := .int .i64 n) rfl (by kernel_rfl) (by kernel_rfl) (by kernel_rfl) (fun _ _ _ h => h) (Or.inl ⟨by rfl, ?_⟩) (by assumption) ?_
    · intro w hSw
      (try dsimp only at hSw)
      go_simp
    (try simp only [Act.put, List.getElem_toArray, List.getElem_cons_zero, List.getElem_cons_succ, List.setIfInBounds_toArray, List.set_cons_zero, List.set_cons_succ])
    refine wpAnyH_ready (rs := [2]) (by kernel_rfl) (by simp) ?_
    refine AllReadyH.cons rfl (fun K hK => ?_) AllReadyH.nil
    go_simp
    refine (HC _ (HI _ (by assumption)) (Nat.le_refl _) hl hc).mono ?_
    rintro e w1' ⟨rfl, hb1⟩
    have hS := KH.grow (by assumption) hb1
    go_wp2_with fail
    refine hK.out _ _ hS (fun hHeld => ?_)
    clear hK K hS hb1
    refine wpAnyH_take (i := 6) (v := .bool false) rfl (by kernel_rfl) (by kernel_rfl) (by kernel_rfl) (fun _ _ _ h => h) (Or.inl ⟨by rfl, ?_⟩) (by assumption) ?_
    · intro w hSw
      (try dsimp only at hSw)
      go_simp
    (try simp only [Act.put, List.getElem_toArray, List.getElem_cons_zero, List.getElem_cons_succ, List.setIfInBounds_toArray, List.set_cons_zero, List.set_cons_succ])
    refine wpAnyH_take (i := 7) (v := .bool false) rfl (by kernel_rfl) (by kernel_rfl) (by kernel_rfl) (fun _ _ _ h => h) (Or.inl ⟨by rfl, ?_⟩) (by assumption) ?_
    · intro w hSw
      (try dsimp only at hSw)
      go_simp
    (try simp only [Act.put, List.getElem_toArray, List.getElem_cons_zero, List.getElem_cons_succ, List.setIfInBounds_toArray, List.set_cons_zero, List.set_cons_succ])
    refine wpAnyH_take (i := 8) (v := undef) rfl (by kernel_rfl) (by kernel_rfl) (by kernel_rfl) (fun _ _ _ h => h) (Or.inr ⟨by rfl, rfl⟩) (by assumption) ?_
    (try simp only [Act.put, List.getElem_toArray, List.getElem_cons_zero, List.getElem_cons_succ, List.setIfInBounds_toArray, List.set_cons_zero, List.set_cons_succ])
    refine wpAnyH_take (i := 9) (v := undef) rfl (by kernel_rfl) (by kernel_rfl) (by kernel_rfl) (fun _ _ _ h => h) (Or.inr ⟨by rfl, rfl⟩) (by assumption) ?_
    (try simp only [Act.put, List.getElem_toArray, List.getElem_cons_zero, List.getElem_cons_succ, List.setIfInBounds_toArray, List.set_cons_zero, List.set_cons_succ])
    refine wpAnyH_take (i := 10) (v := undef) rfl (by kernel_rfl) (by kernel_rfl) (by kernel_rfl) (fun _ _ _ h => h) (Or.inr ⟨by rfl, rfl⟩) (by assumption) ?_
    (try simp only [Act.put, List.getElem_toArray, List.getElem_cons_zero, List.getElem_cons_succ, List.setIfInBounds_toArray, List.set_cons_zero, List.set_cons_succ])
    refine wpAnyH_take (i := 11) (v := .bool false) rfl (by kernel_rfl) (by kernel_rfl) (by kernel_rfl) (fun _ _ _ h => h) (Or.inl ⟨by rfl, ?_⟩) (by assumption) ?_
    · intro w hSw
      (try dsimp only at hSw)
      go_simp
    (try simp only [Act.put, List.getElem_toArray, List.getElem_cons_zero, List.getElem_cons_succ, List.setIfInBounds_toArray, List.set_cons_zero, List.set_cons_succ])
    refine wpAnyH_take (i := 12) (v := .bool false) rfl (by kernel_rfl) (by kernel_rfl) (by kernel_rfl) (fun _ _ _ h => h) (Or.inl ⟨by rfl, ?_⟩) (by assumption) ?_
    · intro w hSw
      (try dsimp only at hSw)
      go_simp
    (try simp only [Act.put, List.getElem_toArray, List.getElem_cons_zero, List.getElem_cons_succ, List.setIfInBounds_toArray, List.set_cons_zero, List.set_cons_succ])
    refine wpAnyH_done (by kernel_rfl) ?_ _
    go_wp2_with fail
    go_ret
    exact ⟨by rw [HP.out]; rfl, hB0.trans (hHeld.2.mono hB0.size)⟩
end Go.Proofs.Ytbbbmmemfndnlaa
/- Contracts for trees that are ok: what is right below a function, and others. -/
namespace Go.Proofs.Ytbbbmmemfndnlaa
open Go.RowKit

theorem box4 (w : World) (k : Int) (t : ByteArray) (m e : Int) (v : Value) (ty : TypeId) : (w.alloc (.cells #[.int .i64 k, .string t, .int .i64 m, .int .i64 e, v] ty)).cell? ⟨w.heap.size, 4, none⟩ = some v := by simp
theorem box1 (w : World) (k : Int) (t : ByteArray) (m e : Int) (v : Value) (ty : TypeId) : (w.alloc (.cells #[.int .i64 k, .string t, .int .i64 m, .int .i64 e, v] ty)).cell? ⟨w.heap.size, 1, none⟩ = some (.string t) := by simp

set_option maxRecDepth 100000 in
set_option maxHeartbeats 4000000 in
theorem kidsFit_func (t : ByteArray) (m e : Int) (a : Option Addr) (c : Nat) (F : Fo) (w : World) (hin : F.In w a) (hl : F.len ≤ c) (hc : c ≤ maxLen) (h1 : 1 ≤ F.len) :
    Calls Try.prog 83 #[nodeV 16 t m e a F.len c] w fun r w' => r = .returned (.bool (decide (F.cnt 6 (F.len - 1) = F.len - 1) && (F.dist (F.len - 1) && decide (F.cnt 23 F.len = 0)))) ∧ Below w.heap.size w w' := by
  obtain ⟨b, o, rfl, hF⟩ : ∃ b o, a = some ⟨b, o, none⟩ ∧ F.From w b o := by
    rcases hin with rfl | h
    · exact absurd h1 (by show ¬ 1 ≤ 0; omega)
    · exact h
  have hcc := hc
  unfold maxLen at hcc
  obtain ⟨n, hn⟩ : ∃ n, F.len = n + 1 := ⟨F.len - 1, by omega⟩
  have HC6 := countKind_any F 6 (some ⟨b, o, none⟩) n c
  have HD := distinct_any F (some ⟨b, o, none⟩) n c
  have HC := countKind_any F 23 (some ⟨b, o, none⟩) (n + 1) c
  have hcn6 := F.cnt_le 6 n
  have hcn := F.cnt_le 23 (n + 1)
  rw [hn] at HC6 HD HC hl ⊢
  rw [show n + 1 - 1 = n by omega]
  have HP : Hid (∀ W, Below w.heap.size w W → F.In W (some ⟨b, o, none⟩)) := fun W h => Fo.In.grow (.inr ⟨b, o, rfl, hF⟩) h
  clear hF hin hn h1
  generalize F.cnt 6 n = c6 at *
  generalize F.dist n = dd at *
  generalize F.cnt 23 (n + 1) = c23 at *
  have hB0 := (Below.refl _ w).alloc (Nat.le_refl _) (.cells #[.int .i64 16, .string t, .int .i64 m, .int .i64 e, .slice (some ⟨b, o, none⟩) (n + 1) c] 33)
  have A0 := box4 w 16 t m e (.slice (some ⟨b, o, none⟩) (n + 1) c) 33
  go_enter Try.func83, Try.ntmps83
  go_wp2_with fail
  refine (HC6 _ (HP.out _ hB0) (by omega) (by omega) hc).mono ?_
  rintro e1 w1 ⟨rfl, hb1⟩
  have hB1 := hB0.trans (hb1.mono hB0.size)
  have A1 := (hb1.cell (p := ⟨w.heap.size, 4, none⟩) (World.block_lt_of_cell? _ _ A0)).trans A0
  clear A0 hb1 hB0
  by_cases h6 : c6 = n
  · subst h6
    have g : ((c6 : Int) < (c6 : Int)) = False := by simp
    go_wp2_with fail
    refine (HD _ (HP.out _ hB1) (by omega) (by omega) hc).mono ?_
    rintro e1 w2 ⟨rfl, hb2⟩
    have hB2 := hB1.trans (hb2.mono hB1.size)
    have A2 := (hb2.cell (p := ⟨w.heap.size, 4, none⟩) (World.block_lt_of_cell? _ _ A1)).trans A1
    clear A1 hb2 hB1
    cases dd
    · go_wp2_with fail
      go_ret
      exact ⟨lret_bool (by simp), hB2⟩
    · go_wp2_with fail
      refine (HC _ (HP.out _ hB2) (by omega) (by omega) hc).mono ?_
      rintro e1 w3 ⟨rfl, hb3⟩
      have hB3 := hB2.trans (hb3.mono hB2.size)
      go_wp2_with fail
      go_ret
      exact ⟨lret_bool (by rw [Bool.eq_iff_iff]; simp), hB3⟩
  · have g : (c6 : Int) < (n : Int) := by omega
    go_wp2_with fail
    go_ret
    exact ⟨lret_bool (by simp [h6]), hB1⟩

set_option maxRecDepth 100000 in
set_option maxHeartbeats 4000000 in
theorem kidsFit_std (t : ByteArray) (m e : Int) (a : Option Addr) (c : Nat) (F : Fo) (w : World) (hin : F.In w a) (hl : F.len ≤ c) (hc : c ≤ maxLen) :
    Calls Try.prog 83 #[nodeV 24 t m e a F.len c] w fun r w' => r = .returned (.bool (decide (Om.std t.toList = F.len) && decide (F.cnt 23 F.len = 0))) ∧ Below w.heap.size w w' := by
  have hcc := hc
  unfold maxLen at hcc
  have HC := countKind_any F 23 a F.len c
  have hcn := F.cnt_le 23 F.len
  have hsl := Om.std_le t.toList
  have HP : Hid (∀ W, Below w.heap.size w W → F.In W a) := fun W h => hin.grow h
  have hS := stdKids_any t
  clear hin
  generalize F.cnt 23 F.len = c23 at *
  generalize F.len = n at *
  generalize Om.std t.toList = st at *
  have hB0 := (Below.refl _ w).alloc (Nat.le_refl _) (.cells #[.int .i64 24, .string t, .int .i64 m, .int .i64 e, .slice a n c] 33)
  have A0 := box4 w 24 t m e (.slice a n c) 33
  have A1 := box1 w 24 t m e (.slice a n c) 33
  go_enter Try.func83, Try.ntmps83
  go_wp2_with fail
  generalize w.alloc (.cells #[.int .i64 24, .string t, .int .i64 m, .int .i64 e, .slice a n c] 33) = W0 at *
  go_quiet ((go_at_call 99; exact Calls.quiet_of_same (hS _)))
  by_cases hst : st = n
  · subst hst
    go_wp2_with fail
    refine (HC _ (HP.out _ (below_drewN hB0 _)) (by omega) (by omega) hc).mono ?_
    rintro e1 w3 ⟨rfl, hb3⟩
    have hB3 := (below_drewN hB0 _).trans (hb3.mono (below_drewN hB0 _).size)
    go_wp2_with fail
    go_ret
    exact ⟨lret_bool (by rw [Bool.eq_iff_iff]; simp), hB3⟩
  · have hne : ((st : Int) != (n : Int)) = true := by simp; omega
    go_wp2_with fail
    go_ret
    exact ⟨lret_bool (by simp [hst]), below_drewN hB0 _⟩

set_option maxRecDepth 100000 in
set_option maxHeartbeats 4000000 in
theorem kidsFit_other (k : Int) (t : ByteArray) (m e : Int) (a : Option Addr) (c : Nat) (F : Fo) (w : World) (hin : F.In w a) (hl : F.len ≤ c) (hc : c ≤ maxLen) (n1 : ¬ k = 22) (n2 : ¬ k = 16) (n3 : ¬ k = 24) :
    Calls Try.prog 83 #[nodeV k t m e a F.len c] w fun r w' => r = .returned (.bool (decide (F.cnt 23 F.len = 0))) ∧ Below w.heap.size w w' := by
  have hcc := hc
  unfold maxLen at hcc
  have HC := countKind_any F 23 a F.len c
  have hcn := F.cnt_le 23 F.len
  have HP : Hid (∀ W, Below w.heap.size w W → F.In W a) := fun W h => hin.grow h
  clear hin
  have g1 : (k == 22) = false := by simp [n1]
  have g2 : (k == 16) = false := by simp [n2]
  have g3 : (k == 24) = false := by simp [n3]
  generalize F.cnt 23 F.len = c23 at *
  generalize F.len = n at *
  have hB0 := (Below.refl _ w).alloc (Nat.le_refl _) (.cells #[.int .i64 k, .string t, .int .i64 m, .int .i64 e, .slice a n c] 33)
  go_enter Try.func83, Try.ntmps83
  go_wp2_with fail
  refine (HC _ (HP.out _ hB0) (by omega) (by omega) hc).mono ?_
  rintro e1 w3 ⟨rfl, hb3⟩
  have hB3 := hB0.trans (hb3.mono hB0.size)
  go_wp2_with fail
  go_ret
  exact ⟨lret_bool (by rw [Bool.eq_iff_iff]; simp), hB3⟩
theorem kidsFit_any (k : Int) (t : ByteArray) (m e : Int) (a : Option Addr) (c : Nat) (F : Fo) (w : World) (hin : F.In w a) (hl : F.len ≤ c) (hc : c ≤ maxLen) (h16 : k = 16 → 1 ≤ F.len) :
    Calls Try.prog 83 #[nodeV k t m e a F.len c] w fun r w' => r = .returned (.bool (Om.below k t F)) ∧ Below w.heap.size w w' := by
  unfold Om.below
  by_cases h1 : k = 22
  · rw [if_pos h1]; subst h1; exact kidsFit_object t m e a c F w hin hl hc
  rw [if_neg h1]
  by_cases h2 : k = 16
  · rw [if_pos h2]; have := h16 h2; subst h2; exact kidsFit_func t m e a c F w hin hl hc this
  rw [if_neg h2]
  by_cases h3 : k = 24
  · rw [if_pos h3]; subst h3; exact kidsFit_std t m e a c F w hin hl hc
  rw [if_neg h3]
  exact kidsFit_other k t m e a c F w hin hl hc h1 h2 h3
end Go.Proofs.Ytbbbmmemfndnlaa
/- Contracts for trees that are ok, of the specification: the text of a node; a field. -/
namespace Go.Proofs.Ytbbbmmemfndnlaa
open Go.RowKit
/-- the text is as its kind has it, by the specification -/
def sText (k : Int) (t : ByteArray) (n : Nat) : Bool := if k = 24 then decide (stdOr t.toList = (n : Int)) else if k = 23 then (t.toList == []) else Om.textOf (Om.sort k) t
set_option maxRecDepth 100000 in
set_option maxHeartbeats 2000000 in
theorem l3Text_any (k : Int) (t : ByteArray) (m e : Int) (a : Option Addr) (n c : Nat) (w : World) (ht : t.size ≤ maxLen) :
    Calls Try.prog 73 #[nodeV k t m e a n c] w fun r w' => r = .returned (.bool (sText k t n)) ∧ Below w.heap.size w w' := by
  have htt := ht
  unfold maxLen at htt
  have hB0 := (Below.refl _ w).alloc (Nat.le_refl _) (.cells #[.int .i64 k, .string t, .int .i64 m, .int .i64 e, .slice a n c] 33)
  by_cases h5 : k = 5
  · subst h5
    go_enter Try.func73, Try.ntmps73
    go_wp2_with fail
    go_ret
    exact ⟨lret_bool (by rw [Bool.eq_iff_iff]; simp [sText, Om.sort, Om.textOf]; omega), hB0⟩
  by_cases h6 : k = 6
  · subst h6
    go_enter Try.func73, Try.ntmps73
    go_wp2_with fail
    refine (sNameOk_any t _ ht).mono ?_
    rintro r w1 ⟨rfl, hb1⟩
    have hB1 := hB0.trans (hb1.mono hB0.size)
    go_wp2_with fail
    go_ret
    exact ⟨rfl, hB1⟩
  by_cases h8 : k = 8
  · subst h8
    go_enter Try.func73, Try.ntmps73
    go_wp2_with fail
    refine (sNameOk_any t _ ht).mono ?_
    rintro r w1 ⟨rfl, hb1⟩
    have hB1 := hB0.trans (hb1.mono hB0.size)
    go_wp2_with fail
    go_ret
    exact ⟨rfl, hB1⟩
  by_cases h18 : k = 18
  · subst h18
    go_enter Try.func73, Try.ntmps73
    go_wp2_with fail
    refine (sNameOk_any t _ ht).mono ?_
    rintro r w1 ⟨rfl, hb1⟩
    have hB1 := hB0.trans (hb1.mono hB0.size)
    go_wp2_with fail
    go_ret
    exact ⟨rfl, hB1⟩
  by_cases h15 : k = 15
  · subst h15
    go_enter Try.func73, Try.ntmps73
    go_wp2_with fail
    refine (sNameOk_any t _ ht).mono ?_
    rintro r w1 ⟨rfl, hb1⟩
    have hB1 := hB0.trans (hb1.mono hB0.size)
    go_wp2_with fail
    go_ret
    exact ⟨rfl, hB1⟩
  by_cases h21 : k = 21
  · subst h21
    go_enter Try.func73, Try.ntmps73
    go_wp2_with fail
    refine (sNameOk_any t _ ht).mono ?_
    rintro r w1 ⟨rfl, hb1⟩
    have hB1 := hB0.trans (hb1.mono hB0.size)
    go_wp2_with fail
    go_ret
    exact ⟨rfl, hB1⟩
  by_cases h9 : k = 9
  · subst h9
    go_enter Try.func73, Try.ntmps73
    go_wp2_with fail
    refine (sNameOk_any t _ ht).mono ?_
    rintro r w1 ⟨rfl, hb1⟩
    have hB1 := hB0.trans (hb1.mono hB0.size)
    go_wp2_with fail
    go_ret
    exact ⟨rfl, hB1⟩
  by_cases h13 : k = 13
  · subst h13
    go_enter Try.func73, Try.ntmps73
    go_wp2_with fail
    refine (l3Level_any t _).mono ?_
    rintro r w1 ⟨⟨z, rfl, hz⟩, hb1⟩
    have HZ : Hid (decide (0 ≤ z) = Qm.has Om.signs t.toList) := hz
    clear hz
    have hB1 := hB0.trans (hb1.mono hB0.size)
    go_wp2_with fail
    go_ret
    exact ⟨lret_bool HZ.out, hB1⟩
  by_cases h24 : k = 24
  · subst h24
    have hS := l3Std_any t
    have hst : -1 ≤ stdOr t.toList ∧ stdOr t.toList ≤ 3 := by have := Om.std_le t.toList; unfold stdOr; split <;> omega
    have HX : Hid (sText 24 t n = decide (stdOr t.toList = (n : Int))) := rfl
    rw [HX.out]
    generalize stdOr t.toList = z at *
    have A0 := box4 w 24 t m e (.slice a n c) 33
    have A1 := box1 w 24 t m e (.slice a n c) 33
    go_enter Try.func73, Try.ntmps73
    go_wp2_with fail
    generalize w.alloc (.cells #[.int .i64 24, .string t, .int .i64 m, .int .i64 e, .slice a n c] 33) = W0 at *
    go_quiet ((go_at_call 97; exact Calls.quiet_of_same (hS _)))
    go_wp2_with fail
    go_ret
    exact ⟨lret_bool (by rw [Bool.eq_iff_iff]; simp), below_drewN hB0 _⟩
  have g5 : (k == 5) = false := by simp [h5]
  have g6 : (k == 6) = false := by simp [h6]
  have g8 : (k == 8) = false := by simp [h8]
  have g18 : (k == 18) = false := by simp [h18]
  have g15 : (k == 15) = false := by simp [h15]
  have g21 : (k == 21) = false := by simp [h21]
  have g9 : (k == 9) = false := by simp [h9]
  have g13 : (k == 13) = false := by simp [h13]
  have g24 : (k == 24) = false := by simp [h24]
  have HX : Hid (sText k t n = (t.toList == [])) := by
    unfold Hid sText
    rw [if_neg h24]
    by_cases h23 : k = 23
    · rw [if_pos h23]
    · rw [if_neg h23]
      have : Om.sort k = 0 := by unfold Om.sort; simp [h5, h6, h8, h18, h15, h21, h9, h13, h24, h23]
      rw [this]; rfl
  rw [HX.out]
  go_enter Try.func73, Try.ntmps73
  go_wp2_with fail
  go_ret
  exact ⟨lret_bool (by first | rfl | (rw [Bool.eq_iff_iff]; simp)), hB0⟩
end Go.Proofs.Ytbbbmmemfndnlaa
/- Contracts for trees that are ok, of the specification: a field. -/
namespace Go.Proofs.Ytbbbmmemfndnlaa
open Go.RowKit
/-- a field, but for what it is -/
def sField (k : Int) (t : ByteArray) (m e : Int) (n : Nat) : Bool := decide (k = 23) && (Qm.name t && (decide (n = 1) && (decide (e = 0) && (decide (0 ≤ m) && decide (m ≤ 2)))))
set_option maxRecDepth 100000 in
set_option maxHeartbeats 2000000 in
theorem l3Field_any (k : Int) (t : ByteArray) (m e : Int) (a : Option Addr) (n c : Nat) (w : World) (ht : t.size ≤ maxLen) :
    Calls Try.prog 98 #[nodeV k t m e a n c] w fun r w' => r = .returned (.bool (sField k t m e n)) ∧ Below w.heap.size w w' := by
  have hB0 := (Below.refl _ w).alloc (Nat.le_refl _) (.cells #[.int .i64 k, .string t, .int .i64 m, .int .i64 e, .slice a n c] 33)
  have a2 : (w.alloc (.cells #[.int .i64 k, .string t, .int .i64 m, .int .i64 e, .slice a n c] 33)).cell? ⟨w.heap.size, 2, none⟩ = some (.int .i64 m) := by simp
  have a3 : (w.alloc (.cells #[.int .i64 k, .string t, .int .i64 m, .int .i64 e, .slice a n c] 33)).cell? ⟨w.heap.size, 3, none⟩ = some (.int .i64 e) := by simp
  have a4 : (w.alloc (.cells #[.int .i64 k, .string t, .int .i64 m, .int .i64 e, .slice a n c] 33)).cell? ⟨w.heap.size, 4, none⟩ = some (.slice a n c) := by simp
  by_cases h23 : k = 23
  · subst h23
    have HS : Hid (sField 23 t m e n = (Qm.name t && (decide (n = 1) && (decide (e = 0) && (decide (0 ≤ m) && decide (m ≤ 2)))))) := by unfold Hid sField; simp
    rw [HS.out]
    clear HS
    go_enter Try.func98, Try.ntmps98
    go_wp2_with fail
    refine (sNameOk_any t _ ht).mono ?_
    rintro r w1 ⟨rfl, hb1⟩
    have hB1 := hB0.trans (hb1.mono hB0.size)
    have c2 := (hb1.cell (p := ⟨w.heap.size, 2, none⟩) (by simp)).trans a2
    have c3 := (hb1.cell (p := ⟨w.heap.size, 3, none⟩) (by simp)).trans a3
    have c4 := (hb1.cell (p := ⟨w.heap.size, 4, none⟩) (by simp)).trans a4
    clear a2 a3 a4 hb1
    generalize hnm : Qm.name t = nm
    have HN : Hid (Qm.name t = nm) := hnm
    clear hnm
    cases nm
    · go_wp2_with fail
      go_ret
      exact ⟨lret_bool (by first | rfl | (rw [HN.out]; done) | (rw [HN.out]; rfl)), hB1⟩
    · by_cases h1 : n = 1
      · subst h1
        by_cases he : e = 0
        · subst he
          by_cases m0 : m = 0
          · subst m0
            go_wp2_with fail
            go_ret
            exact ⟨lret_bool (by first | rfl | (rw [HN.out]; done) | (rw [HN.out]; rfl)), hB1⟩
          · have m0' : (m == 0) = false := by simp [m0]
            by_cases m1 : m = 1
            · subst m1
              go_wp2_with fail
              go_ret
              exact ⟨lret_bool (by first | rfl | (rw [HN.out]; done) | (rw [HN.out]; rfl)), hB1⟩
            · have m1' : (m == 1) = false := by simp [m1]
              by_cases m2 : m = 2
              · subst m2
                go_wp2_with fail
                go_ret
                exact ⟨lret_bool (by first | rfl | (rw [HN.out]; done) | (rw [HN.out]; rfl)), hB1⟩
              · have m2' : (m == 2) = false := by simp [m2]
                have hx : (decide (0 ≤ m) && decide (m ≤ 2)) = false := by rw [← Bool.decide_and]; exact decide_eq_false (by omega)
                have HQ : Hid ((decide (0 ≤ m) && decide (m ≤ 2)) = false) := hx
                clear hx
                go_wp2_with fail
                go_ret
                exact ⟨lret_bool (by first | rfl | (rw [HN.out, HQ.out]; done) | (rw [HN.out, HQ.out]; rfl)), hB1⟩
        · have he' : (e == 0) = false := by simp [he]
          have HQ : Hid (decide (e = 0) = false) := by unfold Hid; simp [he]
          go_wp2_with fail
          all_goals
            go_ret
            exact ⟨lret_bool (by first | rfl | (rw [HN.out, HQ.out]; done) | (rw [HN.out, HQ.out]; rfl)), hB1⟩
      · have h1' : ((n : Int) == 1) = false := by simp; omega
        have HQ : Hid (decide (n = 1) = false) := by unfold Hid; simp [h1]
        go_wp2_with fail
        go_ret
        exact ⟨lret_bool (by first | rfl | (rw [HN.out, HQ.out]; done) | (rw [HN.out, HQ.out]; rfl)), hB1⟩
  · have g : (k == 23) = false := by simp [h23]
    have HS : Hid (sField k t m e n = false) := by unfold Hid sField; simp [h23]
    rw [HS.out]
    go_enter Try.func98, Try.ntmps98
    go_wp2_with fail
    go_ret
    exact ⟨lret_bool rfl, hB0⟩
end Go.Proofs.Ytbbbmmemfndnlaa
/- Contracts for trees that are ok, of the specification: the names of a function. -/
namespace Go.Proofs.Ytbbbmmemfndnlaa
open Go.RowKit
def Fo.nameHead (F : Fo) (i : Nat) : Bool := decide (F.kindAt i = 6) && (Qm.name (F.textAt i) && (decide (F.manAt i = 0) && (decide (F.expAt i = 0) && decide ((F.kidsAt i).len = 0))))
/-- the first n are names, no two alike -/
def Fo.nmOk (F : Fo) : Nat → Bool
  | 0 => true
  | n + 1 => F.nmOk n && (F.nameHead n && F.newAt n n)
theorem Fo.nmOk_false {F : Fo} {i n : Nat} (h : (F.nameHead i && F.newAt i i) = false) (hi : i < n) : F.nmOk n = false := by
  induction n with
  | zero => omega
  | succ n ih =>
    show (F.nmOk n && (F.nameHead n && F.newAt n n)) = false
    rcases Nat.lt_succ_iff_lt_or_eq.1 hi with hi | rfl
    · rw [ih hi]; rfl
    · rw [h]; simp
set_option maxRecDepth 100000 in
set_option maxHeartbeats 3000000 in
theorem l3Names_any (F : Fo) (a : Option Addr) (c : Nat) (w : World) (hin : F.In w a) (hl : F.len ≤ c) (hm : c ≤ maxLen) :
    Calls Try.prog 76 #[.slice a F.len c] w fun e w' => e = .returned (.bool (F.nmOk (F.len - 1))) ∧ Below w.heap.size w w' := by
  unfold maxLen at hm
  have hcl : F.len ≤ 9223372036854775807 := by omega
  go_enter Try.func76, Try.ntmps76
  go_wp2_with fail
  go_loopw [3] (fun i wr => ∃ j : Nat, i = .int .i64 j ∧ F.nmOk j = true ∧ j ≤ F.len - 1 ∧ Below w.heap.size w wr) (fun i _ => F.len - (intOf i).toNat)
  case atStart => exact ⟨0, rfl, rfl, Nat.zero_le _, Below.refl _ _⟩
  case round =>
    obtain ⟨j, rfl, hd, hj, hb⟩ := hrel
    have HD : Hid (F.nmOk j = true) := hd
    clear hd
    by_cases hlt : j + 1 < F.len
    · have hlt' : (j : Int) + 1 < (F.len : Int) := by omega
      have hjl : (j : Int) < (F.len : Int) := by omega
      have hjn : j < F.len := by omega
      obtain ⟨b, o, rfl, hF⟩ : ∃ b o, a = some ⟨b, o, none⟩ ∧ F.From w b o := by
        rcases hin with rfl | h
        · exact absurd hlt (by show ¬ j + 1 < 0; omega)
        · exact h
      clear hin
      obtain ⟨⟨h1, h2, h3, h4, h5⟩, _, _, _, ht⟩ := Fo.from_at (Fo.from_grow hb F b o hF) hjn
      have HF : Hid ((F.nameHead j && F.newAt j j) = false → F.nmOk (F.len - 1) = false) := fun h => Fo.nmOk_false h (by omega)
      have HH : Hid (F.nameHead j = (decide (F.kindAt j = 6) && (Qm.name (F.textAt j) && (decide (F.manAt j = 0) && (decide (F.expAt j = 0) && decide ((F.kidsAt j).len = 0)))))) := rfl
      by_cases q1 : F.kindAt j = 6
      · rw [q1] at h1
        have HN := fun W => sNameOk_any (F.textAt j) W ht
        generalize hnm : Qm.name (F.textAt j) = nm at HN
        have HNm : Hid (Qm.name (F.textAt j) = nm) := hnm
        clear hnm
        cases nm
        · have HR : Hid (F.nmOk (F.len - 1) = false) := HF.out (by rw [HH.out, HNm.out]; simp)
          go_wp2_with fail
          refine (HN _).mono ?_
          rintro r w1 ⟨rfl, hb1⟩
          have hB1 := hb.trans (hb1.mono hb.size)
          go_wp2_with fail
          go_ret
          exact ⟨by rw [HR.out]; rfl, hB1⟩
        · go_wp2_with fail
          refine (HN _).mono ?_
          rintro r w1 ⟨rfl, hb1⟩
          have hB1 := hb.trans (hb1.mono hb.size)
          have hFr := Fo.from_grow hB1 F b o hF
          obtain ⟨⟨_, g2, g3, g4, g5⟩, _, _, _, _⟩ := Fo.from_at hFr hjn
          clear h1 h2 h3 h4 h5 HN hb1 hb
          by_cases q3 : F.manAt j = 0 ∧ F.expAt j = 0
          · rw [q3.1] at g3
            rw [q3.2] at g4
            by_cases q4 : (F.kidsAt j).len = 0
            · rw [q4] at g5
              go_wp2_with fail
              go_loopw [4] (fun i wr => ∃ q : Nat, i = .int .i64 q ∧ F.newAt j q = true ∧ q ≤ j ∧ Below w.heap.size w wr) (fun i _ => j - (intOf i).toNat)
              case atStart => exact ⟨0, rfl, rfl, Nat.zero_le _, hB1⟩
              case round =>
                obtain ⟨q, rfl, hq, hqj, hb2⟩ := hrel
                have HQ : Hid (F.newAt j q = true) := hq
                clear hq
                by_cases hq2 : q < j
                · have hq2' : (q : Int) < (j : Int) := by omega
                  have hqn : q < F.len := by omega
                  have hqn' : (q : Int) < (F.len : Int) := by omega
                  have hFr2 := Fo.from_grow hb2 F b o hF
                  obtain ⟨⟨_, u2, _⟩, _⟩ := Fo.from_at hFr2 hjn
                  obtain ⟨⟨_, v2, _⟩, _⟩ := Fo.from_at hFr2 hqn
                  cases htt : ((F.textAt q).toList == (F.textAt j).toList)
                  · have HS : Hid (F.newAt j (q + 1) = true) := by unfold Hid; show (F.newAt j q && !((F.textAt j).toList == (F.textAt q).toList)) = true; rw [HQ.out, BEq.comm, htt]; rfl
                    clear hFr2 HQ g2 g3 g4 g5 hFr
                    go_wp2_with fail
                    go_region
                    all_goals
                      go_wp2_with fail
                      go_round
                      case rel => exact ⟨q + 1, by go_num, HS.out, by omega, hb2.drew⟩
                      case measure => simp [intOf]; omega
                  · have HS : Hid (F.nmOk (F.len - 1) = false) := HF.out (by rw [Fo.newAt_false (by rw [BEq.comm]; exact htt) hq2]; simp)
                    clear hFr2 HQ g2 g3 g4 g5 hFr
                    go_wp2_with fail
                    go_region
                    all_goals
                      go_wp2_with fail
                      go_ret
                      exact ⟨by rw [HS.out]; rfl, hb2.drew⟩
                · have e : q = j := by omega
                  subst e
                  have HS : Hid (F.nmOk (q + 1) = true) := by unfold Hid; show (F.nmOk q && (F.nameHead q && F.newAt q q)) = true; rw [HD.out, HQ.out, HH.out, HNm.out, q1, q3.1, q3.2, q4]; rfl
                  clear HQ HD g2 g3 g4 g5 hFr
                  go_wp2_with fail
                  go_round
                  case rel => exact ⟨q + 1, by go_num, HS.out, by omega, hb2⟩
                  case measure => simp [intOf]; omega
            · have q4' : (((F.kidsAt j).len : Int) != 0) = true := by simp; omega
              have HR : Hid (F.nmOk (F.len - 1) = false) := HF.out (by rw [HH.out]; simp [q4])
              go_wp2_with fail
              go_ret
              exact ⟨by rw [HR.out]; rfl, hB1⟩
          · have HR : Hid (F.nmOk (F.len - 1) = false) := HF.out (by rw [HH.out]; by_cases z : F.manAt j = 0 <;> simp_all)
            by_cases z : F.manAt j = 0
            · have z2 : ¬ F.expAt j = 0 := fun h => q3 ⟨z, h⟩
              have z2' : (F.expAt j == 0) = false := by simp [z2]
              rw [z] at g3
              go_wp2_with fail
              all_goals
                go_ret
                exact ⟨by rw [HR.out]; rfl, hB1⟩
            · have z' : (F.manAt j == 0) = false := by simp [z]
              go_wp2_with fail
              all_goals
                go_ret
                exact ⟨by rw [HR.out]; rfl, hB1⟩
      · have q1' : (F.kindAt j != 6) = true := by simp [q1]
        have HR : Hid (F.nmOk (F.len - 1) = false) := HF.out (by rw [HH.out]; simp [q1])
        go_wp2_with fail
        go_ret
        exact ⟨by rw [HR.out]; rfl, hb⟩
    · have hlt' : ¬ (j : Int) + 1 < (F.len : Int) := by omega
      have e : j = F.len - 1 := by omega
      have HR : Hid (F.nmOk (F.len - 1) = true) := by unfold Hid; rw [← e]; exact HD.out
      go_wp2_with fail
      go_ret
      exact ⟨by rw [HR.out]; rfl, hb⟩
end Go.Proofs.Ytbbbmmemfndnlaa
/- Contracts for trees that are ok, of the specification: the fields of an object, and a tree (they call each other). -/
namespace Go.Proofs.Ytbbbmmemfndnlaa
open Go.RowKit
/-- of the first n all from a place on are so -/
def allN (p : Nat → Bool) (fr : Nat) : Nat → Bool
  | 0 => true
  | n + 1 => allN p fr n && (decide (n < fr) || p n)
/-- the first n are so, no two with one text -/
def Fo.fldN (F : Fo) (q : Nat → Bool) : Nat → Bool
  | 0 => true
  | n + 1 => F.fldN q n && (q n && F.newAt n n)
theorem allN_false {p : Nat → Bool} {fr i n : Nat} (h : p i = false) (hf : fr ≤ i) (hi : i < n) : allN p fr n = false := by
  induction n with
  | zero => omega
  | succ n ih =>
    show (allN p fr n && (decide (n < fr) || p n)) = false
    rcases Nat.lt_succ_iff_lt_or_eq.1 hi with hi | rfl
    · rw [ih hi]; rfl
    · rw [h, decide_eq_false (by omega)]; simp
theorem Fo.fldN_false {F : Fo} {q : Nat → Bool} {i n : Nat} (h : (q i && F.newAt i i) = false) (hi : i < n) : F.fldN q n = false := by
  induction n with
  | zero => omega
  | succ n ih =>
    show (F.fldN q n && (q n && F.newAt n n)) = false
    rcases Nat.lt_succ_iff_lt_or_eq.1 hi with hi | rfl
    · rw [ih hi]; rfl
    · rw [h]; simp
/-- what a tree asks of what is below, by its kind -/
def kidsOf (k : Int) (F : Fo) (p q : Nat → Bool) : Bool := if k = 22 then F.fldN q F.len else if k = 16 then F.nmOk (F.len - 1) && allN p (F.len - 1) F.len else allN p 0 F.len
/-- a tree is one of an expression, by the specification, if what is below is told -/
def oneOf (k : Int) (t : ByteArray) (m e : Int) (F : Fo) (p q : Nat → Bool) : Bool :=
  ((decide (1 ≤ k) && decide (k ≤ 24)) && (!decide (k = 23) && ((decide ((Om.low k : Int) ≤ (F.len : Int)) && decide ((F.len : Int) ≤ (Om.high k : Int))) && sText k t F.len))) &&
    (if k = 4 then Dm.ok m e && decide (0 ≤ m) else (decide (m = 0) && decide (e = 0)) && kidsOf k F p q)
/-- at each place: it is a tree; it is a field -/
def Fo.okp : Fo → Nat → Bool × Bool
  | .nil, _ => (false, false)
  | .cons k t m e _ _ kids _, 0 => (oneOf k t m e kids (fun i => (kids.okp i).1) (fun i => (kids.okp i).2), sField k t m e kids.len && (kids.okp 0).1)
  | .cons _ _ _ _ _ _ _ next, i + 1 => next.okp i
def okOne (k : Int) (t : ByteArray) (m e : Int) (F : Fo) : Bool := oneOf k t m e F (fun i => (F.okp i).1) (fun i => (F.okp i).2)
theorem Fo.okp1 : ∀ {F : Fo} {i : Nat}, i < F.len → (F.okp i).1 = okOne (F.kindAt i) (F.textAt i) (F.manAt i) (F.expAt i) (F.kidsAt i) := by
  intro F
  induction F with
  | nil => intro i h; exact absurd h (Nat.not_lt_zero _)
  | cons k t m e a c kids next _ ih =>
    intro i hi
    cases i with
    | zero => rfl
    | succ i => exact ih (show i < next.len from Nat.lt_of_succ_lt_succ hi)
theorem Fo.okp2 : ∀ {F : Fo} {i : Nat}, i < F.len → (F.okp i).2 = (sField (F.kindAt i) (F.textAt i) (F.manAt i) (F.expAt i) (F.kidsAt i).len && ((F.kidsAt i).okp 0).1) := by
  intro F
  induction F with
  | nil => intro i h; exact absurd h (Nat.not_lt_zero _)
  | cons k t m e a c kids next _ ih =>
    intro i hi
    cases i with
    | zero => rfl
    | succ i => exact ih (show i < next.len from Nat.lt_of_succ_lt_succ hi)
/-- what l3Ok says of all trees with less than so many below -/
abbrev OkBelow (N : Nat) : Prop := ∀ (k : Int) (t : ByteArray) (m e : Int) (a : Option Addr) (c : Nat) (F : Fo) (w : World), F.size < N → F.In w a → F.len ≤ c → c ≤ maxLen → t.size ≤ maxLen →
      Calls Try.prog 50 #[nodeV k t m e a F.len c] w fun r w' => r = .returned (.bool (okOne k t m e F)) ∧ Below w.heap.size w w'
abbrev FieldsBelow (N : Nat) : Prop := ∀ (a : Option Addr) (c : Nat) (F : Fo) (w : World), F.size ≤ N → F.In w a → F.len ≤ c → c ≤ maxLen →
      Calls Try.prog 75 #[.slice a F.len c] w fun r w' => r = .returned (.bool (F.fldN (fun i => (F.okp i).2) F.len)) ∧ Below w.heap.size w w'
theorem Fo.from_of_len {F : Fo} {w : World} {a : Option Addr} (hin : F.In w a) {i : Nat} (hi : i < F.len) : ∃ b o, a = some ⟨b, o, none⟩ ∧ F.From w b o := by
  rcases hin with rfl | h
  · exact absurd hi (Nat.not_lt_zero _)
  · exact h
set_option maxRecDepth 100000 in
set_option maxHeartbeats 3000000 in
theorem l3Fields_step (N : Nat) (H : OkBelow N) : FieldsBelow N := by
  intro a c F w hN hin hl hm
  unfold maxLen at hm
  have hcl : F.len ≤ 9223372036854775807 := by omega
  go_enter Try.func75, Try.ntmps75
  go_wp2_with fail
  go_loopw [3] (fun i wr => ∃ j : Nat, i = .int .i64 j ∧ F.fldN (fun i => (F.okp i).2) j = true ∧ j ≤ F.len ∧ Below w.heap.size w wr) (fun i _ => F.len - (intOf i).toNat)
  case atStart => exact ⟨0, rfl, rfl, Nat.zero_le _, Below.refl _ _⟩
  case round =>
    obtain ⟨j, rfl, hd, hj, hb⟩ := hrel
    have HD : Hid (F.fldN (fun i => (F.okp i).2) j = true) := hd
    clear hd
    by_cases hjn : j < F.len
    · have hjl : (j : Int) < (F.len : Int) := by omega
      obtain ⟨b, o, rfl, hF⟩ := Fo.from_of_len hin hjn
      clear hin
      obtain ⟨⟨h1, h2, h3, h4, h5⟩, hk, hkc, hcm, ht⟩ := Fo.from_at (Fo.from_grow hb F b o hF) hjn
      have HF : Hid (((F.okp j).2 && F.newAt j j) = false → F.fldN (fun i => (F.okp i).2) F.len = false) := fun h => Fo.fldN_false (q := fun i => (F.okp i).2) h hjn
      have HP : Hid ((F.okp j).2 = (sField (F.kindAt j) (F.textAt j) (F.manAt j) (F.expAt j) (F.kidsAt j).len && ((F.kidsAt j).okp 0).1)) := Fo.okp2 hjn
      have hsz := Fo.size_at hjn
      have HS := fun W => l3Field_any (F.kindAt j) (F.textAt j) (F.manAt j) (F.expAt j) (F.addrAt j) (F.kidsAt j).len (F.capAt j) W ht
      have H1 : Hid (sField (F.kindAt j) (F.textAt j) (F.manAt j) (F.expAt j) (F.kidsAt j).len = true → (F.kidsAt j).len = 1) := by
        unfold Hid sField; intro h; simp only [Bool.and_eq_true, decide_eq_true_eq] at h; exact h.2.2.1
      go_wp2_with fail
      refine (HS _).mono ?_
      rintro r w1 ⟨rfl, hb1⟩
      have hB1 := hb.trans (hb1.mono hb.size)
      clear hb1 hb h1 h2 h3 h4 h5 HS
      generalize hsf : sField (F.kindAt j) (F.textAt j) (F.manAt j) (F.expAt j) (F.kidsAt j).len = sf at HP H1
      cases sf
      · have HR : Hid (F.fldN (fun i => (F.okp i).2) F.len = false) := HF.out (by rw [HP.out]; rfl)
        go_wp2_with fail
        go_ret
        exact ⟨by rw [HR.out]; rfl, hB1⟩
      · have hk1 := H1.out rfl
        clear hsf H1
        obtain ⟨⟨_, _, _, _, g5⟩, hkk, _, _, _⟩ := Fo.from_at (Fo.from_grow hB1 F b o hF) hjn
        rw [hk1] at g5
        have h01 : 0 < (F.kidsAt j).len := by omega
        obtain ⟨b', o', ha, hG⟩ := Fo.from_of_len hkk h01
        rw [ha] at g5
        have hsz2 := Fo.size_at h01
        have HO : Hid (((F.kidsAt j).okp 0).1 = okOne ((F.kidsAt j).kindAt 0) ((F.kidsAt j).textAt 0) ((F.kidsAt j).manAt 0) ((F.kidsAt j).expAt 0) ((F.kidsAt j).kidsAt 0)) := Fo.okp1 h01
        obtain ⟨⟨u1, u2, u3, u4, u5⟩, uk, ukc, ucm, ut⟩ := Fo.from_at hG h01
        rw [Nat.zero_mul, Nat.add_zero] at u1 u2 u3 u4 u5
        have HC := fun W hW => H ((F.kidsAt j).kindAt 0) ((F.kidsAt j).textAt 0) ((F.kidsAt j).manAt 0) ((F.kidsAt j).expAt 0) ((F.kidsAt j).addrAt 0) ((F.kidsAt j).capAt 0) ((F.kidsAt j).kidsAt 0) W (by omega) hW ukc ucm ut
        rw [← HO.out] at HC
        clear HO hk hkk hsz hsz2 hG ha H
        go_wp2_with fail
        refine (HC _ uk).mono ?_
        rintro r w2 ⟨rfl, hb2⟩
        have hB2 := hB1.trans (hb2.mono hB1.size)
        clear hb2 hB1 u1 u2 u3 u4 u5 uk HC g5
        generalize hok : ((F.kidsAt j).okp 0).1 = ok at HP
        cases ok
        · have HR : Hid (F.fldN (fun i => (F.okp i).2) F.len = false) := HF.out (by rw [HP.out]; rfl)
          go_wp2_with fail
          go_ret
          exact ⟨by rw [HR.out]; rfl, hB2⟩
        · clear hok
          go_wp2_with fail
          go_loopw [4] (fun i wr => ∃ q : Nat, i = .int .i64 q ∧ F.newAt j q = true ∧ q ≤ j ∧ Below w.heap.size w wr) (fun i _ => j - (intOf i).toNat)
          case atStart => exact ⟨0, rfl, rfl, Nat.zero_le _, hB2⟩
          case round =>
            obtain ⟨q, rfl, hq, hqj, hb2⟩ := hrel
            have HQ : Hid (F.newAt j q = true) := hq
            clear hq
            by_cases hq2 : q < j
            · have hq2' : (q : Int) < (j : Int) := by omega
              have hqn : q < F.len := by omega
              have hqn' : (q : Int) < (F.len : Int) := by omega
              have hFr2 := Fo.from_grow hb2 F b o hF
              obtain ⟨⟨_, u2, _⟩, _⟩ := Fo.from_at hFr2 hjn
              obtain ⟨⟨_, v2, _⟩, _⟩ := Fo.from_at hFr2 hqn
              cases htt : ((F.textAt q).toList == (F.textAt j).toList)
              · have HS : Hid (F.newAt j (q + 1) = true) := by unfold Hid; show (F.newAt j q && !((F.textAt j).toList == (F.textAt q).toList)) = true; rw [HQ.out, BEq.comm, htt]; rfl
                clear hFr2 HQ
                go_wp2_with fail
                go_region
                all_goals
                  go_wp2_with fail
                  go_round
                  case rel => exact ⟨q + 1, by go_num, HS.out, by omega, hb2.drew⟩
                  case measure => simp [intOf]; omega
              · have HS : Hid (F.fldN (fun i => (F.okp i).2) F.len = false) := HF.out (by rw [Fo.newAt_false (by rw [BEq.comm]; exact htt) hq2]; simp)
                clear hFr2 HQ
                go_wp2_with fail
                go_region
                all_goals
                  go_wp2_with fail
                  go_ret
                  exact ⟨by rw [HS.out]; rfl, hb2.drew⟩
            · have e : q = j := by omega
              subst e
              have HS : Hid (F.fldN (fun i => (F.okp i).2) (q + 1) = true) := by unfold Hid; show (F.fldN (fun i => (F.okp i).2) q && ((F.okp q).2 && F.newAt q q)) = true; rw [HD.out, HQ.out, HP.out]; rfl
              clear HQ HD
              go_wp2_with fail
              go_round
              case rel => exact ⟨q + 1, by go_num, HS.out, by omega, hb2⟩
              case measure => simp [intOf]; omega
    · have hjl : ¬ (j : Int) < (F.len : Int) := by omega
      have e : j = F.len := by omega
      have HR : Hid (F.fldN (fun i => (F.okp i).2) F.len = true) := by unfold Hid; rw [← e]; exact HD.out
      go_wp2_with fail
      go_ret
      exact ⟨by rw [HR.out]; rfl, hb⟩
end Go.Proofs.Ytbbbmmemfndnlaa
/- Contracts for trees that are ok, of the specification: a tree. -/
namespace Go.Proofs.Ytbbbmmemfndnlaa
open Go.RowKit
/-- what is asked of a tree ahead of its number and of what is below -/
def headOf (k : Int) (t : ByteArray) (n : Nat) : Bool := (decide (1 ≤ k) && decide (k ≤ 24)) && (!decide (k = 23) && ((decide ((Om.low k : Int) ≤ (n : Int)) && decide ((n : Int) ≤ (Om.high k : Int))) && sText k t n))
theorem okOne_not {k : Int} {t : ByteArray} {m e : Int} {F : Fo} (h : headOf k t F.len = false) : okOne k t m e F = false := by
  show (headOf k t F.len && _) = false
  rw [h]; rfl
theorem okOne_head {k : Int} {t : ByteArray} {m e : Int} {F : Fo} (h : headOf k t F.len = true) : okOne k t m e F = (if k = 4 then Dm.ok m e && decide (0 ≤ m) else (decide (m = 0) && decide (e = 0)) && kidsOf k F (fun i => (F.okp i).1) (fun i => (F.okp i).2)) := by
  show (headOf k t F.len && _) = _
  rw [h]; rfl
theorem allN_none (p : Nat → Bool) (fr : Nat) : ∀ n, n ≤ fr → allN p fr n = true := by
  intro n
  induction n with
  | zero => intro _; rfl
  | succ n ih => intro h; show (allN p fr n && (decide (n < fr) || p n)) = true; rw [ih (by omega), decide_eq_true (show n < fr by omega)]; rfl
set_option maxRecDepth 100000 in
set_option maxHeartbeats 3000000 in
theorem l3Ok_step (N : Nat) (H : OkBelow N) (HFs : FieldsBelow N) :
    ∀ (k : Int) (t : ByteArray) (m e : Int) (a : Option Addr) (c : Nat) (F : Fo) (w : World), F.size ≤ N → F.In w a → F.len ≤ c → c ≤ maxLen → t.size ≤ maxLen →
      Calls Try.prog 50 #[nodeV k t m e a F.len c] w fun r w' => r = .returned (.bool (okOne k t m e F)) ∧ Below w.heap.size w w' := by
  intro k t m e a c F w hN hin hl hm ht
  have hmm := hm
  unfold maxLen at hmm
  have hB0 := (Below.refl _ w).alloc (Nat.le_refl _) (.cells #[.int .i64 k, .string t, .int .i64 m, .int .i64 e, .slice a F.len c] 33)
  have a0 : (w.alloc (.cells #[.int .i64 k, .string t, .int .i64 m, .int .i64 e, .slice a F.len c] 33)).cell? ⟨w.heap.size, 0, none⟩ = some (.int .i64 k) := by simp
  have a2 : (w.alloc (.cells #[.int .i64 k, .string t, .int .i64 m, .int .i64 e, .slice a F.len c] 33)).cell? ⟨w.heap.size, 2, none⟩ = some (.int .i64 m) := by simp
  have a3 : (w.alloc (.cells #[.int .i64 k, .string t, .int .i64 m, .int .i64 e, .slice a F.len c] 33)).cell? ⟨w.heap.size, 3, none⟩ = some (.int .i64 e) := by simp
  have a4 := box4 w k t m e (.slice a F.len c) 33
  have hlo : Om.low k ≤ 3 := by unfold Om.low; (repeat' split) <;> omega
  have hhi : Om.high k ≤ 8 := by unfold Om.high; (repeat' split) <;> omega
  have HH : Hid (headOf k t F.len = ((decide (1 ≤ k) && decide (k ≤ 24)) && (!decide (k = 23) && ((decide ((Om.low k : Int) ≤ (F.len : Int)) && decide ((F.len : Int) ≤ (Om.high k : Int))) && sText k t F.len)))) := rfl
  have HL : Hid (1 ≤ Om.low 16) := by unfold Hid; decide
  have HLk : Hid (k = 16 → 1 ≤ Om.low k) := by rintro rfl; exact HL.out
  clear HL
  have HC := l3Count_any k
  have HT := fun W => l3Text_any k t m e a F.len c W ht
  generalize Om.low k = lo at *
  generalize Om.high k = hi at *
  generalize sText k t F.len = tx at *
  go_enter Try.func50, Try.ntmps50
  go_wp2_with fail
  refine (HC _).mono ?_
  rintro r w0 ⟨rfl, rfl⟩
  go_wp2_with fail
  refine (l1In_any k 1 24 _).mono ?_
  rintro r w0 ⟨rfl, rfl⟩
  by_cases h1 : 1 ≤ k ∧ k ≤ 24
  · have g1 : (decide (1 ≤ k) && decide (k ≤ 24)) = true := by simp [h1.1, h1.2]
    rw [g1]
    by_cases h23 : k = 23
    · subst h23
      have HR : Hid (okOne 23 t m e F = false) := okOne_not (by rw [HH.out]; simp)
      go_wp2_with fail
      go_ret
      exact ⟨by rw [HR.out]; rfl, hB0⟩
    have g23 : (k == 23) = false := by simp [h23]
    go_wp2_with fail
    refine (l1In_any F.len lo hi _).mono ?_
    rintro r w0 ⟨rfl, rfl⟩
    by_cases h2 : (lo : Int) ≤ (F.len : Int) ∧ (F.len : Int) ≤ (hi : Int)
    · have g2 : (decide ((lo : Int) ≤ (F.len : Int)) && decide ((F.len : Int) ≤ (hi : Int))) = true := by simp; omega
      rw [g2]
      go_wp2_with fail
      refine (HT _).mono ?_
      rintro r w1 ⟨rfl, hb1⟩
      have hB1 := hB0.trans (hb1.mono hB0.size)
      have c0 := (hb1.cell (p := ⟨w.heap.size, 0, none⟩) (by simp)).trans a0
      have c2 := (hb1.cell (p := ⟨w.heap.size, 2, none⟩) (by simp)).trans a2
      have c3 := (hb1.cell (p := ⟨w.heap.size, 3, none⟩) (by simp)).trans a3
      have c4 := (hb1.cell (p := ⟨w.heap.size, 4, none⟩) (by simp)).trans a4
      clear a0 a2 a3 a4 hb1 hB0 HT HC
      cases tx
      · have HR : Hid (okOne k t m e F = false) := okOne_not (by rw [HH.out]; simp)
        go_wp2_with fail
        go_ret
        exact ⟨by rw [HR.out]; rfl, hB1⟩
      have HE : Hid (okOne k t m e F = (if k = 4 then Dm.ok m e && decide (0 ≤ m) else (decide (m = 0) && decide (e = 0)) && kidsOf k F (fun i => (F.okp i).1) (fun i => (F.okp i).2))) := okOne_head (by rw [HH.out, g1, g2]; simp [h23])
      clear HH
      by_cases h4 : k = 4
      · subst h4
        have HE' : Hid (okOne 4 t m e F = (Dm.ok m e && decide (0 ≤ m))) := HE.out
        clear HE
        have HQ := fun W => sDecOk_any m e W
        generalize hdk : Dm.ok m e = dk at HE' HQ
        clear hdk
        go_wp2_with fail
        refine (HQ _).mono ?_
        rintro r w2 ⟨rfl, hb2⟩
        have hB2 := hB1.trans (hb2.mono hB1.size)
        have d2 := (hb2.cell (p := ⟨w.heap.size, 2, none⟩) (World.block_lt_of_cell? _ _ c2)).trans c2
        clear c0 c2 c3 c4 hb2
        cases dk
        · go_wp2_with fail
          go_ret
          exact ⟨lret_bool (by rw [HE'.out]; rfl), hB2⟩
        · go_wp2_with fail
          go_ret
          exact ⟨lret_bool (by rw [HE'.out]; first | rfl | simp), hB2⟩
      have g4 : (k == 4) = false := by simp [h4]
      by_cases hz : m = 0 ∧ e = 0
      · obtain ⟨rfl, rfl⟩ := hz
        have HE' : Hid (okOne k t 0 0 F = kidsOf k F (fun i => (F.okp i).1) (fun i => (F.okp i).2)) := by unfold Hid; rw [HE.out, if_neg h4]; rfl
        clear HE
        by_cases h22 : k = 22
        · subst h22
          have HE : Hid (okOne 22 t 0 0 F = F.fldN (fun i => (F.okp i).2) F.len) := HE'.out
          have HG := HFs a c F
          rw [← HE.out] at HG
          go_wp2_with fail
          refine (HG _ hN (hin.grow hB1) hl hm).mono ?_
          rintro r w2 ⟨rfl, hb2⟩
          have hB2 := hB1.trans (hb2.mono hB1.size)
          go_wp2_with fail
          go_ret
          exact ⟨rfl, hB2⟩
        have g22 : (k == 22) = false := by simp [h22]
        by_cases h16 : k = 16
        · subst h16
          have HE : Hid (okOne 16 t 0 0 F = (F.nmOk (F.len - 1) && allN (fun i => (F.okp i).1) (F.len - 1) F.len)) := HE'.out
          clear HE'
          have hl1 : 1 ≤ F.len := by have := HLk.out rfl; omega
          have HG := fun W hW => l3Names_any F a c W hW hl hm
          go_wp2_with fail
          refine (HG _ (hin.grow hB1)).mono ?_
          rintro r w2 ⟨rfl, hb2⟩
          have hB2 := hB1.trans (hb2.mono hB1.size)
          have d4 := (hb2.cell (p := ⟨w.heap.size, 4, none⟩) (World.block_lt_of_cell? _ _ c4)).trans c4
          clear c0 c2 c3 c4 hb2 HG
          generalize hnm : F.nmOk (F.len - 1) = nm at HE
          clear hnm
          cases nm
          · have HR : Hid (okOne 16 t 0 0 F = false) := HE.out
            go_wp2_with fail
            go_ret
            exact ⟨by rw [HR.out]; rfl, hB2⟩
          · obtain ⟨fr, hfr⟩ : ∃ fr : Nat, F.len - 1 = fr := ⟨_, rfl⟩
            have hfr' : (F.len : Int) - 1 = (fr : Int) := by omega
            rw [hfr] at HE
            have hA : allN (fun i => (F.okp i).1) fr fr = true := allN_none _ _ _ (Nat.le_refl _)
            have HA : Hid (allN (fun i => (F.okp i).1) fr fr = true) := hA
            clear hA
            go_wp2_with fail
            go_loopw [6] (fun i wr => ∃ j : Nat, i = .int .i64 j ∧ allN (fun i => (F.okp i).1) fr j = true ∧ fr ≤ j ∧ j ≤ F.len ∧ wr.cell? ⟨w.heap.size, 4, none⟩ = some (.slice a F.len c) ∧ Below w.heap.size w wr) (fun i _ => F.len - (intOf i).toNat)
            case atStart => exact ⟨fr, by go_num, HA.out, Nat.le_refl _, by omega, d4, hB2⟩
            case round =>
              obtain ⟨j, rfl, hd, hfj, hj, hc4, hb⟩ := hrel
              have HD : Hid (allN (fun i => (F.okp i).1) fr j = true) := hd
              clear hd
              by_cases hjn : j < F.len
              · have hjl : (j : Int) < (F.len : Int) := by omega
                obtain ⟨b, o, rfl, hF⟩ := Fo.from_of_len hin hjn
                obtain ⟨⟨u1, u2, u3, u4, u5⟩, uk, ukc, ucm, ut⟩ := Fo.from_at (Fo.from_grow hb F b o hF) hjn
                have hsz := Fo.size_at hjn
                have HP : Hid ((F.okp j).1 = okOne (F.kindAt j) (F.textAt j) (F.manAt j) (F.expAt j) (F.kidsAt j)) := Fo.okp1 hjn
                have HC := fun W hW => H (F.kindAt j) (F.textAt j) (F.manAt j) (F.expAt j) (F.addrAt j) (F.capAt j) (F.kidsAt j) W (by omega) hW ukc ucm ut
                rw [← HP.out] at HC
                clear HP H HFs hin hF
                go_wp2_with fail
                refine (HC _ uk).mono ?_
                rintro r w4 ⟨rfl, hb4⟩
                have hB4 := hb.trans (hb4.mono hb.size)
                have hc4' := (hb4.cell (p := ⟨w.heap.size, 4, none⟩) (World.block_lt_of_cell? _ _ hc4)).trans hc4
                clear hb4 hb hc4 u1 u2 u3 u4 u5 uk HC
                generalize hok : (F.okp j).1 = ok
                have HOK : Hid ((F.okp j).1 = ok) := hok
                clear hok
                cases ok
                · have HR : Hid (okOne 16 t 0 0 F = false) := by unfold Hid; rw [HE.out, allN_false (p := fun i => (F.okp i).1) HOK.out hfj hjn]; rfl
                  go_wp2_with fail
                  go_ret
                  exact ⟨by rw [HR.out]; rfl, hB4⟩
                · have HS : Hid (allN (fun i => (F.okp i).1) fr (j + 1) = true) := by unfold Hid; show (allN (fun i => (F.okp i).1) fr j && (decide (j < fr) || (F.okp j).1)) = true; rw [HD.out, HOK.out]; simp
                  clear HD HOK
                  go_wp2_with fail
                  go_round
                  case rel => exact ⟨j + 1, by go_num, HS.out, by omega, by omega, hc4', hB4⟩
                  case measure => simp [intOf]; omega
              · have hjl : ¬ (j : Int) < (F.len : Int) := by omega
                have e : j = F.len := by omega
                have HR : Hid (okOne 16 t 0 0 F = true) := by unfold Hid; rw [HE.out, ← e, HD.out]; rfl
                go_wp2_with fail
                go_ret
                exact ⟨by rw [HR.out]; rfl, hb⟩
        · have HE : Hid (okOne k t 0 0 F = allN (fun i => (F.okp i).1) 0 F.len) := by unfold Hid; rw [HE'.out]; unfold kidsOf; rw [if_neg h22, if_neg h16]
          clear HE'
          have g16 : (k == 16) = false := by simp [h16]
          go_wp2_with fail
          go_loopw [6] (fun i wr => ∃ j : Nat, i = .int .i64 j ∧ allN (fun i => (F.okp i).1) 0 j = true ∧ 0 ≤ j ∧ j ≤ F.len ∧ wr.cell? ⟨w.heap.size, 4, none⟩ = some (.slice a F.len c) ∧ Below w.heap.size w wr) (fun i _ => F.len - (intOf i).toNat)
          case atStart => exact ⟨0, rfl, rfl, Nat.le_refl _, by omega, c4, hB1⟩
          case round =>
            obtain ⟨j, rfl, hd, hfj, hj, hc4, hb⟩ := hrel
            have HD : Hid (allN (fun i => (F.okp i).1) 0 j = true) := hd
            clear hd
            by_cases hjn : j < F.len
            · have hjl : (j : Int) < (F.len : Int) := by omega
              obtain ⟨b, o, rfl, hF⟩ := Fo.from_of_len hin hjn
              obtain ⟨⟨u1, u2, u3, u4, u5⟩, uk, ukc, ucm, ut⟩ := Fo.from_at (Fo.from_grow hb F b o hF) hjn
              have hsz := Fo.size_at hjn
              have HP : Hid ((F.okp j).1 = okOne (F.kindAt j) (F.textAt j) (F.manAt j) (F.expAt j) (F.kidsAt j)) := Fo.okp1 hjn
              have HC := fun W hW => H (F.kindAt j) (F.textAt j) (F.manAt j) (F.expAt j) (F.addrAt j) (F.capAt j) (F.kidsAt j) W (by omega) hW ukc ucm ut
              rw [← HP.out] at HC
              clear HP H HFs hin hF
              go_wp2_with fail
              refine (HC _ uk).mono ?_
              rintro r w4 ⟨rfl, hb4⟩
              have hB4 := hb.trans (hb4.mono hb.size)
              have hc4' := (hb4.cell (p := ⟨w.heap.size, 4, none⟩) (World.block_lt_of_cell? _ _ hc4)).trans hc4
              clear hb4 hb hc4 u1 u2 u3 u4 u5 uk HC
              generalize hok : (F.okp j).1 = ok
              have HOK : Hid ((F.okp j).1 = ok) := hok
              clear hok
              cases ok
              · have HR : Hid (okOne k t 0 0 F = false) := by unfold Hid; rw [HE.out, allN_false (p := fun i => (F.okp i).1) HOK.out hfj hjn]
                go_wp2_with fail
                go_ret
                exact ⟨by rw [HR.out]; rfl, hB4⟩
              · have HS : Hid (allN (fun i => (F.okp i).1) 0 (j + 1) = true) := by unfold Hid; show (allN (fun i => (F.okp i).1) 0 j && (decide (j < 0) || (F.okp j).1)) = true; rw [HD.out, HOK.out]; simp
                clear HD HOK
                go_wp2_with fail
                go_round
                case rel => exact ⟨j + 1, by go_num, HS.out, by omega, by omega, hc4', hB4⟩
                case measure => simp [intOf]; omega
            · have hjl : ¬ (j : Int) < (F.len : Int) := by omega
              have e : j = F.len := by omega
              have HR : Hid (okOne k t 0 0 F = true) := by unfold Hid; rw [HE.out, ← e, HD.out]
              go_wp2_with fail
              go_ret
              exact ⟨by rw [HR.out]; rfl, hb⟩
      · have HR : Hid (okOne k t m e F = false) := by
          unfold Hid; rw [HE.out, if_neg h4]
          by_cases z : m = 0 <;> simp_all
        by_cases z : m = 0
        · have z2 : ¬ e = 0 := fun h => hz ⟨z, h⟩
          have z2' : (e == 0) = false := by simp [z2]
          subst z
          go_wp2_with fail
          all_goals
            go_ret
            exact ⟨by rw [HR.out]; rfl, hB1⟩
        · have z' : (m == 0) = false := by simp [z]
          go_wp2_with fail
          all_goals
            go_ret
            exact ⟨by rw [HR.out]; rfl, hB1⟩
    · have g2 : (decide ((lo : Int) ≤ (F.len : Int)) && decide ((F.len : Int) ≤ (hi : Int))) = false := by rw [← Bool.decide_and]; exact decide_eq_false h2
      have HR : Hid (okOne k t m e F = false) := okOne_not (by rw [HH.out, g2]; simp)
      rw [g2]
      go_wp2_with fail
      go_ret
      exact ⟨by rw [HR.out]; rfl, hB0⟩
  · have g1 : (decide (1 ≤ k) && decide (k ≤ 24)) = false := by rw [← Bool.decide_and]; exact decide_eq_false h1
    have HR : Hid (okOne k t m e F = false) := okOne_not (by rw [HH.out, g1]; simp)
    rw [g1]
    go_wp2_with fail
    go_ret
    exact ⟨by rw [HR.out]; rfl, hB0⟩
theorem l3Ok_all (N : Nat) : OkBelow N := by
  induction N with
  | zero => intro k t m e a c F w hF; omega
  | succ N ih => exact fun k t m e a c F w hF => l3Ok_step N ih (l3Fields_step N ih) k t m e a c F w (by omega)
end Go.Proofs.Ytbbbmmemfndnlaa
/- Contracts for trees that are ok: the signs between two; the table of kinds. -/
namespace Go.Proofs.Ytbbbmmemfndnlaa
open Go.RowKit
/-- the signs, with how much they bind -/
def binds : List (List UInt8 × Int) := [([124, 124], 1), ([38, 38], 2), ([61, 61], 3), ([33, 61], 3), ([60], 4), ([60, 61], 4), ([62], 4), ([62, 61], 4), ([43], 5), ([45], 5), ([42], 6), ([47], 6), ([37], 6)]
def bindsB : List (ByteArray × Int) := binds.map fun p => (⟨p.1.toArray⟩, p.2)
theorem binds_pos {s : ByteArray} : ∀ {L : List (List UInt8 × Int)}, (∀ p ∈ L, 0 < p.2) → decide (0 < seekV s (L.map fun p => (⟨p.1.toArray⟩, p.2))) = Qm.has (L.map (·.1)) s.toList := by
  intro L
  induction L with
  | nil => intro _; rfl
  | cons p t ih =>
    intro h
    show decide (0 < (if s == ⟨p.1.toArray⟩ then p.2 else seekV s (t.map fun p => (⟨p.1.toArray⟩, p.2)))) = ((s.toList == p.1) || Qm.has (t.map (·.1)) s.toList)
    rw [beq_list]
    have := ih (fun q hq => h q (List.mem_cons_of_mem _ hq))
    cases hs : (s.toList == p.1)
    · simpa using this
    · have := h p (by simp)
      simpa using this
theorem binds_has (s : ByteArray) : decide (0 < seekV s bindsB) = Qm.has Om.signs s.toList := by
  have := @binds_pos s binds (by decide)
  rw [show binds.map (·.1) = Om.signs from rfl] at this
  exact this
theorem zeroInt (w : World) : (zeroValue 3).run Try.prog w = .ok (.int .i64 0) w := by kernel_rfl

set_option maxHeartbeats 1000000 in
theorem has_any (b : Nat) (s : ByteArray) (w : World) (hb : IsMap w b bindsB) :
    Calls Try.prog 80 #[.map (some b), .string s] w fun e w' => e = .returned (.bool (Qm.has Om.signs s.toList)) ∧ w' = w := by
  have hrun := run_look (P := Try.prog) (s := s) Try.underlying93 Try.underlying9 (zeroInt w) hb
  have HB : Hid (decide (0 < seekV s bindsB) = Qm.has Om.signs s.toList) := binds_has s
  generalize seekV s bindsB = z at *
  go_enter Try.func80, Try.ntmps80
  go_wp2_with fail
  go_ret
  exact ⟨by rw [← HB.out]; rfl, rfl⟩

theorem ins_step {w : World} {b : Nat} {L : List (ByteArray × Int)} {s : ByteArray} {v : Int} (hb : IsMap w b L) (hf : seek s L 0 = none) :
    ∃ w', (Instr.mapUpdate 93 (.map (some b)) (.string s) (.int .i64 v)).run Try.prog w = .ok () w' ∧ IsMap w' b (L ++ [(s, v)]) ∧ w.grownBy w' (some b) := by
  have hlt := (Array.getElem?_eq_some_iff.1 hb).1
  refine ⟨_, run_insert_new Try.underlying93 Try.underlying9 hb hf, ?_, ⟨rfl, rfl, rfl, by simp, fun i _ hi => ?_⟩⟩
  · unfold IsMap
    simp [hlt]
  · have hne : b ≠ i := fun e => hi (by rw [e])
    simp [hne]
set_option maxRecDepth 100000 in
set_option maxHeartbeats 4000000 in
theorem signBindings_any (w : World) :
    Calls Try.prog 77 #[] w fun e w' => e = .returned (.map (some w.heap.size)) ∧ IsMap w' w.heap.size bindsB ∧ Below w.heap.size w w' := by
  have hmm := @run_makeMap Try.prog
  have hb0 : Below w.heap.size w (w.alloc (.map #[] 0)) := (Below.refl _ w).alloc (Nat.le_refl _) _
  have hm0 : IsMap (w.alloc (.map #[] 0)) w.heap.size [] := World.alloc_heap_new w _
  go_enter Try.func77, Try.ntmps77
  go_wp2_with fail
  obtain ⟨w1, hr, hm1, hg⟩ := ins_step (s := ⟨#[124, 124]⟩) (v := 1) hm0 (by decide +kernel)
  rw [hr]
  have hb1 := hb0.grown hg hb0.size (fun k e => by cases e; exact Nat.le_refl _)
  clear hr hg hm0 hb0
  go_wp2_with fail
  obtain ⟨w2, hr, hm2, hg⟩ := ins_step (s := ⟨#[38, 38]⟩) (v := 2) hm1 (by decide +kernel)
  rw [hr]
  have hb2 := hb1.grown hg hb1.size (fun k e => by cases e; exact Nat.le_refl _)
  clear hr hg hm1 hb1
  go_wp2_with fail
  obtain ⟨w3, hr, hm3, hg⟩ := ins_step (s := ⟨#[61, 61]⟩) (v := 3) hm2 (by decide +kernel)
  rw [hr]
  have hb3 := hb2.grown hg hb2.size (fun k e => by cases e; exact Nat.le_refl _)
  clear hr hg hm2 hb2
  go_wp2_with fail
  obtain ⟨w4, hr, hm4, hg⟩ := ins_step (s := ⟨#[33, 61]⟩) (v := 3) hm3 (by decide +kernel)
  rw [hr]
  have hb4 := hb3.grown hg hb3.size (fun k e => by cases e; exact Nat.le_refl _)
  clear hr hg hm3 hb3
  go_wp2_with fail
  obtain ⟨w5, hr, hm5, hg⟩ := ins_step (s := ⟨#[60]⟩) (v := 4) hm4 (by decide +kernel)
  rw [hr]
  have hb5 := hb4.grown hg hb4.size (fun k e => by cases e; exact Nat.le_refl _)
  clear hr hg hm4 hb4
  go_wp2_with fail
  obtain ⟨w6, hr, hm6, hg⟩ := ins_step (s := ⟨#[60, 61]⟩) (v := 4) hm5 (by decide +kernel)
  rw [hr]
  have hb6 := hb5.grown hg hb5.size (fun k e => by cases e; exact Nat.le_refl _)
  clear hr hg hm5 hb5
  go_wp2_with fail
  obtain ⟨w7, hr, hm7, hg⟩ := ins_step (s := ⟨#[62]⟩) (v := 4) hm6 (by decide +kernel)
  rw [hr]
  have hb7 := hb6.grown hg hb6.size (fun k e => by cases e; exact Nat.le_refl _)
  clear hr hg hm6 hb6
  go_wp2_with fail
  obtain ⟨w8, hr, hm8, hg⟩ := ins_step (s := ⟨#[62, 61]⟩) (v := 4) hm7 (by decide +kernel)
  rw [hr]
  have hb8 := hb7.grown hg hb7.size (fun k e => by cases e; exact Nat.le_refl _)
  clear hr hg hm7 hb7
  go_wp2_with fail
  obtain ⟨w9, hr, hm9, hg⟩ := ins_step (s := ⟨#[43]⟩) (v := 5) hm8 (by decide +kernel)
  rw [hr]
  have hb9 := hb8.grown hg hb8.size (fun k e => by cases e; exact Nat.le_refl _)
  clear hr hg hm8 hb8
  go_wp2_with fail
  obtain ⟨w10, hr, hm10, hg⟩ := ins_step (s := ⟨#[45]⟩) (v := 5) hm9 (by decide +kernel)
  rw [hr]
  have hb10 := hb9.grown hg hb9.size (fun k e => by cases e; exact Nat.le_refl _)
  clear hr hg hm9 hb9
  go_wp2_with fail
  obtain ⟨w11, hr, hm11, hg⟩ := ins_step (s := ⟨#[42]⟩) (v := 6) hm10 (by decide +kernel)
  rw [hr]
  have hb11 := hb10.grown hg hb10.size (fun k e => by cases e; exact Nat.le_refl _)
  clear hr hg hm10 hb10
  go_wp2_with fail
  obtain ⟨w12, hr, hm12, hg⟩ := ins_step (s := ⟨#[47]⟩) (v := 6) hm11 (by decide +kernel)
  rw [hr]
  have hb12 := hb11.grown hg hb11.size (fun k e => by cases e; exact Nat.le_refl _)
  clear hr hg hm11 hb11
  go_wp2_with fail
  obtain ⟨w13, hr, hm13, hg⟩ := ins_step (s := ⟨#[37]⟩) (v := 6) hm12 (by decide +kernel)
  rw [hr]
  have hb13 := hb12.grown hg hb12.size (fun k e => by cases e; exact Nat.le_refl _)
  clear hr hg hm12 hb12
  go_wp2_with fail
  go_ret
  exact ⟨rfl, hm13, hb13⟩
end Go.Proofs.Ytbbbmmemfndnlaa
