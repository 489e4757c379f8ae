/- Contracts for trees that are ok: the texts, the counts. -/
import Derived.Test.YtcnhlkkbfdchnaaOm
import Derived.Test.YtcnhlkkbfdchnaaLexC
import Derived.Test.YtcnhlkkbfdchnaaDecA
namespace Go.Proofs.Ytcnhlkkbfdchnaa
open Go.RowKit

theorem has_mem {L : List (List UInt8)} {l : List UInt8} (h : Qm.has L l = true) : l ∈ L := by
  induction L with
  | nil => cases h
  | cons x t ih =>
    simp only [Qm.has, Bool.or_eq_true, beq_iff_eq] at h
    rcases h with h | h
    · subst h; simp
    · exact List.mem_cons_of_mem _ (ih h)

set_option maxHeartbeats 1000000 in
theorem stdKids_any (s : ByteArray) (w : World) :
    Calls Try.prog 72 #[.string s] w fun e w' => e = .returned (.int .i64 (Om.std s.toList)) ∧ w' = w := by
  generalize hl : s.toList = l
  cases h1 : Qm.has Om.std1 l
  · cases h2 : Qm.has Om.std2 l
    · cases h3 : Qm.has Om.std3 l
      · have H : Hid (Om.std l = 0) := by unfold Hid Om.std; simp [h1, h2, h3]
        rw [H.out]
        simp only [Om.std1, Om.std2, Om.std3, Qm.has, Bool.or_eq_false_iff] at h1 h2 h3
        obtain ⟨a1, a2, a3, a4, a5, a6, _⟩ := h1
        obtain ⟨b1, b2, b3, b4, _⟩ := h2
        obtain ⟨c1, _⟩ := h3
        go_enter Try.func72, Try.ntmps72
        go_wp2_with fail
        go_ret
        exact ⟨rfl, rfl⟩
      · have H : Hid (Om.std l = 3) := by unfold Hid Om.std; simp [h1, h2, h3]
        rw [H.out]
        have hm := has_mem h3
        clear h1 h2 h3 H
        simp only [Om.std3, List.mem_cons, List.not_mem_nil, or_false] at hm
        subst hm
        go_enter Try.func72, Try.ntmps72
        go_wp2_with fail
        go_ret
        exact ⟨rfl, rfl⟩
    · have H : Hid (Om.std l = 2) := by unfold Hid Om.std; simp [h1, h2]
      rw [H.out]
      have hm := has_mem h2
      clear h1 h2 H
      simp only [Om.std2, List.mem_cons, List.not_mem_nil, or_false] at hm
      rcases hm with h | h | h | h
      all_goals
        subst h
        go_enter Try.func72, Try.ntmps72
        go_wp2_with fail
        go_ret
        exact ⟨rfl, rfl⟩
  · have H : Hid (Om.std l = 1) := by unfold Hid Om.std; simp [h1]
    rw [H.out]
    have hm := has_mem h1
    clear h1 H
    simp only [Om.std1, List.mem_cons, List.not_mem_nil, or_false] at hm
    rcases hm with h | h | h | h | h | h
    all_goals
      subst h
      go_enter Try.func72, Try.ntmps72
      go_wp2_with fail
      go_ret
      exact ⟨rfl, rfl⟩
/-- how many a function is given, or -1 -/
def stdOr (l : List UInt8) : Int := if Om.std l = 0 then -1 else (Om.std l : Int)
set_option maxHeartbeats 1000000 in
theorem l3Std_any (s : ByteArray) (w : World) :
    Calls Try.prog 66 #[.string s] w fun e w' => e = .returned (.int .i64 (stdOr s.toList)) ∧ w' = w := by
  generalize hl : s.toList = l
  cases h1 : Qm.has Om.std1 l
  · cases h2 : Qm.has Om.std2 l
    · cases h3 : Qm.has Om.std3 l
      · have H : Hid (stdOr l = -1) := by unfold Hid stdOr Om.std; simp [h1, h2, h3]
        rw [H.out]
        simp only [Om.std1, Om.std2, Om.std3, Qm.has, Bool.or_eq_false_iff] at h1 h2 h3
        obtain ⟨a1, a2, a3, a4, a5, a6, _⟩ := h1
        obtain ⟨b1, b2, b3, b4, _⟩ := h2
        obtain ⟨c1, _⟩ := h3
        go_enter Try.func66, Try.ntmps66
        go_wp2_with fail
        go_ret
        exact ⟨rfl, rfl⟩
      · have H : Hid (stdOr l = 3) := by unfold Hid stdOr Om.std; simp [h1, h2, h3]
        rw [H.out]
        have hm := has_mem h3
        clear h1 h2 h3 H
        simp only [Om.std3, List.mem_cons, List.not_mem_nil, or_false] at hm
        subst hm
        go_enter Try.func66, Try.ntmps66
        go_wp2_with fail
        go_ret
        exact ⟨rfl, rfl⟩
    · have H : Hid (stdOr l = 2) := by unfold Hid stdOr Om.std; simp [h1, h2]
      rw [H.out]
      have hm := has_mem h2
      clear h1 h2 H
      simp only [Om.std2, List.mem_cons, List.not_mem_nil, or_false] at hm
      rcases hm with h | h | h | h
      all_goals
        subst h
        go_enter Try.func66, Try.ntmps66
        go_wp2_with fail
        go_ret
        exact ⟨rfl, rfl⟩
  · have H : Hid (stdOr l = 1) := by unfold Hid stdOr Om.std; simp [h1]
    rw [H.out]
    have hm := has_mem h1
    clear h1 H
    simp only [Om.std1, List.mem_cons, List.not_mem_nil, or_false] at hm
    rcases hm with h | h | h | h | h | h
    all_goals
      subst h
      go_enter Try.func66, Try.ntmps66
      go_wp2_with fail
      go_ret
      exact ⟨rfl, rfl⟩

set_option maxHeartbeats 400000 in
theorem isStd_any (s : ByteArray) (w : World) :
    Calls Try.prog 46 #[.string s] w fun e w' => e = .returned (.bool (decide (0 < Om.std s.toList))) ∧ w' = w := by
  have hle := Om.std_le s.toList
  go_enter Try.func46, Try.ntmps46
  go_wp2_with (go_at_call 72; refine (stdKids_any _ _).mono ?_; rintro e w' ⟨rfl, rfl⟩)
  go_ret
  exact ⟨lret_bool (by first | rfl | (rw [Bool.eq_iff_iff]; simp)), rfl⟩
set_option maxHeartbeats 400000 in
theorem noText_any (s : ByteArray) (w : World) :
    Calls Try.prog 42 #[.string s] w fun e w' => e = .returned (.bool (s.toList == [])) ∧ w' = w := by
  go_enter Try.func42, Try.ntmps42
  go_wp2_with fail
  go_ret
  exact ⟨lret_bool (by first | rfl | (rw [Bool.eq_iff_iff]; simp)), rfl⟩
set_option maxHeartbeats 400000 in
theorem shortText_any (s : ByteArray) (w : World) (hs : s.size ≤ maxLen) :
    Calls Try.prog 43 #[.string s] w fun e w' => e = .returned (.bool (decide (s.size ≤ 1500))) ∧ w' = w := by
  unfold maxLen at hs
  go_enter Try.func43, Try.ntmps43
  go_wp2_with fail
  go_ret
  exact ⟨lret_bool (by rw [Bool.eq_iff_iff]; first | (simp; done) | (simp; omega)), rfl⟩

set_option maxHeartbeats 1000000 in
/-- how many of the first n of a list are of a kind -/
theorem countKind_any (F : Fo) (q : Int) (a : Option Addr) (n c : Nat) (w : World) (hin : F.In w a) (hn : n ≤ F.len) (hc : n ≤ c) (hm : c ≤ maxLen) :
    Calls Try.prog 76 #[.slice a n c, .int .i64 q] w fun e w' => e = .returned (.int .i64 (F.cnt q n)) ∧ Below w.heap.size w w' := by
  unfold maxLen at hm
  go_enter Try.func76, Try.ntmps76
  go_wp2_with fail
  go_loopw [5, 10] (fun s i wr => ∃ j : Nat, i = .int .i64 j ∧ s = .int .i64 (F.cnt q j) ∧ j ≤ n ∧ Below w.heap.size w wr) (fun _ i _ => n - (intOf i).toNat)
  case atStart => exact ⟨0, rfl, rfl, Nat.zero_le _, Below.refl _ _⟩
  case round =>
    obtain ⟨j, rfl, rfl, hj, hb⟩ := hrel
    have hcl := F.cnt_le q j
    by_cases hlt : j < n
    · have hlt' : (j : Int) < (n : Int) := by omega
      obtain ⟨b, o, rfl, hF⟩ : ∃ b o, a = some ⟨b, o, none⟩ ∧ F.From w b o := by
        rcases hin with rfl | h
        · exact absurd hn (by show ¬ n ≤ 0; omega)
        · exact h
      clear hin
      have hFr := Fo.from_at (Fo.from_grow hb F b o hF) (show j < F.len by omega)
      obtain ⟨⟨h1, h2, h3, h4, h5⟩, _, _, _, _⟩ := hFr
      by_cases hk : F.kindAt j = q
      · have HS : Hid (F.cnt q (j + 1) = F.cnt q j + 1) := by unfold Hid; show F.cnt q j + (if F.kindAt j = q then 1 else 0) = _; rw [if_pos hk]
        have hk' : (F.kindAt j == q) = true := by simp [hk]
        generalize F.cnt q j = cj at *
        generalize F.kindAt j = kj at *
        go_wp2_with fail
        go_round
        case rel => exact ⟨j + 1, by go_num, by rw [HS.out]; go_num, by omega, hb.alloc hb.size _⟩
        case measure => simp [intOf]; omega
      · have HS : Hid (F.cnt q (j + 1) = F.cnt q j) := by unfold Hid; show F.cnt q j + (if F.kindAt j = q then 1 else 0) = _; rw [if_neg hk]; rfl
        have hk' : (F.kindAt j == q) = false := by simp [hk]
        generalize F.cnt q j = cj at *
        generalize F.kindAt j = kj at *
        go_wp2_with fail
        go_round
        case rel => exact ⟨j + 1, by go_num, by rw [HS.out], by omega, hb.alloc hb.size _⟩
        case measure => simp [intOf]; omega
    · have e : j = n := by omega
      subst e
      have HE : ∃ cj, cj = F.cnt q j := ⟨_, rfl⟩
      obtain ⟨cj, hcj⟩ := HE
      rw [← hcj] at hcl ⊢
      have HC : Hid (F.cnt q j = cj) := hcj.symm
      clear hcj
      go_wp2_with fail
      go_ret
      exact ⟨by rw [HC.out]; rfl, hb⟩
end Go.Proofs.Ytcnhlkkbfdchnaa
