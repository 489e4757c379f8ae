/- Contracts for trees that are ok: what is right below a function, and others. -/
import Derived.Test.YtcnhlkkbfdchnaaOkC
import Derived.Deep.QuietTactic
import Derived.BigQuiet
namespace Go.Proofs.Ytcnhlkkbfdchnaa
open Go.RowKit

theorem box4 (w : World) (k : Int) (t : ByteArray) (m e : Int) (v : Value) (ty : TypeId) : (w.alloc (.cells #[.int .i64 k, .string t, .int .i64 m, .int .i64 e, v] ty)).cell? ⟨w.heap.size, 4, none⟩ = some v := by simp
theorem box1 (w : World) (k : Int) (t : ByteArray) (m e : Int) (v : Value) (ty : TypeId) : (w.alloc (.cells #[.int .i64 k, .string t, .int .i64 m, .int .i64 e, v] ty)).cell? ⟨w.heap.size, 1, none⟩ = some (.string t) := by simp

set_option maxRecDepth 100000 in
set_option maxHeartbeats 4000000 in
theorem kidsFit_func (t : ByteArray) (m e : Int) (a : Option Addr) (c : Nat) (F : Fo) (w : World) (hin : F.In w a) (hl : F.len ≤ c) (hc : c ≤ maxLen) (h1 : 1 ≤ F.len) :
    Calls Try.prog 49 #[nodeV 16 t m e a F.len c] w fun r w' => r = .returned (.bool (decide (F.cnt 6 (F.len - 1) = F.len - 1) && (F.dist (F.len - 1) && decide (F.cnt 23 F.len = 0)))) ∧ Below w.heap.size w w' := by
  obtain ⟨b, o, rfl, hF⟩ : ∃ b o, a = some ⟨b, o, none⟩ ∧ F.From w b o := by
    rcases hin with rfl | h
    · exact absurd h1 (by show ¬ 1 ≤ 0; omega)
    · exact h
  have hcc := hc
  unfold maxLen at hcc
  obtain ⟨n, hn⟩ : ∃ n, F.len = n + 1 := ⟨F.len - 1, by omega⟩
  have HC6 := countKind_any F 6 (some ⟨b, o, none⟩) n c
  have HD := distinct_any F (some ⟨b, o, none⟩) n c
  have HC := countKind_any F 23 (some ⟨b, o, none⟩) (n + 1) c
  have hcn6 := F.cnt_le 6 n
  have hcn := F.cnt_le 23 (n + 1)
  rw [hn] at HC6 HD HC hl ⊢
  rw [show n + 1 - 1 = n by omega]
  have HP : Hid (∀ W, Below w.heap.size w W → F.In W (some ⟨b, o, none⟩)) := fun W h => Fo.In.grow (.inr ⟨b, o, rfl, hF⟩) h
  clear hF hin hn h1
  generalize F.cnt 6 n = c6 at *
  generalize F.dist n = dd at *
  generalize F.cnt 23 (n + 1) = c23 at *
  have hB0 := (Below.refl _ w).alloc (Nat.le_refl _) (.cells #[.int .i64 16, .string t, .int .i64 m, .int .i64 e, .slice (some ⟨b, o, none⟩) (n + 1) c] 32)
  have A0 := box4 w 16 t m e (.slice (some ⟨b, o, none⟩) (n + 1) c) 32
  go_enter Try.func49, Try.ntmps49
  go_wp2_with fail
  refine (HC6 _ (HP.out _ hB0) (by omega) (by omega) hc).mono ?_
  rintro e1 w1 ⟨rfl, hb1⟩
  have hB1 := hB0.trans (hb1.mono hB0.size)
  have A1 := (hb1.cell (p := ⟨w.heap.size, 4, none⟩) (World.block_lt_of_cell? _ _ A0)).trans A0
  clear A0 hb1 hB0
  by_cases h6 : c6 = n
  · subst h6
    have g : ((c6 : Int) < (c6 : Int)) = False := by simp
    go_wp2_with fail
    refine (HD _ (HP.out _ hB1) (by omega) (by omega) hc).mono ?_
    rintro e1 w2 ⟨rfl, hb2⟩
    have hB2 := hB1.trans (hb2.mono hB1.size)
    have A2 := (hb2.cell (p := ⟨w.heap.size, 4, none⟩) (World.block_lt_of_cell? _ _ A1)).trans A1
    clear A1 hb2 hB1
    cases dd
    · go_wp2_with fail
      go_ret
      exact ⟨lret_bool (by simp), hB2⟩
    · go_wp2_with fail
      refine (HC _ (HP.out _ hB2) (by omega) (by omega) hc).mono ?_
      rintro e1 w3 ⟨rfl, hb3⟩
      have hB3 := hB2.trans (hb3.mono hB2.size)
      go_wp2_with fail
      go_ret
      exact ⟨lret_bool (by rw [Bool.eq_iff_iff]; simp), hB3⟩
  · have g : (c6 : Int) < (n : Int) := by omega
    go_wp2_with fail
    go_ret
    exact ⟨lret_bool (by simp [h6]), hB1⟩

set_option maxRecDepth 100000 in
set_option maxHeartbeats 4000000 in
theorem kidsFit_std (t : ByteArray) (m e : Int) (a : Option Addr) (c : Nat) (F : Fo) (w : World) (hin : F.In w a) (hl : F.len ≤ c) (hc : c ≤ maxLen) :
    Calls Try.prog 49 #[nodeV 24 t m e a F.len c] w fun r w' => r = .returned (.bool (decide (Om.std t.toList = F.len) && decide (F.cnt 23 F.len = 0))) ∧ Below w.heap.size w w' := by
  have hcc := hc
  unfold maxLen at hcc
  have HC := countKind_any F 23 a F.len c
  have hcn := F.cnt_le 23 F.len
  have hsl := Om.std_le t.toList
  have HP : Hid (∀ W, Below w.heap.size w W → F.In W a) := fun W h => hin.grow h
  have hS := stdKids_any t
  clear hin
  generalize F.cnt 23 F.len = c23 at *
  generalize F.len = n at *
  generalize Om.std t.toList = st at *
  have hB0 := (Below.refl _ w).alloc (Nat.le_refl _) (.cells #[.int .i64 24, .string t, .int .i64 m, .int .i64 e, .slice a n c] 32)
  have A0 := box4 w 24 t m e (.slice a n c) 32
  have A1 := box1 w 24 t m e (.slice a n c) 32
  go_enter Try.func49, Try.ntmps49
  go_wp2_with fail
  generalize w.alloc (.cells #[.int .i64 24, .string t, .int .i64 m, .int .i64 e, .slice a n c] 32) = W0 at *
  go_quiet ((go_at_call 72; exact Calls.quiet_of_same (hS _)))
  by_cases hst : st = n
  · subst hst
    go_wp2_with fail
    refine (HC _ (HP.out _ (below_drewN hB0 _)) (by omega) (by omega) hc).mono ?_
    rintro e1 w3 ⟨rfl, hb3⟩
    have hB3 := (below_drewN hB0 _).trans (hb3.mono (below_drewN hB0 _).size)
    go_wp2_with fail
    go_ret
    exact ⟨lret_bool (by rw [Bool.eq_iff_iff]; simp), hB3⟩
  · have hne : ((st : Int) != (n : Int)) = true := by simp; omega
    go_wp2_with fail
    go_ret
    exact ⟨lret_bool (by simp [hst]), below_drewN hB0 _⟩

set_option maxRecDepth 100000 in
set_option maxHeartbeats 4000000 in
theorem kidsFit_other (k : Int) (t : ByteArray) (m e : Int) (a : Option Addr) (c : Nat) (F : Fo) (w : World) (hin : F.In w a) (hl : F.len ≤ c) (hc : c ≤ maxLen) (n1 : ¬ k = 22) (n2 : ¬ k = 16) (n3 : ¬ k = 24) :
    Calls Try.prog 49 #[nodeV k t m e a F.len c] w fun r w' => r = .returned (.bool (decide (F.cnt 23 F.len = 0))) ∧ Below w.heap.size w w' := by
  have hcc := hc
  unfold maxLen at hcc
  have HC := countKind_any F 23 a F.len c
  have hcn := F.cnt_le 23 F.len
  have HP : Hid (∀ W, Below w.heap.size w W → F.In W a) := fun W h => hin.grow h
  clear hin
  have g1 : (k == 22) = false := by simp [n1]
  have g2 : (k == 16) = false := by simp [n2]
  have g3 : (k == 24) = false := by simp [n3]
  generalize F.cnt 23 F.len = c23 at *
  generalize F.len = n at *
  have hB0 := (Below.refl _ w).alloc (Nat.le_refl _) (.cells #[.int .i64 k, .string t, .int .i64 m, .int .i64 e, .slice a n c] 32)
  go_enter Try.func49, Try.ntmps49
  go_wp2_with fail
  refine (HC _ (HP.out _ hB0) (by omega) (by omega) hc).mono ?_
  rintro e1 w3 ⟨rfl, hb3⟩
  have hB3 := hB0.trans (hb3.mono hB0.size)
  go_wp2_with fail
  go_ret
  exact ⟨lret_bool (by rw [Bool.eq_iff_iff]; simp), hB3⟩
theorem kidsFit_any (k : Int) (t : ByteArray) (m e : Int) (a : Option Addr) (c : Nat) (F : Fo) (w : World) (hin : F.In w a) (hl : F.len ≤ c) (hc : c ≤ maxLen) (h16 : k = 16 → 1 ≤ F.len) :
    Calls Try.prog 49 #[nodeV k t m e a F.len c] w fun r w' => r = .returned (.bool (Om.below k t F)) ∧ Below w.heap.size w w' := by
  unfold Om.below
  by_cases h1 : k = 22
  · rw [if_pos h1]; subst h1; exact kidsFit_object t m e a c F w hin hl hc
  rw [if_neg h1]
  by_cases h2 : k = 16
  · rw [if_pos h2]; have := h16 h2; subst h2; exact kidsFit_func t m e a c F w hin hl hc this
  rw [if_neg h2]
  by_cases h3 : k = 24
  · rw [if_pos h3]; subst h3; exact kidsFit_std t m e a c F w hin hl hc
  rw [if_neg h3]
  exact kidsFit_other k t m e a c F w hin hl hc h1 h2 h3
end Go.Proofs.Ytcnhlkkbfdchnaa
