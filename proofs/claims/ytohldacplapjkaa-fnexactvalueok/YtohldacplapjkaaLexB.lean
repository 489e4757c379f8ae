/- Contracts: words, l2Has, l2Letters, NameOk of both sides. -/
import Derived.Test.YtohldacplapjkaaLexA
namespace Go.Proofs.Ytohldacplapjkaa
open Go.RowKit

set_option maxHeartbeats 1000000 in
theorem isWord_any (s : ByteArray) (w : World) :
    Calls Try.prog 86 #[.string s] w fun e w' => e = .returned (.bool (Qm.has Qm.words s.toList)) ∧ w' = w := by
  generalize hl : s.toList = l
  cases h : Qm.has Qm.words l
  · simp only [Qm.words, Qm.has, Bool.or_eq_false_iff] at h
    obtain ⟨a1, a2, a3, a4, a5, a6, a7, a8, a9, a10, a11, a12, a13, a14, a15, _⟩ := h
    go_enter Try.func86, Try.ntmps86
    go_wp2_with fail
    go_ret
    exact ⟨rfl, rfl⟩
  · have hm : l ∈ Qm.words := by
      simp only [Qm.words, Qm.has, Bool.or_eq_true, beq_iff_eq] at h
      simp only [Qm.words, List.mem_cons, List.not_mem_nil, or_false]
      rcases h with h | h | h | h | h | h | h | h | h | h | h | h | h | h | h | h
      all_goals first | exact absurd h (by simp) | (subst h; simp)
    clear h
    simp only [Qm.words, List.mem_cons, List.not_mem_nil, or_false] at hm
    rcases hm with h | h | h | h | h | h | h | h | h | h | h | h | h | h | h
    all_goals
      subst h
      go_enter Try.func86, Try.ntmps86
      go_wp2_with fail
      go_ret
      exact ⟨rfl, rfl⟩
end Go.Proofs.Ytohldacplapjkaa
