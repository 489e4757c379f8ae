/- Contracts for trees that are ok: the texts, the counts. -/
import Derived.Test.YtohldacplapjkaaOm
import Derived.Test.YtohldacplapjkaaLexC
import Derived.Test.YtohldacplapjkaaDecA
namespace Go.Proofs.Ytohldacplapjkaa
open Go.RowKit

theorem has_mem {L : List (List UInt8)} {l : List UInt8} (h : Qm.has L l = true) : l ∈ L := by
  induction L with
  | nil => cases h
  | cons x t ih =>
    simp only [Qm.has, Bool.or_eq_true, beq_iff_eq] at h
    rcases h with h | h
    · subst h; simp
    · exact List.mem_cons_of_mem _ (ih h)

/-- how many a function is given, or -1 -/
def stdOr (l : List UInt8) : Int := if Om.std l = 0 then -1 else (Om.std l : Int)
set_option maxHeartbeats 400000 in
theorem shortText_any (s : ByteArray) (w : World) (hs : s.size ≤ maxLen) :
    Calls Try.prog 77 #[.string s] w fun e w' => e = .returned (.bool (decide (s.size ≤ 1500))) ∧ w' = w := by
  unfold maxLen at hs
  go_enter Try.func77, Try.ntmps77
  go_wp2_with fail
  go_ret
  exact ⟨lret_bool (by rw [Bool.eq_iff_iff]; first | (simp; done) | (simp; omega)), rfl⟩

end Go.Proofs.Ytohldacplapjkaa
