/- Plain mathematics: a name with a letter q ahead. -/
import Derived.WalkKit
import Derived.Test.YtdmlgmebgajchaaQm
namespace Go.Proofs.Ytdmlgmebgajchaa.Qm
theorem low_part {c : Int} (h : low c = true) : part c = true := by simp [part, h]
theorem letters_all {l : List UInt8} (h : letters 0 l = true) : l.all (fun c => part c.toNat) = true := by
  cases l with
  | nil => rfl
  | cons c t =>
    rw [letters_part] at h
    simp only [Bool.and_eq_true, decide_eq_true_iff] at h
    exact (run_iff part _).1 h.2
theorem q_list (s : ByteArray) : ((⟨#[113]⟩ : ByteArray) ++ s).data.toList = 113 :: s.data.toList := by
  simp [ByteArray.data_append]
theorem q_size (s : ByteArray) : ((⟨#[113]⟩ : ByteArray) ++ s).size = s.size + 1 := by
  rw [← len_eq, q_list, List.length_cons, len_eq]
theorem name_sizes {s : ByteArray} (h : name s = true) : 1 ≤ s.size ∧ s.size ≤ 12 := by
  unfold name at h
  simp only [Bool.and_eq_true, decide_eq_true_iff] at h
  exact h.1.2
theorem name_q {s : ByteArray} (h : name s = true) (h2 : s.size < 12) : name ((⟨#[113]⟩ : ByteArray) ++ s) = true := by
  unfold name at h ⊢
  simp only [Bool.and_eq_true, decide_eq_true_iff] at h
  obtain ⟨⟨hl, h1, _⟩, _⟩ := h
  rw [ByteArray.toList_eq, q_size, q_list]
  have hh : has words (113 :: s.data.toList) = false := by
    simp only [words, has]
    simp
  have hL : letters 0 (113 :: s.data.toList) = true := by
    simp only [letters, letters_succ]
    rw [letters_all hl]; rfl
  rw [hh, hL]
  simp; omega
end Go.Proofs.Ytdmlgmebgajchaa.Qm
