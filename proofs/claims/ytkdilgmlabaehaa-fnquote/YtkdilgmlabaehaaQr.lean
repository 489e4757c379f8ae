/- Plain mathematics: a text is read back from between its quotes. -/
import Derived.Test.YtkdilgmlabaehaaQg
namespace Go.Proofs.Ytkdilgmlabaehaa.Qm
theorem hexv_hexd_all : ∀ n : Fin 16, hexv (hexd n.val) = (n.val : Int) := by decide +kernel
theorem hexv_hexd (n : Nat) (h : n < 16) : hexv (hexd n) = (n : Int) := hexv_hexd_all ⟨n, h⟩
theorem nx_esc (b : UInt8) (t : List UInt8) : nx (esc b ++ t) = (b, (esc b).length) := by
  have hb := b.toNat_lt
  unfold esc
  by_cases hp : plain b.toNat = true
  · rw [if_pos hp]; exact nx_plain b t hp
  · rw [if_neg hp]
    by_cases h10 : b = 10
    · rw [if_pos h10, h10]; rfl
    · rw [if_neg h10]
      by_cases h2 : b = 34 ∨ b = 92
      · rw [if_pos h2]; exact nx_q b t h2
      · rw [if_neg h2]
        show hx (hexd (b.toNat / 16) :: hexd (b.toNat % 16) :: t) = _
        rw [hx_two, hexv_hexd _ (by omega), hexv_hexd _ (by omega), if_pos ⟨by omega, by omega⟩]
        have e : (((b.toNat / 16 : Nat) : Int) * 16 + ((b.toNat % 16 : Nat) : Int)).toNat = b.toNat := by omega
        rw [e]
        simp
theorem gq_flat (l : List UInt8) : ∀ (f : Nat) (acc : List UInt8), (l.flatMap esc).length ≤ f → gq f (l.flatMap esc) acc = some (acc ++ l) := by
  induction l with
  | nil => intro f acc _; rw [List.flatMap_nil, gq_nil, List.append_nil]
  | cons b t ih =>
    intro f acc hf
    have hl := esc_length b
    rw [List.flatMap_cons] at hf ⊢
    rw [List.length_append] at hf
    obtain ⟨f', rfl⟩ : ∃ f', f = f' + 1 := ⟨f - 1, by omega⟩
    have hne : esc b ++ t.flatMap esc ≠ [] := by
      intro h; have := congrArg List.length h; rw [List.length_append, List.length_nil] at this; omega
    rw [gq_step _ _ _ hne (by rw [nx_esc]; show (esc b).length ≠ 0; omega), nx_esc]
    show gq f' ((esc b ++ t.flatMap esc).drop (esc b).length) (acc ++ [b]) = _
    rw [List.drop_left, ih f' (acc ++ [b]) (by omega), List.append_assoc]; rfl
theorem mid_quote (l : List UInt8) : mid (quote l) = l.flatMap esc := by
  unfold mid quote
  rw [List.drop_one, List.tail_cons, List.length_cons, List.length_append]
  rw [List.take_left' (by simp)]
theorem qget_quote (l : List UInt8) : qget (quote l) = some l := by
  have hq : quoted (quote l) = true := by
    unfold quoted quote
    have e : (34 :: (l.flatMap esc ++ [34])).length - 1 = (l.flatMap esc).length + 1 := by simp
    rw [e]
    have g : (34 :: (l.flatMap esc ++ [34])).getD ((l.flatMap esc).length + 1) 0 = 34 := by
      rw [List.getD_cons_succ, List.getD_eq_getElem?_getD, List.getElem?_append_right (Nat.le_refl _), Nat.sub_self]; rfl
    rw [g]
    simp
  rw [qget, if_pos hq, mid_quote, gq_flat _ _ _ (by simp [quote]; omega)]; rfl
theorem gq_length (l : List UInt8) : ∀ (f : Nat) (acc r : List UInt8), gq f l acc = some r → r.length ≤ acc.length + f := by
  intro f
  induction f generalizing l with
  | zero => intro acc r h; cases l with
    | nil => simp only [gq] at h; cases h; omega
    | cons c t => simp only [gq] at h; cases h
  | succ f ih => intro acc r h; cases l with
    | nil => simp only [gq] at h; cases h; omega
    | cons c t =>
      simp only [gq] at h
      split at h
      · cases h
      · have := ih _ _ _ h; simp at this; omega
theorem qget_length (l r : List UInt8) (h : qget l = some r) : r.length ≤ l.length := by
  unfold qget at h
  split at h
  · have := gq_length _ _ _ _ h; simpa using this
  · cases h
end Go.Proofs.Ytkdilgmlabaehaa.Qm
