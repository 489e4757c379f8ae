/- Plain mathematics of what a decimal is worth: no program in it. -/
import Derived.Test.YtldlfmehplemiaaDm4
import Derived.Test.YtldlfmehplemiaaDm5
namespace Go.Proofs.Ytldlfmehplemiaa.Dm
/-- what it is worth, far behind the last place -/
def big (m e : Int) : Int := m * p10 (e + 40)
theorem p10_ne (k : Int) : p10 k ≠ 0 := by have := p10_pos k; omega
theorem strip_big (k : Nat) : ∀ m e : Int, -40 ≤ e → big (strip k m e).1 (strip k m e).2 = big m e ∧ e ≤ (strip k m e).2 := by
  induction k with
  | zero => intro m e h; exact ⟨rfl, Int.le_refl _⟩
  | succ k ih =>
    intro m e h
    rw [strip]
    by_cases hz : m.tmod 10 = 0
    · rw [if_pos hz]
      obtain ⟨h1, h2⟩ := ih (m.tdiv 10) (e + 1) (by omega)
      refine ⟨?_, by omega⟩
      rw [h1, big, big, show e + 1 + 40 = (e + 40) + 1 from by omega, p10_succ _ (by omega), Int.mul_comm (p10 (e + 40)) 10, ← Int.mul_assoc]
      have := tm m
      rw [hz] at this
      rw [show m.tdiv 10 * 10 = m from by omega]
    · rw [if_neg hz]; exact ⟨rfl, Int.le_refl _⟩
theorem norm_big_eq {m e : Int} (he : -40 ≤ e) (h : (norm m e).2.2 = true) : big (norm m e).1 (norm m e).2.1 = big m e := by
  unfold norm at h ⊢
  by_cases h0 : m = 0
  · rw [if_pos h0]; subst h0; simp [big]
  · rw [if_neg h0] at h ⊢
    by_cases ho : ok (strip 20 m e).1 (strip 20 m e).2 = true
    · rw [if_pos ho]; exact (strip_big 20 m e he).1
    · rw [if_neg ho] at h; simp at h
theorem big_at {m x p : Int} (hp : p ≤ x) (hp2 : -40 ≤ p) : big m x = m * p10 (x - p) * p10 (p + 40) := by
  rw [big, Int.mul_assoc, ← p10_add (by omega) (by omega)]; congr 2; omega
theorem p10_cancel {a b k : Int} (h : a * p10 k = b * p10 k) : a = b := Int.eq_of_mul_eq_mul_right (p10_ne k) h
/-- two in their form that are worth the same are the same -/
theorem ok_unique {m x n y : Int} (hm : ok m x = true) (hn : ok n y = true) (h : big m x = big n y) : m = n ∧ x = y := by
  have bm := ok_bd hm
  have bn := ok_bd hn
  have key : ∀ {m x n y : Int}, ok m x = true → ok n y = true → big m x = big n y → x < y → m = n ∧ x = y := by
    intro m x n y hm hn h hlt
    have bm := ok_bd hm
    have bn := ok_bd hn
    rw [big_at (m := n) (x := y) (p := x) (by omega) (by omega), big] at h
    have e := p10_cancel h
    by_cases hm0 : m = 0
    · have hn0 : n = 0 := by
        rw [hm0] at e
        rcases Int.mul_eq_zero.1 e.symm with h | h
        · exact h
        · exact absurd h (p10_ne _)
      rw [ok_iff] at hm hn; omega
    · exact absurd (e ▸ p10_tmod (y - x) (by omega) n) (ok_ne hm hm0)
  rcases Int.lt_trichotomy x y with h1 | h1 | h1
  · exact key hm hn h h1
  · subst h1; exact ⟨p10_cancel h, rfl⟩
  · obtain ⟨a, b⟩ := key hn hm h.symm h1; exact ⟨a.symm, b.symm⟩
/-- of what the number was made: so many noughts more -/
theorem norm_pow_eq {m e : Int} (he : -40 ≤ e) (hm : m ≠ 0) (h : (norm m e).2.2 = true) : e ≤ (norm m e).2.1 ∧ m = (norm m e).1 * p10 ((norm m e).2.1 - e) := by
  have hb := norm_big_eq he h
  have hle : e ≤ (norm m e).2.1 := by
    unfold norm at h ⊢
    rw [if_neg hm] at h ⊢
    by_cases ho : ok (strip 20 m e).1 (strip 20 m e).2 = true
    · rw [if_pos ho]; exact (strip_big 20 m e he).2
    · rw [if_neg ho] at h; simp at h
  refine ⟨hle, ?_⟩
  rw [big_at (p := e) hle he, big] at hb
  exact (p10_cancel hb).symm
theorem mul_mono {k a b : Int} (h : a ≤ b) : (k * p10 a).natAbs ≤ (k * p10 b).natAbs := by
  rw [Int.natAbs_mul, Int.natAbs_mul]
  have h1 := p10_mono h
  have h2 := p10_pos a
  exact Nat.mul_le_mul_left _ (by omega)
theorem new_facts {m x : Int} (h : (new m x).2.2 = true) : (m ≠ 0 → x ≤ (new m x).2.1 ∧ m = (new m x).1 * p10 ((new m x).2.1 - x)) ∧ ok (new m x).1 (new m x).2.1 = true ∧ (m ≠ 0 → (new m x).1.tmod 10 ≠ 0) ∧ (m = 0 → (new m x).1 = 0 ∧ (new m x).2.1 = 0) := by
  have hr : (-100000000000000000 ≤ m ∧ m ≤ 100000000000000000) ∧ (-32 ≤ x ∧ x ≤ 32) := by
    unfold new at h
    by_cases hh : (-100000000000000000 ≤ m ∧ m ≤ 100000000000000000) ∧ (-32 ≤ x ∧ x ≤ 32)
    · exact hh
    · rw [if_neg hh] at h; simp at h
  have e : new m x = norm m x := by rw [new, if_pos hr]
  rw [e] at h ⊢
  refine ⟨fun h0 => norm_pow_eq (by omega) h0 h, norm_ok h, fun h0 => ?_, fun h0 => ?_⟩
  · refine ok_ne (norm_ok h) (fun hz => ?_)
    have := (norm_pow_eq (e := x) (by omega) h0 h).2
    rw [hz] at this; omega
  · subst h0; exact ⟨rfl, rfl⟩
end Go.Proofs.Ytldlfmehplemiaa.Dm
