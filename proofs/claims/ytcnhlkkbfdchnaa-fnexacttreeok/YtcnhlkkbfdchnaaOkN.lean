/- Which trees are ok: by their measure, and each by itself. -/
import Derived.Test.YtcnhlkkbfdchnaaOkJ
namespace Go.Proofs.Ytcnhlkkbfdchnaa
/-- all in a list, and all below, are as their kinds ask -/
def Fo.allFit : Fo → Bool
  | .nil => true
  | .cons k t m e _ _ kids next => Om.fit k t m e kids && (kids.allFit && next.allFit)
theorem Fo.deep_nil {F : Fo} (h : F.len = 0) : F.deep = 0 := by
  cases F with
  | nil => rfl
  | cons k t m e a c kids next => exact absurd h (Nat.succ_ne_zero _)
theorem Fo.flat_all : ∀ (F : Fo) (d : Nat), (∀ x ∈ F.flat d, x.1 ≤ 20 ∧ Om.fit x.2.1 x.2.2.1 x.2.2.2.1 x.2.2.2.2.1 x.2.2.2.2.2 = true) ↔ (F.len = 0 ∨ d + F.deep ≤ 21) ∧ F.allFit = true := by
  intro F
  induction F with
  | nil => intro d; exact ⟨fun _ => ⟨.inl rfl, rfl⟩, fun _ x hx => by cases hx⟩
  | cons k t m e a c kids next ih1 ih2 =>
    intro d
    have hf : (Fo.cons k t m e a c kids next).flat d = (d, k, t, m, e, kids) :: (kids.flat (d + 1) ++ next.flat d) := rfl
    have hd : (Fo.cons k t m e a c kids next).deep = max (kids.deep + 1) next.deep := rfl
    have ha : (Fo.cons k t m e a c kids next).allFit = (Om.fit k t m e kids && (kids.allFit && next.allFit)) := rfl
    have hl : ¬ (Fo.cons k t m e a c kids next).len = 0 := Nat.succ_ne_zero _
    rw [hf, hd, ha, List.forall_mem_cons, List.forall_mem_append, ih1 (d + 1), ih2 d, Bool.and_eq_true, Bool.and_eq_true]
    have k0 := @Fo.deep_nil kids
    have n0 := @Fo.deep_nil next
    constructor
    · rintro ⟨⟨h1, h2⟩, ⟨h3, h4⟩, h5, h6⟩
      refine ⟨.inr ?_, h2, h4, h6⟩
      have h1' : d ≤ 20 := h1
      have e1 : d + 1 + kids.deep ≤ 21 := by
        rcases h3 with h3 | h3
        · have := k0 h3; omega
        · exact h3
      have e2 : d + next.deep ≤ 21 := by
        rcases h5 with h5 | h5
        · have := n0 h5; omega
        · exact h5
      omega
    · rintro ⟨h1, h2, h4, h6⟩
      rcases h1 with h1 | h1
      · exact absurd h1 hl
      · exact ⟨⟨by show d ≤ 20; omega, h2⟩, ⟨.inr (by omega), h4⟩, .inr (by omega), h6⟩
theorem good_iff (k : Int) (t : ByteArray) (m e : Int) (F : Fo) : TreeGood k t m e F ↔ (F.size + 1 ≤ 200 ∧ F.deep + 1 ≤ 20) ∧ Om.fit k t m e F = true ∧ F.allFit = true := by
  unfold TreeGood
  rw [List.forall_mem_cons, Fo.flat_all F 2, List.length_cons, Fo.flat_len]
  have k0 := @Fo.deep_nil F
  constructor
  · rintro ⟨h1, ⟨_, h2⟩, h3, h4⟩
    refine ⟨⟨h1, ?_⟩, h2, h4⟩
    rcases h3 with h3 | h3
    · have := k0 h3; omega
    · omega
  · rintro ⟨⟨h1, h2⟩, h3, h4⟩
    exact ⟨h1, ⟨by show 1 ≤ 20; omega, h3⟩, .inr (by omega), h4⟩
end Go.Proofs.Ytcnhlkkbfdchnaa
