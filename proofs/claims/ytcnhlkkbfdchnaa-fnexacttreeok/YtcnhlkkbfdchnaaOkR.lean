/- Which trees are ok: the specification's way and the program's are one. -/
import Derived.Test.YtcnhlkkbfdchnaaOkQ
import Derived.Test.YtcnhlkkbfdchnaaOkN
namespace Go.Proofs.Ytcnhlkkbfdchnaa
/-- at a place: it fits, and all below it -/
def Fo.fitAt (F : Fo) (i : Nat) : Bool := Om.fit (F.kindAt i) (F.textAt i) (F.manAt i) (F.expAt i) (F.kidsAt i) && (F.kidsAt i).allFit
theorem Fo.allFit_iff : ∀ (F : Fo), F.allFit = true ↔ ∀ i, i < F.len → F.fitAt i = true := by
  intro F
  induction F with
  | nil => exact ⟨fun _ i h => absurd h (Nat.not_lt_zero _), fun _ => rfl⟩
  | cons k t m e a c kids next _ ih =>
    have ha : (Fo.cons k t m e a c kids next).allFit = (Om.fit k t m e kids && (kids.allFit && next.allFit)) := rfl
    rw [ha, Bool.and_eq_true, Bool.and_eq_true, ih]
    constructor
    · rintro ⟨h1, h2, h3⟩ i hi
      cases i with
      | zero => show (Om.fit k t m e kids && kids.allFit) = true; rw [h1, h2]; rfl
      | succ i => exact h3 i (Nat.lt_of_succ_lt_succ hi)
    · intro h
      have h0 : (Om.fit k t m e kids && kids.allFit) = true := h 0 (Nat.succ_pos _)
      rw [Bool.and_eq_true] at h0
      exact ⟨h0.1, h0.2, fun i hi => h (i + 1) (Nat.succ_lt_succ hi)⟩
theorem Fo.cnt_all (F : Fo) (q : Int) (n : Nat) : F.cnt q n = n ↔ ∀ i, i < n → F.kindAt i = q := by
  induction n with
  | zero => exact ⟨fun _ i h => absurd h (Nat.not_lt_zero _), fun _ => rfl⟩
  | succ n ih =>
    show F.cnt q n + (if F.kindAt n = q then 1 else 0) = n + 1 ↔ _
    have hle := F.cnt_le q n
    constructor
    · intro h i hi
      by_cases hq : F.kindAt n = q
      · rw [if_pos hq] at h
        rcases Nat.lt_succ_iff_lt_or_eq.1 hi with hi | rfl
        · exact ih.1 (by omega) i hi
        · exact hq
      · rw [if_neg hq] at h; omega
    · intro h
      rw [if_pos (h n (Nat.lt_succ_self n)), ih.2 fun i hi => h i (Nat.lt_succ_of_lt hi)]
theorem Fo.cnt_none (F : Fo) (q : Int) (n : Nat) : F.cnt q n = 0 ↔ ∀ i, i < n → ¬ F.kindAt i = q := by
  induction n with
  | zero => exact ⟨fun _ i h => absurd h (Nat.not_lt_zero _), fun _ => rfl⟩
  | succ n ih =>
    show F.cnt q n + (if F.kindAt n = q then 1 else 0) = 0 ↔ _
    constructor
    · intro h i hi
      by_cases hq : F.kindAt n = q
      · rw [if_pos hq] at h; omega
      · rcases Nat.lt_succ_iff_lt_or_eq.1 hi with hi | rfl
        · exact ih.1 (by omega) i hi
        · exact hq
    · intro h
      rw [if_neg (h n (Nat.lt_succ_self n)), ih.2 fun i hi => h i (Nat.lt_succ_of_lt hi)]
theorem allN_iff (p : Nat → Bool) (fr n : Nat) : allN p fr n = true ↔ ∀ i, fr ≤ i → i < n → p i = true := by
  induction n with
  | zero => exact ⟨fun _ i _ h => absurd h (Nat.not_lt_zero _), fun _ => rfl⟩
  | succ n ih =>
    show (allN p fr n && (decide (n < fr) || p n)) = true ↔ _
    rw [Bool.and_eq_true, ih, Bool.or_eq_true, decide_eq_true_eq]
    constructor
    · rintro ⟨h1, h2⟩ i hf hi
      rcases Nat.lt_succ_iff_lt_or_eq.1 hi with hi | rfl
      · exact h1 i hf hi
      · rcases h2 with h2 | h2
        · omega
        · exact h2
    · intro h
      refine ⟨fun i hf hi => h i hf (Nat.lt_succ_of_lt hi), ?_⟩
      by_cases hn : n < fr
      · exact .inl hn
      · exact .inr (h n (by omega) (Nat.lt_succ_self n))
theorem Fo.fldN_iff (F : Fo) (q : Nat → Bool) (n : Nat) : F.fldN q n = true ↔ (∀ i, i < n → q i = true) ∧ F.dist n = true := by
  induction n with
  | zero => exact ⟨fun _ => ⟨fun i h => absurd h (Nat.not_lt_zero _), rfl⟩, fun _ => rfl⟩
  | succ n ih =>
    show (F.fldN q n && (q n && F.newAt n n)) = true ↔ _ ∧ (F.dist n && F.newAt n n) = true
    rw [Bool.and_eq_true, Bool.and_eq_true, Bool.and_eq_true, ih]
    constructor
    · rintro ⟨⟨h1, h2⟩, h3, h4⟩
      refine ⟨fun i hi => ?_, h2, h4⟩
      rcases Nat.lt_succ_iff_lt_or_eq.1 hi with hi | rfl
      · exact h1 i hi
      · exact h3
    · rintro ⟨h1, h2, h4⟩
      exact ⟨⟨fun i hi => h1 i (Nat.lt_succ_of_lt hi), h2⟩, h1 n (Nat.lt_succ_self n), h4⟩
theorem Fo.nmOk_iff (F : Fo) (n : Nat) : F.nmOk n = true ↔ (∀ i, i < n → F.nameHead i = true) ∧ F.dist n = true := by
  induction n with
  | zero => exact ⟨fun _ => ⟨fun i h => absurd h (Nat.not_lt_zero _), rfl⟩, fun _ => rfl⟩
  | succ n ih =>
    show (F.nmOk n && (F.nameHead n && F.newAt n n)) = true ↔ _ ∧ (F.dist n && F.newAt n n) = true
    rw [Bool.and_eq_true, Bool.and_eq_true, Bool.and_eq_true, ih]
    constructor
    · rintro ⟨⟨h1, h2⟩, h3, h4⟩
      refine ⟨fun i hi => ?_, h2, h4⟩
      rcases Nat.lt_succ_iff_lt_or_eq.1 hi with hi | rfl
      · exact h1 i hi
      · exact h3
    · rintro ⟨h1, h2, h4⟩
      exact ⟨⟨fun i hi => h1 i (Nat.lt_succ_of_lt hi), h2⟩, h1 n (Nat.lt_succ_self n), h4⟩
theorem Fo.nil_of_len {F : Fo} (h : F.len = 0) : F = .nil := by
  cases F with
  | nil => rfl
  | cons k t m e a c kids next => exact absurd h (Nat.succ_ne_zero _)
/-- what fits by the program's table, told apart -/
theorem fit_iff (k : Int) (t : ByteArray) (m e : Int) (F : Fo) : Om.fit k t m e F = true ↔ (1 ≤ k ∧ k ≤ 24) ∧ (Om.low' k ≤ F.len ∧ F.len ≤ Om.high' k) ∧ Om.textOf (Om.sort k) t = true ∧ Om.num k m e = true ∧ Om.below k t F = true := by
  unfold Om.fit
  simp only [Bool.and_eq_true, decide_eq_true_eq]
  constructor
  · rintro ⟨⟨h1, h2, h3⟩, h4, h5⟩; exact ⟨h1, h2, h3, h4, h5⟩
  · rintro ⟨h1, h2, h3, h4, h5⟩; exact ⟨⟨h1, h2, h3⟩, h4, h5⟩
/-- a name fits just if it is one -/
theorem nameHead_iff (F : Fo) (i : Nat) : F.nameHead i = true ↔ F.kindAt i = 6 ∧ F.fitAt i = true := by
  unfold Fo.nameHead Fo.fitAt
  simp only [Bool.and_eq_true, decide_eq_true_eq]
  constructor
  · rintro ⟨h1, h2, h3, h4, h5⟩
    refine ⟨h1, ?_, ?_⟩
    · rw [h1, fit_iff]
      refine ⟨by omega, ⟨by simp [Om.low', Om.low], by simp [Om.high', Om.high, h5]⟩, by simpa [Om.sort, Om.textOf] using h2, by simp [Om.num, h3, h4], ?_⟩
      simp [Om.below, h5, Fo.cnt]
    · rw [Fo.nil_of_len h5]; rfl
  · rintro ⟨h1, h2, _⟩
    rw [h1, fit_iff] at h2
    obtain ⟨_, ⟨_, hl⟩, ht, hn, _⟩ := h2
    refine ⟨h1, by simpa [Om.sort, Om.textOf] using ht, ?_⟩
    simp [Om.num] at hn
    simp [Om.high', Om.high] at hl
    exact ⟨hn.1, hn.2, hl⟩
/-- a field, if what is below is told -/
theorem field_iff (k : Int) (t : ByteArray) (m e : Int) (G : Fo) (hg : G.len = 1 → ((G.okp 0).1 = true ↔ ¬ G.kindAt 0 = 23 ∧ G.fitAt 0 = true)) :
    (sField k t m e G.len && (G.okp 0).1) = true ↔ k = 23 ∧ Om.fit k t m e G = true ∧ G.allFit = true := by
  unfold sField
  simp only [Bool.and_eq_true, decide_eq_true_eq]
  rw [Fo.allFit_iff]
  constructor
  · rintro ⟨⟨rfl, h2, h3, h4, h5, h6⟩, h7⟩
    have h8 := (hg h3).1 h7
    refine ⟨rfl, ?_, fun i hi => ?_⟩
    · rw [fit_iff]
      refine ⟨by omega, ⟨by simp [Om.low', h3], by simp [Om.high', h3]⟩, by simpa [Om.sort, Om.textOf] using h2, by simp [Om.num, h4, h5, h6], ?_⟩
      simp [Om.below, h3, Fo.cnt, h8.1]
    · obtain rfl : i = 0 := by omega
      exact h8.2
  · rintro ⟨rfl, h2, h3⟩
    rw [fit_iff] at h2
    obtain ⟨_, ⟨hl, hh⟩, ht, hn, hb⟩ := h2
    have h1 : G.len = 1 := by simp [Om.low'] at hl; simp [Om.high'] at hh; omega
    simp [Om.num] at hn
    simp [Om.below, h1, Fo.cnt] at hb
    exact ⟨⟨rfl, by simpa [Om.sort, Om.textOf] using ht, h1, hn.1, hn.2.1, hn.2.2⟩, (hg h1).2 ⟨hb, h3 0 (by omega)⟩⟩
theorem head_iff {k : Int} {t : ByteArray} {n : Nat} (h23 : ¬ k = 23) (h24 : ¬ k = 24) : headOf k t n = true ↔ (1 ≤ k ∧ k ≤ 24) ∧ (Om.low' k ≤ n ∧ n ≤ Om.high' k) ∧ Om.textOf (Om.sort k) t = true := by
  have e1 : Om.low' k = Om.low k := by unfold Om.low'; rw [if_neg (by omega)]
  have e2 : Om.high' k = Om.high k := by unfold Om.high'; rw [if_neg h23, if_neg h24]
  have e3 : sText k t n = Om.textOf (Om.sort k) t := by unfold sText; rw [if_neg h24, if_neg h23]
  unfold headOf
  rw [e1, e2, e3, decide_eq_false h23]
  simp only [Bool.and_eq_true, decide_eq_true_eq, Bool.not_false, true_and, Int.ofNat_le]
theorem head_std {t : ByteArray} {n : Nat} : headOf 24 t n = true ↔ Om.std t.toList = n ∧ 0 < Om.std t.toList := by
  have e3 : sText 24 t n = decide (stdOr t.toList = (n : Int)) := rfl
  have hle := Om.std_le t.toList
  have e1 : Om.low 24 = 0 := by decide
  have e2 : Om.high 24 = 8 := by decide
  unfold headOf
  rw [e3, e1, e2]
  simp only [Bool.and_eq_true, decide_eq_true_eq, Bool.not_eq_true', decide_eq_false_iff_not]
  unfold stdOr
  constructor
  · rintro ⟨_, _, _, h⟩
    split at h <;> omega
  · rintro ⟨h1, h2⟩
    refine ⟨by omega, by omega, by omega, ?_⟩
    split <;> omega
theorem num_iff {k m e : Int} (h4 : ¬ k = 4) (h23 : ¬ k = 23) : Om.num k m e = true ↔ m = 0 ∧ e = 0 := by
  unfold Om.num
  rw [if_neg h4, if_neg h23]
  simp
theorem ok_iff (N : Nat) : ∀ (k : Int) (t : ByteArray) (m e : Int) (F : Fo), F.size < N → (okOne k t m e F = true ↔ ¬ k = 23 ∧ Om.fit k t m e F = true ∧ F.allFit = true) := by
  induction N with
  | zero => intro k t m e F h; omega
  | succ N ih =>
    intro k t m e F hN
    have P1 : ∀ i, i < F.len → ((F.okp i).1 = true ↔ ¬ F.kindAt i = 23 ∧ F.fitAt i = true) := by
      intro i hi
      have hs := Fo.size_at hi
      rw [Fo.okp1 hi, ih _ _ _ _ _ (by omega)]
      unfold Fo.fitAt
      rw [Bool.and_eq_true]
    have P2 : ∀ i, i < F.len → ((F.okp i).2 = true ↔ F.kindAt i = 23 ∧ F.fitAt i = true) := by
      intro i hi
      have hs := Fo.size_at hi
      rw [Fo.okp2 hi, field_iff]
      · unfold Fo.fitAt
        rw [Bool.and_eq_true]
      · intro h1
        have h01 : 0 < (F.kidsAt i).len := by omega
        have hs2 := Fo.size_at h01
        rw [Fo.okp1 h01, ih _ _ _ _ _ (by omega)]
        unfold Fo.fitAt
        rw [Bool.and_eq_true]
    have L : (∀ i, i < F.len → (F.okp i).1 = true) ↔ F.cnt 23 F.len = 0 ∧ F.allFit = true := by
      rw [Fo.cnt_none, Fo.allFit_iff]
      exact ⟨fun h => ⟨fun i hi => ((P1 i hi).1 (h i hi)).1, fun i hi => ((P1 i hi).1 (h i hi)).2⟩, fun h i hi => (P1 i hi).2 ⟨h.1 i hi, h.2 i hi⟩⟩
    have L22 : (∀ i, i < F.len → (F.okp i).2 = true) ↔ F.cnt 23 F.len = F.len ∧ F.allFit = true := by
      rw [Fo.cnt_all, Fo.allFit_iff]
      exact ⟨fun h => ⟨fun i hi => ((P2 i hi).1 (h i hi)).1, fun i hi => ((P2 i hi).1 (h i hi)).2⟩, fun h i hi => (P2 i hi).2 ⟨h.1 i hi, h.2 i hi⟩⟩
    by_cases h23 : k = 23
    · subst h23
      rw [okOne_not (by unfold headOf; simp)]
      exact ⟨fun h => (by cases h), fun h => absurd rfl h.1⟩
    cases hh : headOf k t F.len
    · rw [okOne_not hh]
      refine ⟨fun h => (by cases h), fun h => ?_⟩
      rw [fit_iff] at h
      obtain ⟨_, ⟨f1, f2, f3, f4, f5⟩, _⟩ := h
      exfalso
      by_cases h24 : k = 24
      · subst h24
        have : headOf 24 t F.len = true := by
          rw [head_std]
          simp [Om.below] at f5
          simp [Om.low'] at f2
          omega
        rw [hh] at this; cases this
      · have := (head_iff (t := t) (n := F.len) h23 h24).2 ⟨f1, f2, f3⟩
        rw [hh] at this; cases this
    · rw [okOne_head hh, fit_iff]
      by_cases h24 : k = 24
      · subst h24
        have hs := head_std.1 hh
        have hle := Om.std_le t.toList
        rw [if_neg (by decide), num_iff (by decide) (by decide)]
        have ek : kidsOf 24 F (fun i => (F.okp i).1) (fun i => (F.okp i).2) = allN (fun i => (F.okp i).1) 0 F.len := rfl
        have eb : Om.below 24 t F = (decide (Om.std t.toList = F.len) && decide (F.cnt 23 F.len = 0)) := rfl
        have el : Om.low' 24 = 1 := by decide
        have eh : Om.high' 24 = 3 := by decide
        have et : Om.textOf (Om.sort 24) t = decide (0 < Om.std t.toList) := rfl
        rw [ek, eb, el, eh, et, decide_eq_true hs.1, decide_eq_true hs.2]
        simp only [Bool.and_eq_true, decide_eq_true_eq, true_and]
        rw [allN_iff]
        constructor
        · rintro ⟨h1, h2⟩
          have := L.1 fun i hi => h2 i (Nat.zero_le _) hi
          exact ⟨by decide, ⟨by decide, by omega, h1, this.1⟩, this.2⟩
        · rintro ⟨_, ⟨_, _, h1, h2⟩, h3⟩
          exact ⟨h1, fun i _ hi => L.2 ⟨h2, h3⟩ i hi⟩
      · obtain ⟨f1, f2, f3⟩ := (head_iff h23 h24).1 hh
        by_cases h4 : k = 4
        · subst h4
          have hl : F.len = 0 := by have h2 := f2.2; simp [Om.high', Om.high] at h2; exact h2
          have hf := Fo.nil_of_len hl
          subst hf
          rw [if_pos rfl]
          have en : Om.num 4 m e = (Dm.ok m e && decide (0 ≤ m)) := rfl
          rw [en]
          exact ⟨fun h => ⟨h23, ⟨f1, f2, f3, h, rfl⟩, rfl⟩, fun h => h.2.1.2.2.2.1⟩
        · rw [if_neg h4, num_iff h4 h23]
          simp only [Bool.and_eq_true, decide_eq_true_eq]
          by_cases h22 : k = 22
          · subst h22
            have ek : kidsOf 22 F (fun i => (F.okp i).1) (fun i => (F.okp i).2) = F.fldN (fun i => (F.okp i).2) F.len := rfl
            have eb : Om.below 22 t F = (decide (F.cnt 23 F.len = F.len) && F.dist F.len) := rfl
            rw [ek, eb, Fo.fldN_iff, L22]
            simp only [Bool.and_eq_true, decide_eq_true_eq]
            constructor
            · rintro ⟨h1, ⟨h2, h3⟩, h5⟩
              exact ⟨h23, ⟨f1, f2, f3, h1, h2, h5⟩, h3⟩
            · rintro ⟨_, ⟨_, _, _, h1, h2, h5⟩, h3⟩
              exact ⟨h1, ⟨h2, h3⟩, h5⟩
          · by_cases h16 : k = 16
            · subst h16
              have ek : kidsOf 16 F (fun i => (F.okp i).1) (fun i => (F.okp i).2) = (F.nmOk (F.len - 1) && allN (fun i => (F.okp i).1) (F.len - 1) F.len) := rfl
              have eb : Om.below 16 t F = (decide (F.cnt 6 (F.len - 1) = F.len - 1) && (F.dist (F.len - 1) && decide (F.cnt 23 F.len = 0))) := rfl
              rw [ek, eb]
              simp only [Bool.and_eq_true, decide_eq_true_eq]
              rw [Fo.nmOk_iff, allN_iff, Fo.cnt_all, Fo.cnt_none, Fo.allFit_iff]
              constructor
              · rintro ⟨h1, ⟨h2, h3⟩, h5⟩
                have hx : ∀ i, i < F.len → ¬ F.kindAt i = 23 ∧ F.fitAt i = true := by
                  intro i hi
                  by_cases hi2 : i < F.len - 1
                  · have := (nameHead_iff F i).1 (h2 i hi2)
                    exact ⟨by rw [this.1]; decide, this.2⟩
                  · exact (P1 i hi).1 (h5 i (by omega) hi)
                exact ⟨h23, ⟨f1, f2, f3, h1, fun i hi => ((nameHead_iff F i).1 (h2 i hi)).1, h3, fun i hi => (hx i hi).1⟩, fun i hi => (hx i hi).2⟩
              · rintro ⟨_, ⟨_, _, _, h1, h2, h5, h6⟩, h3⟩
                exact ⟨h1, ⟨fun i hi => (nameHead_iff F i).2 ⟨h2 i hi, h3 i (by omega)⟩, h5⟩, fun i _ hi => (P1 i hi).2 ⟨h6 i hi, h3 i hi⟩⟩
            · have ek : kidsOf k F (fun i => (F.okp i).1) (fun i => (F.okp i).2) = allN (fun i => (F.okp i).1) 0 F.len := by unfold kidsOf; rw [if_neg h22, if_neg h16]
              have eb : Om.below k t F = decide (F.cnt 23 F.len = 0) := by unfold Om.below; rw [if_neg h22, if_neg h16, if_neg h24]
              rw [ek, eb, allN_iff, decide_eq_true_eq]
              constructor
              · rintro ⟨h1, h2⟩
                have := L.1 fun i hi => h2 i (Nat.zero_le _) hi
                exact ⟨h23, ⟨f1, f2, f3, h1, this.1⟩, this.2⟩
              · rintro ⟨_, ⟨_, _, _, h1, h2⟩, h3⟩
                exact ⟨h1, fun i _ hi => L.2 ⟨h2, h3⟩ i hi⟩
end Go.Proofs.Ytcnhlkkbfdchnaa
