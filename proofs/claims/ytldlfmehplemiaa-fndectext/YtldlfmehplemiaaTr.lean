/- Plain mathematics: a number's text is read back as that number. -/
import Derived.Test.YtldlfmehplemiaaTm
import Derived.Test.YtldlfmehplemiaaRm
namespace Go.Proofs.Ytldlfmehplemiaa.Tr
open Tm Rm
theorem dig_nat (n j : Nat) : (dig n j).toNat = 48 + n / 10 ^ j % 10 := by
  have : n / 10 ^ j % 10 < 10 := Nat.mod_lt _ (by omega)
  unfold dig; simp; omega
theorem fig_dig (n j : Nat) : Qm.fig (dig n j).toNat = true := by
  have : n / 10 ^ j % 10 < 10 := Nat.mod_lt _ (by omega)
  rw [dig_nat]; simp [Qm.fig]; omega
abbrev allf (l : List UInt8) : Prop := l.all (fun c => Qm.fig c.toNat) = true
theorem allf_dstr (n : Nat) (c : Nat) : allf (dstr n c) := by
  induction c with
  | zero => rfl
  | succ c ih => unfold allf at *; rw [dstr, List.all_cons, fig_dig, ih]; rfl
theorem allf_dsl (n b : Nat) (a : Nat) : allf (dsl n b a) := by
  induction a with
  | zero => rfl
  | succ a ih => unfold allf at *; rw [dsl, List.all_cons, fig_dig, ih]; rfl
theorem allf_rep (k : Nat) : allf (List.replicate k 48) := by
  unfold allf; rw [List.all_eq_true]; intro c hc; rw [List.eq_of_mem_replicate hc]; rfl
theorem allf_app {a b : List UInt8} (ha : allf a) (hb : allf b) : allf (a ++ b) := by
  unfold allf at *; rw [List.all_append, ha, hb]; rfl
theorem fig_ne {c : UInt8} (h : Qm.fig c.toNat = true) : c ≠ 46 ∧ c ≠ 45 := by
  constructor
  · rintro rfl; simp [Qm.fig] at h
  · rintro rfl; simp [Qm.fig] at h
theorem sp_all {a : List UInt8} (h : allf a) : sp a = (a, none) := by
  induction a with
  | nil => rfl
  | cons c t ih =>
    unfold allf at *
    rw [List.all_cons, Bool.and_eq_true] at h
    rw [sp_cons_ne t (fig_ne h.1).1, ih h.2]
theorem sp_point {a : List UInt8} (b : List UInt8) (h : allf a) : sp (a ++ 46 :: b) = (a, some b) := by
  induction a with
  | nil => exact sp_cons_eq b
  | cons c t ih =>
    unfold allf at *
    rw [List.all_cons, Bool.and_eq_true] at h
    show sp (c :: (t ++ 46 :: b)) = _
    rw [sp_cons_ne _ (fig_ne h.1).1, ih h.2]
theorem whole_dstr (c : Nat) : ∀ n : Nat, whole (dstr n c) = ((n % 10 ^ c : Nat) : Int) := by
  induction c with
  | zero => intro n; simp [dstr, whole, Nat.mod_one]
  | succ c ih =>
    intro n
    have e : n % 10 ^ (c + 1) = n / 10 % 10 ^ c * 10 + n % 10 := by rw [Nat.pow_succ, Nat.mul_comm, Nat.mod_mul]; omega
    rw [dstr_snoc, whole_snoc, ih, e, dig_nat]
    simp only [Nat.pow_zero, Nat.div_one]
    omega
theorem whole_rep (l : List UInt8) (k : Nat) : whole (l ++ List.replicate k 48) = whole l * 10 ^ k := by
  induction k with
  | zero => simp
  | succ k ih =>
    rw [List.replicate_succ', ← List.append_assoc, whole_snoc, ih, Int.pow_succ, Int.mul_assoc]
    have : ((48 : UInt8).toNat : Int) - 48 = 0 := rfl
    rw [this, Int.add_zero]
theorem top_dig {n : Nat} (h : n ≤ 99999999) (h2 : 2 ≤ cnt n) : dig n (cnt n - 1) ≠ 48 := by
  by_cases h0 : n = 0
  · subst h0; exact absurd h2 (by decide)
  · obtain ⟨g1, g2, g3⟩ := Dm.digs_log 9 n (by omega) (by omega)
    have hlo : 10 ^ (cnt n - 1) ≤ n := g2
    have hhi : n < 10 ^ cnt n := g3
    have hp : 0 < 10 ^ (cnt n - 1) := Nat.pow_pos (by omega)
    have e : cnt n = cnt n - 1 + 1 := by omega
    rw [e, Nat.pow_succ] at hhi
    have q1 : n / 10 ^ (cnt n - 1) < 10 := Nat.div_lt_of_lt_mul hhi
    have q2 : 1 ≤ n / 10 ^ (cnt n - 1) := (Nat.le_div_iff_mul_le hp).2 (by omega)
    intro hh
    have := dig_nat n (cnt n - 1)
    rw [hh, Nat.mod_eq_of_lt q1] at this
    have e2 : (48 : UInt8).toNat = 48 := rfl
    omega
theorem figs_of {l : List UInt8} (h : allf l) (hn : l ≠ []) : figs l = true := by
  unfold figs; rw [h]; simp [hn]
theorem two_is {a b : List UInt8} (ha : allf a) (hn : a ≠ []) (hl : lead a = false) (h : a.length + b.length ≤ 17) : two a b = Dm.norm (whole (a ++ b)) (-(b.length : Int)) := by
  unfold two; rw [figs_of ha hn, hl, if_pos (by simp [h])]
theorem lead_dstr {n : Nat} (r : List UInt8) (h : n ≤ 99999999) (hr : n = 0 → r = []) : lead (dstr n (cnt n) ++ r) = false := by
  have hc := cnt_pos n
  obtain ⟨c, e⟩ : ∃ c, cnt n = c + 1 := ⟨cnt n - 1, by omega⟩
  by_cases h0 : n = 0
  · rw [hr h0]; subst h0; decide
  · unfold lead
    have ht : dig n c ≠ 48 := by
      by_cases h2 : 2 ≤ cnt n
      · have := top_dig h h2; rw [e] at this; exact this
      · have e1 : cnt n = 1 := by omega
        have ec : c = 0 := by omega
        subst ec
        have hlt := lt_cnt n h
        rw [e1] at hlt
        intro hh
        have := dig_nat n 0
        rw [hh] at this
        have e2 : (48 : UInt8).toNat = 48 := rfl
        simp only [Nat.pow_zero, Nat.div_one, Nat.pow_one] at *
        omega
    rw [e]
    show (_ && decide (dig n c = 48)) = false
    simp [ht]
theorem lead_dsl {n k : Nat} (h : n ≤ 99999999) : lead (dsl n k (max (cnt n) (k + 1) - k)) = false := by
  by_cases h2 : k + 2 ≤ cnt n
  · obtain ⟨a, e⟩ : ∃ a, max (cnt n) (k + 1) - k = a + 1 := ⟨cnt n - k - 1, by omega⟩
    have ht := top_dig h (by omega)
    rw [show cnt n - 1 = a + k by omega] at ht
    rw [e]
    unfold lead
    show (_ && decide (dig n (a + k) = 48)) = false
    simp [ht]
  · unfold lead
    rw [dsl_len, show max (cnt n) (k + 1) - k = 1 by omega]; rfl
theorem uread_body {n : Nat} {x : Int} (h : Dm.ok n x = true) : uread (body n x) = ((n : Int), x, true) := by
  obtain ⟨m1, m2, x1, x2⟩ := Dm.ok_bd h
  have hn : n ≤ 99999999 := by omega
  have hc := cnt_pos n
  have hc9 := cnt_le n
  have hlt := lt_cnt n hn
  unfold body
  by_cases hx : 0 ≤ x
  · rw [if_pos hx]
    obtain ⟨k, rfl⟩ := Int.eq_ofNat_of_zero_le hx
    have ha : allf (dstr n (cnt n) ++ List.replicate k 48) := allf_app (allf_dstr _ _) (allf_rep _)
    have hr : n = 0 → List.replicate k (48 : UInt8) = [] := by
      rintro rfl
      rw [Dm.ok_iff] at h
      have : k = 0 := by omega
      rw [this]; rfl
    show uread (dstr n (cnt n) ++ List.replicate k 48) = _
    unfold uread
    rw [sp_all ha]
    show two _ [] = _
    have hlen : (dstr n (cnt n) ++ List.replicate k (48 : UInt8)).length = cnt n + k := by rw [List.length_append, dstr_len, List.length_replicate]
    rw [two_is ha (by intro e; rw [e] at hlen; simp at hlen; omega) (lead_dstr _ hn hr) (by rw [hlen]; simp; omega), List.append_nil, whole_rep, whole_dstr, Nat.mod_eq_of_lt hlt]
    by_cases h0 : n = 0
    · subst h0
      rw [Dm.ok_iff] at h
      have : k = 0 := by omega
      subst this; rfl
    · have := Dm.norm_pow (m := (n : Int)) (e := 0) k (by omega) (by omega) (by simpa using h)
      simpa using this
  · rw [if_neg hx]
    obtain ⟨k, hk⟩ : ∃ k : Nat, x = -((k : Int)) := ⟨(-x).toNat, by omega⟩
    have ek : (-x).toNat = k := by omega
    rw [ek]
    have ha := allf_dsl n k (max (cnt n) (k + 1) - k)
    have hb := allf_dstr n k
    unfold uread
    rw [sp_point _ ha]
    have hk1 : 1 ≤ k := by omega
    have hbn : dstr n k ≠ [] := by intro e; have := dstr_len n k; rw [e] at this; simp at this; omega
    show (if figs (dstr n k) then two _ (dstr n k) else (0, 0, false)) = _
    rw [figs_of hb hbn, if_pos rfl]
    rw [two_is ha (by intro e; have := dsl_len n k (max (cnt n) (k + 1) - k); rw [e] at this; simp at this; omega) (lead_dsl hn) (by rw [dsl_len, dstr_len]; omega), ← dstr_add, whole_dstr, dstr_len]
    have hbig : n < 10 ^ (max (cnt n) (k + 1) - k + k) := Nat.lt_of_lt_of_le hlt (Nat.pow_le_pow_right (by omega) (by omega))
    rw [Nat.mod_eq_of_lt hbig, ← hk, Dm.norm_self h]
theorem body_head (n : Nat) (x : Int) : ∃ c t, body n x = c :: t ∧ c ≠ 45 := by
  have hc := cnt_pos n
  unfold body
  by_cases hx : 0 ≤ x
  · rw [if_pos hx]
    obtain ⟨c, e⟩ : ∃ c, cnt n = c + 1 := ⟨cnt n - 1, by omega⟩
    rw [e]
    exact ⟨dig n c, _, rfl, (fig_ne (fig_dig n c)).2⟩
  · rw [if_neg hx]
    obtain ⟨a, e⟩ : ∃ a, max (cnt n) ((-x).toNat + 1) - (-x).toNat = a + 1 := ⟨max (cnt n) ((-x).toNat + 1) - (-x).toNat - 1, by omega⟩
    rw [e]
    exact ⟨dig n (a + (-x).toNat), _, rfl, (fig_ne (fig_dig _ _)).2⟩
theorem read_text {m x : Int} (h : Dm.ok m x = true) : read (text m x) = (m, x, true) := by
  unfold text
  by_cases h0 : m < 0
  · obtain ⟨n, rfl⟩ : ∃ n : Nat, m = -(n : Int) := ⟨m.natAbs, by omega⟩
    have hu := uread_body (n := n) (x := x) (by rw [← Dm.ok_neg]; exact h)
    rw [if_pos h0]
    show read (45 :: body (-(n : Int)).natAbs x) = _
    rw [show (-(n : Int)).natAbs = n by omega]
    show Dm.neg3 (uread (body n x)) = _
    rw [hu]; rfl
  · obtain ⟨n, rfl⟩ := Int.eq_ofNat_of_zero_le (show 0 ≤ m by omega)
    have hu := uread_body (n := n) (x := x) h
    obtain ⟨c, t, e, hc⟩ := body_head n x
    rw [if_neg h0]
    show read (body n x) = _
    rw [← hu, e]
    show (if c = 45 then Dm.neg3 (uread t) else uread (c :: t)) = _
    rw [if_neg hc]
theorem text_ne (m x : Int) : text m x ≠ [] := by
  obtain ⟨c, t, e, hc⟩ := body_head m.natAbs x
  unfold text; rw [e]; simp
theorem text_len {m x : Int} (h1 : -8 ≤ x) (h2 : x ≤ 8) : (text m x).length ≤ 41 := by
  have := body_len m.natAbs x h1 h2
  unfold text; split <;> simp <;> omega
end Go.Proofs.Ytldlfmehplemiaa.Tr
