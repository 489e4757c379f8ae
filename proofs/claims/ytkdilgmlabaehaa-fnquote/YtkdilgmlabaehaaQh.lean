/- Plain mathematics: reading a text between quotes up to the first that ends it. -/
import Derived.Test.YtkdilgmlabaehaaQg
namespace Go.Proofs.Ytkdilgmlabaehaa.Qm
/-- what is read up to a quote, and how many bytes -/
def gp : Nat → List UInt8 → List UInt8 → Nat → Option (List UInt8 × Nat)
  | 0, _, _, _ => none
  | _ + 1, [], _, _ => none
  | f + 1, c :: t, acc, k => if c = 34 then some (acc, k + 1) else if (nx (c :: t)).2 = 0 then none else gp f ((c :: t).drop (nx (c :: t)).2) (acc ++ [(nx (c :: t)).1]) (k + (nx (c :: t)).2)
/-- it must be all -/
def fin (o : Option (List UInt8 × Nat)) (n : Nat) : Option (List UInt8) := match o with
  | some (a, k) => if k = n then some a else none
  | none => none
/-- a text that begins with a quote, read -/
def getq (L : List UInt8) : Option (List UInt8 × Nat) := match L with
  | [] => none
  | c :: t => if c = 34 then gp (t.length + 1) t [] 1 else none
theorem nx_quote : (nx (34 :: ([] : List UInt8))).2 = 0 := by decide
theorem nx_q0 (t : List UInt8) : nx (34 :: t) = (0, 0) := by
  have hp : plain 34 = false := rfl
  simp [nx, hp]
theorem hexv_q : hexv 34 = -1 := by decide
theorem hx_end (t : List UInt8) : hx (t ++ [34]) = hx t := by
  match t with
  | [] => rfl
  | [x] =>
    show (if 0 ≤ hexv x ∧ 0 ≤ hexv 34 then _ else ((0, 0) : UInt8 × Nat)) = (0, 0)
    rw [if_neg]
    rw [hexv_q]; omega
  | x :: y :: t => rfl
/-- the quote behind changes nothing, but behind a lone stroke -/
theorem nx_end (m : List UInt8) (h0 : m ≠ []) (h1 : m ≠ [92]) : nx (m ++ [34]) = nx m := by
  match m, h0, h1 with
  | c :: t, _, h1 =>
    cases hp : plain c.toNat
    · by_cases h92 : c = 92
      · subst h92
        match t, h1 with
        | [], h1 => exact absurd rfl h1
        | d :: t2, _ =>
          by_cases d1 : d = 110
          · subst d1; rw [nx_n]; exact nx_n _
          by_cases d2 : d = 34 ∨ d = 92
          · rw [nx_q _ _ d2]; exact nx_q _ _ d2
          by_cases d4 : d = 120
          · subst d4
            rw [nx_x]
            show nx (92 :: 120 :: (t2 ++ [34])) = _
            rw [nx_x, hx_end]
          rw [nx_no d t2 d1 (fun h => d2 (.inl h)) (fun h => d2 (.inr h)) d4]
          exact nx_no d _ d1 (fun h => d2 (.inl h)) (fun h => d2 (.inr h)) d4
      · rw [nx_other _ _ hp h92]; exact nx_other _ _ hp h92
    · rw [nx_plain _ _ hp]; exact nx_plain _ _ hp
theorem gp_end (n : Nat) : ∀ (m acc : List UInt8) (f g k : Nat), m.length ≤ n → m.length ≤ f → m.length + 1 ≤ g → fin (gp g (m ++ [34]) acc k) (k + m.length + 1) = gq f m acc := by
  induction n with
  | zero =>
    intro m acc f g k h1 h2 h3
    have : m = [] := List.eq_nil_of_length_eq_zero (by omega)
    subst this
    obtain ⟨g, rfl⟩ : ∃ g', g = g' + 1 := ⟨g - 1, by simp at h3; omega⟩
    rw [gq_nil]
    simp [gp, fin]
  | succ n ih =>
    intro m acc f g k h1 h2 h3
    match m, h1, h2, h3 with
    | [], _, _, h3 =>
      obtain ⟨g, rfl⟩ : ∃ g', g = g' + 1 := ⟨g - 1, by simp at h3; omega⟩
      rw [gq_nil]
      simp [gp, fin]
    | c :: t, h1, h2, h3 =>
      simp only [List.length_cons] at h1 h2 h3
      obtain ⟨g, rfl⟩ : ∃ g', g = g' + 1 := ⟨g - 1, by omega⟩
      obtain ⟨f, rfl⟩ : ∃ f', f = f' + 1 := ⟨f - 1, by omega⟩
      by_cases hq : c = 34
      · subst hq
        rw [gq_stop _ _ _ (List.cons_ne_nil _ _) (by rw [nx_q0])]
        simp [gp, fin]
      · by_cases hs : c :: t = [92]
        · rw [hs, gq_stop _ _ _ (List.cons_ne_nil _ _) rfl]
          have hn : nx ([92] ++ [34]) = (34, 2) := nx_q 34 [] (.inl rfl)
          have hg : gp (g + 1) ([92] ++ [34]) acc k = gp g [] (acc ++ [34]) (k + 2) := by
            show (if (92 : UInt8) = 34 then _ else if (nx ([92] ++ [34])).2 = 0 then _ else gp g (([92] ++ [34] : List UInt8).drop (nx ([92] ++ [34])).2) (acc ++ [(nx ([92] ++ [34])).1]) (k + (nx ([92] ++ [34])).2)) = _
            rw [hn, if_neg (by decide), if_neg (by decide)]
            rfl
          rw [hg]
          cases g <;> rfl
        · have hn := nx_end (c :: t) (List.cons_ne_nil _ _) hs
          have hle := nx_le (c :: t)
          have hg : gp (g + 1) ((c :: t) ++ [34]) acc k = if (nx (c :: t)).2 = 0 then none else gp g (((c :: t) ++ [34]).drop (nx (c :: t)).2) (acc ++ [(nx (c :: t)).1]) (k + (nx (c :: t)).2) := by
            show (if c = 34 then _ else if (nx ((c :: t) ++ [34])).2 = 0 then _ else gp g (((c :: t) ++ [34]).drop (nx ((c :: t) ++ [34])).2) (acc ++ [(nx ((c :: t) ++ [34])).1]) (k + (nx ((c :: t) ++ [34])).2)) = _
            rw [hn, if_neg hq]
          rw [hg]
          by_cases h0 : (nx (c :: t)).2 = 0
          · rw [if_pos h0, gq_stop _ _ _ (List.cons_ne_nil _ _) h0]; rfl
          · rw [if_neg h0, gq_step _ _ _ (List.cons_ne_nil _ _) h0, List.drop_append_of_le_length hle]
            have hlen : ((c :: t).drop (nx (c :: t)).2).length = t.length + 1 - (nx (c :: t)).2 := by rw [List.length_drop, List.length_cons]
            have hle' : (nx (c :: t)).2 ≤ t.length + 1 := hle
            have := ih ((c :: t).drop (nx (c :: t)).2) (acc ++ [(nx (c :: t)).1]) f g (k + (nx (c :: t)).2) (by omega) (by omega) (by omega)
            rw [← this]
            congr 1
            simp only [List.length_cons]
            omega
/-- what is all read ends with a quote -/
theorem gp_some (g : Nat) : ∀ (l acc a : List UInt8) (k : Nat), gp g l acc k = some (a, k + l.length) → ∃ m, l = m ++ [34] := by
  induction g with
  | zero => intro l acc a k h; cases h
  | succ g ih =>
    intro l acc a k h
    match l with
    | [] => cases h
    | c :: t =>
      have hg : gp (g + 1) (c :: t) acc k = if c = 34 then some (acc, k + 1) else if (nx (c :: t)).2 = 0 then none else gp g ((c :: t).drop (nx (c :: t)).2) (acc ++ [(nx (c :: t)).1]) (k + (nx (c :: t)).2) := rfl
      rw [hg] at h
      by_cases hq : c = 34
      · rw [if_pos hq] at h
        simp only [Option.some.injEq, Prod.mk.injEq, List.length_cons] at h
        have : t = [] := List.eq_nil_of_length_eq_zero (by omega)
        subst this hq
        exact ⟨[], rfl⟩
      · rw [if_neg hq] at h
        by_cases h0 : (nx (c :: t)).2 = 0
        · rw [if_pos h0] at h; cases h
        · rw [if_neg h0] at h
          have hle := nx_le (c :: t)
          have hk : k + (c :: t).length = k + (nx (c :: t)).2 + ((c :: t).drop (nx (c :: t)).2).length := by rw [List.length_drop]; omega
          rw [hk] at h
          obtain ⟨m, hm⟩ := ih _ _ _ _ h
          refine ⟨(c :: t).take (nx (c :: t)).2 ++ m, ?_⟩
          rw [List.append_assoc, ← hm, List.take_append_drop]
theorem qget_getq (L : List UInt8) : qget L = fin (getq L) L.length := by
  match L with
  | [] => rfl
  | c :: t =>
    have hgq : getq (c :: t) = if c = 34 then gp (t.length + 1) t [] 1 else none := rfl
    by_cases hc : c = 34
    · subst hc
      rw [hgq, if_pos rfl]
      by_cases hm : ∃ m, t = m ++ [34]
      · obtain ⟨m, rfl⟩ := hm
        have hq : quoted (34 :: (m ++ [34])) = true := by
          unfold quoted
          simp [List.getD_eq_getElem?_getD]
        have hmid : mid (34 :: (m ++ [34])) = m := by unfold mid; simp
        unfold qget
        rw [if_pos hq, hmid, ← gp_end m.length m [] (34 :: (m ++ [34])).length ((m ++ [34]).length + 1) 1 (Nat.le_refl _) (by simp; omega) (by simp)]
        congr 1
        simp; omega
      · have hf : fin (gp (t.length + 1) t [] 1) (34 :: t).length = none := by
          cases hg : gp (t.length + 1) t [] 1 with
          | none => rfl
          | some p =>
            obtain ⟨a, k⟩ := p
            show (if k = t.length + 1 then some a else none) = none
            rw [if_neg]
            intro hk
            exact hm (gp_some _ t [] a 1 (by rw [hg, hk, Nat.add_comm]))
        rw [hf]
        unfold qget
        rw [if_neg]
        intro hq
        unfold quoted at hq
        simp only [Bool.and_eq_true, decide_eq_true_iff, beq_iff_eq, List.length_cons] at hq
        obtain ⟨⟨h1, _⟩, h3⟩ := hq
        apply hm
        have hne : t ≠ [] := by intro h; subst h; simp at h1
        refine ⟨t.dropLast, ?_⟩
        rw [Nat.add_sub_cancel] at h3
        have h4 : t.getLast hne = 34 := by
          rw [List.getLast_eq_getElem]
          have : (34 :: t).getD t.length 0 = t[t.length - 1]'(by have := List.length_pos_iff.2 hne; omega) := by
            obtain ⟨n, hn⟩ : ∃ n, t.length = n + 1 := ⟨t.length - 1, by have := List.length_pos_iff.2 hne; omega⟩
            rw [List.getD_eq_getElem?_getD]
            simp only [hn, List.getElem?_cons_succ, Nat.add_sub_cancel]
            rw [List.getElem?_eq_getElem (by omega)]
            rfl
          rw [← this]; exact h3
        rw [← h4, List.dropLast_concat_getLast]
    · rw [hgq, if_neg hc]
      unfold qget
      rw [if_neg]
      · rfl
      · intro hq
        unfold quoted at hq
        simp only [Bool.and_eq_true, decide_eq_true_iff, beq_iff_eq] at hq
        exact hc hq.1.2
end Go.Proofs.Ytkdilgmlabaehaa.Qm
