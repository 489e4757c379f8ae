/- Contracts: QuoteGet of both sides. -/
import Derived.Test.YtkdilgmlabaehaaQuoV
namespace Go.Proofs.Ytkdilgmlabaehaa
open Go.RowKit

theorem byteInfo : (Try.prog.info? 5).map (fun i => (i.zero, i.size, i.bytes)) = some (some (.int .u8 0), 1, 1) := by kernel_rfl
/-- a text and a truth, as a call hands them back -/
abbrev sres (o : Option (List UInt8)) : Ending := .returned (.tuple #[.string ⟨(o.getD []).toArray⟩, .bool o.isSome])
theorem own_below {W W' : World} {base : Nat} {e : TypeId} {size : Nat} {v : Value} {n : Nat} {xs : List Value} (h : W.ownsRow base e size v n xs) (hb : Below W.heap.size W W') : W'.ownsRow base e size v n xs := by
  obtain ⟨h1, h2⟩ := h
  refine ⟨h1, ?_⟩
  rcases h2 with h2 | ⟨g, cap, cur, e1, e2, e3, e4, e5, e6, e7⟩
  · exact .inl h2
  · exact .inr ⟨g, cap, cur, e1, e2, by rw [hb.block g (Array.getElem?_eq_some_iff.1 e3).1]; exact e3, e4, e5, e6, e7⟩
theorem grow_below {w W1 W2 : World} {B : Nat} {e : TypeId} {size : Nat} {v : Value} {n : Nat} {xs : List Value} {o : Obj} (hB : Below B w W1) (hown : W1.ownsRow B e size v n xs) (hg : (W1.alloc o).grownBy W2 v.ownBlock) (hz : B ≤ W1.heap.size) : Below B w W2 :=
  (hB.alloc hz o).grown hg (by simp; omega) (fun k hk => (hown.lt k hk).1)
theorem conv_own {W : World} {base n : Nat} {v : Value} {acc : List UInt8} (h : W.ownsRow base 5 1 v n (Lib.byteCells acc)) (hn : n = acc.length) :
    (convert 26 9 v).run Try.prog W = .ok (.string ⟨acc.toArray⟩) W := by
  subst hn
  obtain ⟨h1, h2⟩ := h
  rcases h2 with ⟨rfl, h0⟩ | ⟨g, cap, cur, rfl, e2, e3, e4, e5, e6, e7⟩
  · have : acc = [] := List.eq_nil_of_length_eq_zero h0
    subst this
    exact run_convert_bytes_nil _ 26 5 Try.underlying26 Try.underlying5 0 0 9 Try.underlying9
  · have := run_convert_bytes_arg (P := Try.prog) W 26 5 Try.underlying26 Try.underlying5 g 0 acc.length cap (acc.map fun b => (b.toNat : Int)) (by simp) (fun i hi => by
      rw [Nat.zero_add]
      have h := World.ownsRow.cellAt ⟨h1, .inr ⟨g, cap, cur, rfl, e2, e3, e4, e5, e6, e7⟩⟩ i (by omega)
      rw [h]
      simp [Lib.byteCells, hi]) 9 Try.underlying9
    rw [this]
    have e : (acc.map fun b : UInt8 => (b.toNat : Int)).map (fun n => UInt8.ofNat n.toNat) = acc := by
      rw [List.map_map]
      conv => rhs; rw [← List.map_id acc]
      apply List.map_congr_left
      intro b _
      simp
    unfold strOfNums
    rw [e]
theorem extract_mid (s : ByteArray) (n : Nat) (hn : s.size = n + 1) : (s.extract 1 n).data.toList = Qm.mid s.data.toList := by
  rw [Qm.mid, Qm.len_eq, hn]
  simp [ByteArray.data_extract]

/-- what stands in the way of a text between quotes -/
theorem quoted_no (s : ByteArray) (n : Nat) (hn : s.size = n + 1) (h : n = 0 ∨ s[0] ≠ 34 ∨ s[n] ≠ 34) : Qm.qget s.data.toList = none := by
  have e0 : s.data.toList.getD 0 0 = s[0] := by rw [List.getD_eq_getElem?_getD, List.getElem?_eq_getElem (by rw [Qm.len_eq]; omega)]; rfl
  have en : s.data.toList.getD n 0 = s[n] := by rw [List.getD_eq_getElem?_getD, List.getElem?_eq_getElem (by rw [Qm.len_eq]; omega)]; rfl
  unfold Qm.qget
  rw [if_neg]
  unfold Qm.quoted
  rw [Qm.len_eq, hn, Nat.add_sub_cancel, e0, en]
  simp only [Bool.and_eq_true, decide_eq_true_iff, beq_iff_eq]
  rintro ⟨⟨h1, h2⟩, h3⟩
  rcases h with h | h | h
  · omega
  · exact h h2
  · exact h h3
theorem quoted_yes (s : ByteArray) (n : Nat) (hn : s.size = n + 1) (h1 : n ≠ 0) (h2 : s[0] = 34) (h3 : s[n] = 34) : Qm.qget s.data.toList = Qm.gq s.size (Qm.mid s.data.toList) [] := by
  have e0 : s.data.toList.getD 0 0 = s[0] := by rw [List.getD_eq_getElem?_getD, List.getElem?_eq_getElem (by rw [Qm.len_eq]; omega)]; rfl
  have en : s.data.toList.getD n 0 = s[n] := by rw [List.getD_eq_getElem?_getD, List.getElem?_eq_getElem (by rw [Qm.len_eq]; omega)]; rfl
  unfold Qm.qget
  rw [if_pos, Qm.len_eq]
  unfold Qm.quoted
  rw [Qm.len_eq, hn, Nat.add_sub_cancel, e0, en, h2, h3]
  simp; omega

theorem quoted_short (s : ByteArray) (h : s.size < 2) : Qm.qget s.data.toList = none := by
  unfold Qm.qget Qm.quoted
  rw [Qm.len_eq]
  have : decide (2 ≤ s.size) = false := by simp; omega
  rw [this]; rfl

set_option maxHeartbeats 4000000 in
theorem sQuoteGet_any (s : ByteArray) (w : World) (hs : s.size ≤ 90000000) :
    Calls Try.prog 9 #[.string s] w fun e w' => e = sres (Qm.qget s.data.toList) ∧ Below w.heap.size w w' := by
  by_cases h0 : s.size < 2
  · have h0' : (s.size : Int) < 2 := by omega
    rw [quoted_short s h0]
    go_enter Try.func9, Try.ntmps9
    go_wp2_with fail
    go_ret2
    exact ⟨rfl, Below.refl _ _⟩
  · obtain ⟨n, hn⟩ : ∃ n, s.size = n + 1 := ⟨s.size - 1, by omega⟩
    by_cases a0 : s[0] = 34
    · by_cases a1 : s[n] = 34
      · have e0 : ((s[0].toNat : Int) != 34) = false := eq_int' a0
        have e1 : ((s[n].toNat : Int) != 34) = false := eq_int' a1
        have Q : Hid (Qm.qget s.data.toList = Qm.gq s.size (Qm.mid s.data.toList) []) := quoted_yes s n hn (by omega) a0 a1
        have HM : Hid ((s.extract 1 n).data.toList = Qm.mid s.data.toList) := extract_mid s n hn
        have HMs : Hid ((Qm.mid s.data.toList).length = n - 1) := by unfold Hid; rw [Qm.mid_length, Qm.len_eq]; omega
        obtain ⟨i0, hi, hz0, hz1, hz2⟩ := info_parts byteInfo
        clear a0 a1
        go_enter Try.func9, Try.ntmps9
        go_wp2_with fail
        generalize hm : s.extract 1 n = m at *
        have hms : m.size = n - 1 := by rw [← Qm.len_eq, HM.out, HMs.out]
        clear hm
        go_loopw [5, 6] (fun v i wr => ∃ (at_ f : Nat) (acc : List UInt8), at_ ≤ m.size ∧ i = .int .i64 at_ ∧ wr.ownsRow w.heap.size 5 1 v acc.length (Lib.byteCells acc) ∧ Qm.qget s.data.toList = Qm.gq f (m.data.toList.drop at_) acc ∧ m.size ≤ at_ + f ∧ acc.length ≤ at_ ∧ Below w.heap.size w wr) (fun _ i _ => m.size - (intOf i).toNat)
        case atStart =>
          refine ⟨0, s.size, [], Nat.zero_le _, rfl, ?_, by rw [Q.out, List.drop_zero, HM.out], by omega, Nat.le_refl _, (by (repeat' (first | assumption | exact Below.refl _ _ | refine Below.alloc ?_ ?_ _ | refine Below.setCell ?_ ?_ _ | refine Below.drew ?_ | refine below_drewN ?_ _)) <;> (first | omega | (simp <;> omega)))⟩
          exact World.ownsRow_lit w #[] 0 (Nat.le_refl _) (by unfold maxLen; omega) rfl
        case round =>
          obtain ⟨k, f, acc, hk, rfl, hown, hq, hf, hal, hB⟩ := hrel
          have HQ : Hid (Qm.qget s.data.toList = Qm.gq f (m.data.toList.drop k) acc) := hq
          clear hq
          have hBz := hB.size
          by_cases hlt : k < m.size
          · have hne : Hid (m.data.toList.drop k ≠ []) := by unfold Hid; rw [Qm.drop_at m k hlt]; exact List.cons_ne_nil _ _
            have hnle := Qm.nx_le (m.data.toList.drop k)
            rw [List.length_drop, Qm.len_eq] at hnle
            obtain ⟨r, hr⟩ : ∃ r, r = Qm.nx (m.data.toList.drop k) := ⟨_, rfl⟩
            obtain ⟨b, c⟩ := r
            have HR : Hid ((b, c) = Qm.nx (m.data.toList.drop k)) := hr
            rw [← hr] at hnle
            clear hr
            have hc : c ≤ m.size - k := hnle
            clear hnle
            have hklt : (k : Int) < m.size := by omega
            go_wp2_with fail
            refine (l2Next_any m k _ hlt (by omega)).mono ?_
            rintro e w1 ⟨rfl, hb1⟩
            rw [← HR.out]
            have hown1 := own_below hown hb1
            have hB1 := hB.trans (hb1.mono hBz)
            have hz1' := hb1.size
            by_cases hc0 : c = 0
            · subst hc0
              go_wp2_with fail
              go_ret2
              exact ⟨by rw [HQ.out, Qm.gq_stop _ _ _ hne.out (by rw [← HR.out])]; rfl, hB1⟩
            · have hc0' : ((c : Int) == 0) = false := by simp; omega
              go_wp2_with (at_builtin; refine wpList_append_own _ rfl _ _ 26 rfl w.heap.size 5 i0 (.int .u8 0) 1 1 Try.underlying26 hi hz0 hz1 hz2 rfl (by decide) _ _ _ rfl (hown1.alloc _) ⟨w1.heap.size, 0, none⟩ 1 1 [.int .u8 b.toNat] rfl rfl (cell_one_new _ _ _) (fun x hx => by simp at hx; subst hx; rfl) (by unfold maxLen; omega) (by omega) (by simp; omega) ?_; intro v' w2 hown2 hgrow2 hnil2)
              have hB2 : Below w.heap.size w w2 := grow_below hB1 hown1 hgrow2 (by omega)
              clear hgrow2 hnil2
              have hcZ : (k : Int) + c ≤ m.size := by omega
              obtain ⟨f', hf'⟩ : ∃ f', f = f' + 1 := ⟨f - 1, by omega⟩
              go_roundw
              case rel =>
                refine ⟨k + c, f', acc ++ [b], by omega, by go_num, ?_, ?_, by omega, by simp; omega, hB2⟩
                · rw [Lib.byteCells_append, List.length_append]; exact hown2
                · rw [HQ.out, hf', Qm.gq_step _ _ _ hne.out (by rw [← HR.out]; exact hc0), ← HR.out, List.drop_drop]
              case measure => simp [intOf]; omega
          · have hk2 : k = m.size := by omega
            have HD : Hid (m.data.toList.drop k = []) := Qm.drop_end m k hlt
            have hcv := conv_own hown rfl
            go_wp2_with fail
            go_ret2
            exact ⟨by rw [HQ.out, HD.out, Qm.gq_nil]; rfl, hB⟩
      · have e0 : ((s[0].toNat : Int) != 34) = false := eq_int' a0
        have e1 : ((s[n].toNat : Int) != 34) = true := ne_int' a1
        rw [quoted_no s n hn (.inr (.inr a1))]
        clear a0 a1
        go_enter Try.func9, Try.ntmps9
        go_wp2_with fail
        go_ret2
        exact ⟨rfl, Below.refl _ _⟩
    · have e0 : ((s[0].toNat : Int) != 34) = true := ne_int' a0
      rw [quoted_no s n hn (.inr (.inl a0))]
      clear a0
      go_enter Try.func9, Try.ntmps9
      go_wp2_with fail
      go_ret2
      exact ⟨rfl, Below.refl _ _⟩

theorem gp_le (f : Nat) : ∀ (l acc a : List UInt8) (k n : Nat), Qm.gp f l acc k = some (a, n) → k + 1 ≤ n ∧ n ≤ k + l.length := by
  induction f with
  | zero => intro l acc a k n h; cases h
  | succ f ih =>
    intro l acc a k n h
    match l with
    | [] => cases h
    | c :: t =>
      have hg : Qm.gp (f + 1) (c :: t) acc k = if c = 34 then some (acc, k + 1) else if (Qm.nx (c :: t)).2 = 0 then none else Qm.gp f ((c :: t).drop (Qm.nx (c :: t)).2) (acc ++ [(Qm.nx (c :: t)).1]) (k + (Qm.nx (c :: t)).2) := rfl
      rw [hg] at h
      by_cases hq : c = 34
      · rw [if_pos hq] at h
        simp only [Option.some.injEq, Prod.mk.injEq] at h
        simp only [List.length_cons]
        omega
      · rw [if_neg hq] at h
        by_cases h0 : (Qm.nx (c :: t)).2 = 0
        · rw [if_pos h0] at h; cases h
        · rw [if_neg h0] at h
          have h1 := ih _ _ _ _ _ h
          have hle := Qm.nx_le (c :: t)
          rw [List.length_drop] at h1
          omega
theorem getq_le (s : ByteArray) (a : List UInt8) (k : Nat) (h : Qm.getq s.data.toList = some (a, k)) : 1 ≤ k ∧ k ≤ s.size := by
  rw [← Qm.len_eq]
  generalize s.data.toList = L at *
  match L with
  | [] => cases h
  | c :: t =>
    have hgq : Qm.getq (c :: t) = if c = 34 then Qm.gp (t.length + 1) t [] 1 else none := rfl
    rw [hgq] at h
    by_cases hc : c = 34
    · rw [if_pos hc] at h
      have := gp_le _ _ _ _ _ _ h
      simp only [List.length_cons]
      omega
    · rw [if_neg hc] at h; cases h
set_option maxHeartbeats 1000000 in
theorem iQuoteGet_any (s : ByteArray) (w : World) (hs : s.size ≤ 90000000) :
    Calls Try.prog 10 #[.string s] w fun e w' => e = sres (Qm.qget s.data.toList) ∧ Below w.heap.size w w' := by
  have Q : Hid (Qm.qget s.data.toList = Qm.fin (Qm.getq s.data.toList) s.size) := by unfold Hid; rw [Qm.qget_getq, Qm.len_eq]
  have HG := fun W => get_any s W hs
  have HZ : Hid (∀ a k, Qm.getq s.data.toList = some (a, k) → 1 ≤ k ∧ k ≤ s.size) := fun a k h => getq_le s a k h
  generalize Qm.getq s.data.toList = g at *
  cases g with
  | none =>
    have R : Hid (Qm.qget s.data.toList = none) := by unfold Hid; rw [Q.out]; rfl
    go_enter Try.func10, Try.ntmps10
    go_wp2_with fail
    refine (paperQuoting_any _).mono ?_
    rintro e w1 ⟨rfl, hb1⟩
    go_wp2_with fail
    refine (HG _).mono ?_
    rintro e w2 ⟨rfl, hb2⟩
    have hB2 := hb1.trans (hb2.mono hb1.size)
    go_wp2_with fail
    go_ret2
    exact ⟨by rw [R.out]; rfl, hB2⟩
  | some p =>
    obtain ⟨a, k⟩ := p
    obtain ⟨hk1, hk2⟩ := HZ.out a k rfl
    by_cases hk : k = s.size
    · have R : Hid (Qm.qget s.data.toList = some a) := by unfold Hid; rw [Q.out]; show (if k = s.size then some a else none) = _; rw [if_pos hk]
      have g1 : ((k : Int) == 0) = false := by simp; omega
      have g2 : ¬ (k : Int) < (s.size : Int) := by omega
      clear hk HZ Q
      go_enter Try.func10, Try.ntmps10
      go_wp2_with fail
      refine (paperQuoting_any _).mono ?_
      rintro e w1 ⟨rfl, hb1⟩
      go_wp2_with fail
      refine (HG _).mono ?_
      rintro e w2 ⟨rfl, hb2⟩
      have hB2 := hb1.trans (hb2.mono hb1.size)
      go_wp2_with fail
      go_ret2
      exact ⟨by rw [R.out]; rfl, hB2⟩
    · have R : Hid (Qm.qget s.data.toList = none) := by unfold Hid; rw [Q.out]; show (if k = s.size then some a else none) = _; rw [if_neg hk]
      have g1 : ((k : Int) == 0) = false := by simp; omega
      have g2 : (k : Int) < (s.size : Int) := by omega
      clear hk HZ Q
      go_enter Try.func10, Try.ntmps10
      go_wp2_with fail
      refine (paperQuoting_any _).mono ?_
      rintro e w1 ⟨rfl, hb1⟩
      go_wp2_with fail
      refine (HG _).mono ?_
      rintro e w2 ⟨rfl, hb2⟩
      have hB2 := hb1.trans (hb2.mono hb1.size)
      go_wp2_with fail
      go_ret2
      exact ⟨by rw [R.out]; rfl, hB2⟩
end Go.Proofs.Ytkdilgmlabaehaa
