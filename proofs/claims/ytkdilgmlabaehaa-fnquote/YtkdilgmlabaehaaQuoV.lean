/- Contracts: a text between quotes that a text begins with, of the program. -/
import Derived.Test.YtkdilgmlabaehaaQuoR
import Derived.Test.YtkdilgmlabaehaaQuoU
namespace Go.Proofs.Ytkdilgmlabaehaa
open Go.RowKit
theorem pre_one (s : ByteArray) (h : 0 < s.size) : pre s ⟨#[34]⟩ = decide (s[0] = 34) := by
  have D0 : s.data.toList = s[0] :: s.data.toList.drop 1 := Qm.drop_at s 0 h
  have hx : (s.extract 0 1).data.toList = [s[0]] := by
    rw [ByteArray.data_extract, Array.toList_extract, List.extract_eq_take_drop, List.drop_zero, D0]; rfl
  unfold pre
  rw [show (⟨#[34]⟩ : ByteArray).size = 1 from rfl, decide_eq_true (by omega), ByteArray.toList_eq, ByteArray.toList_eq, hx]
  show ([s[0]] == [34]) = _
  rw [Bool.eq_iff_iff]
  simp
theorem pre_none (s : ByteArray) (h : ¬ 0 < s.size) : pre s ⟨#[34]⟩ = false := by
  unfold pre
  rw [show (⟨#[34]⟩ : ByteArray).size = 1 from rfl, decide_eq_false (by omega)]; rfl
/-- a text and how many bytes it is written with, as a call hands them back -/
abbrev gres (o : Option (List UInt8 × Nat)) : Ending := .returned (.tuple #[.string ⟨((o.map Prod.fst).getD []).toArray⟩, .int .i64 ((o.map Prod.snd).getD 0)])
theorem extract_from (s : ByteArray) (k : Nat) : (s.extract k s.size).data.toList = s.data.toList.drop k := by
  rw [ByteArray.data_extract, Array.toList_extract, List.extract_eq_take_drop, List.take_of_length_le]
  rw [List.length_drop, Qm.len_eq]; exact Nat.le_refl _
theorem rowF_below {W W' : World} {base : Nat} {e : TypeId} {size : Nat} {v : Value} {n : Nat} {xs : List Value} (h : W.ownsRowF base e size v n xs) (hb : Below W.heap.size W W') : W'.ownsRowF base e size v n xs := by
  obtain ⟨h1, h2⟩ := h
  rcases h2 with h2 | ⟨g, cap, cur, fz, e1, e2, e3, e4⟩
  · exact ⟨h1, .inl h2⟩
  · exact ⟨h1, .inr ⟨g, cap, cur, fz, e1, e2, (hb.block g (Array.getElem?_eq_some_iff.1 e3).1).trans e3, e4⟩⟩
theorem holds_below {B k : Nat} {acc : List UInt8} {W W' : World} (h : Holds B k acc W) (hb : Below W.heap.size W W') : Holds B k acc W' := by
  have hlt := holds_lt h
  rcases h with ⟨hB, v, hv, hown, hne⟩ | ⟨hB, v, hv, hown, hne⟩
  · exact .inl ⟨hB, v, (hb.block k hlt).trans hv, rowF_below hown hb, hne⟩
  · exact .inr ⟨hB, v, (hb.block k hlt).trans hv, rowF_below hown hb, hne⟩
set_option maxHeartbeats 4000000 in
theorem get_any (s : ByteArray) (w : World) (hs : s.size ≤ 90000000) :
    Calls Try.prog 22 #[pq, .string s] w fun e w' => e = gres (Qm.getq s.data.toList) ∧ Below w.heap.size w w' := by
  have HPx := hasPrefix_any s ⟨#[34]⟩ (w.alloc (.cells #[.string ⟨#[92, 120]⟩, .string ⟨#[34, 92, 110]⟩, .string ⟨#[34, 92, 10]⟩, .int .i64 3] 38))
  by_cases hq : 0 < s.size ∧ pre s ⟨#[34]⟩ = true
  · obtain ⟨h0, hq⟩ := hq
    have h34 : s[0] = 34 := by rw [pre_one s h0] at hq; simpa using hq
    have Q : Hid (Qm.getq s.data.toList = Qm.gp s.size (s.data.toList.drop 1) [] 1) := by
      unfold Hid
      have D0 : s.data.toList = s[0] :: s.data.toList.drop 1 := Qm.drop_at s 0 h0
      have hl : (s.data.toList.drop 1).length + 1 = s.size := by rw [List.length_drop, Qm.len_eq]; omega
      conv => lhs; rw [D0, h34]
      show (if (34 : UInt8) = 34 then Qm.gp ((s.data.toList.drop 1).length + 1) (s.data.toList.drop 1) [] 1 else none) = _
      rw [if_pos rfl, hl]
    rw [hq] at HPx
    clear h34 hq
    have hq0 := qbox_new w
    have hB0 := (Below.refl _ w).alloc (Nat.le_refl _) (.cells #[.string ⟨#[92, 120]⟩, .string ⟨#[34, 92, 110]⟩, .string ⟨#[34, 92, 10]⟩, .int .i64 3] 38)
    have h0' : Holds (w.heap.size + 1) (w.heap.size + 1) [] ((w.alloc (.cells #[.string ⟨#[92, 120]⟩, .string ⟨#[34, 92, 110]⟩, .string ⟨#[34, 92, 10]⟩, .int .i64 3] 38)).alloc (.cells #[.pointer none, .slice none 0 0] 59)) := by
      have := Lib.IsBuilderF.of (Lib.fresh_isBuilder 59 5 (w.alloc (.cells #[.string ⟨#[92, 120]⟩, .string ⟨#[34, 92, 110]⟩, .string ⟨#[34, 92, 10]⟩, .int .i64 3] 38)))
      simp at this
      exact this
    have b0 : Below (w.heap.size + 1) (w.alloc (.cells #[.string ⟨#[92, 120]⟩, .string ⟨#[34, 92, 110]⟩, .string ⟨#[34, 92, 10]⟩, .int .i64 3] 38)) ((w.alloc (.cells #[.string ⟨#[92, 120]⟩, .string ⟨#[34, 92, 110]⟩, .string ⟨#[34, 92, 10]⟩, .int .i64 3] 38)).alloc (.cells #[.pointer none, .slice none 0 0] 59)) := (Below.refl _ _).alloc (by simp) _
    have hsz : w.heap.size + 1 ≤ (w.alloc (.cells #[.string ⟨#[92, 120]⟩, .string ⟨#[34, 92, 110]⟩, .string ⟨#[34, 92, 10]⟩, .int .i64 3] 38)).heap.size := by simp
    go_enter Try.func22, Try.ntmps22
    go_wp2_with fail
    refine HPx.mono ?_
    rintro e w' ⟨rfl, hw⟩
    subst w'
    go_wp2_with fail
    generalize w.alloc (.cells #[.string ⟨#[92, 120]⟩, .string ⟨#[34, 92, 110]⟩, .string ⟨#[34, 92, 10]⟩, .int .i64 3] 38) = W0 at *
    have HQ : Hid (∀ W, Below (w.heap.size + 1) W0 W → Qbox w.heap.size W) := fun W h => (h.block _ (by omega)).trans hq0
    have HB : Hid (∀ W, Below (w.heap.size + 1) W0 W → Below w.heap.size w W) := fun W h => hB0.trans (h.mono (by omega))
    clear hq0 hB0
    go_loopw [7] (fun i wr => ∃ (k f : Nat) (acc : List UInt8), i = .int .i64 k ∧ k ≤ s.size ∧ s.size ≤ k + f ∧ acc.length ≤ k ∧ Qm.getq s.data.toList = Qm.gp f (s.data.toList.drop k) acc k ∧ Holds (w.heap.size + 1) (w.heap.size + 1) acc wr ∧ Below (w.heap.size + 1) W0 wr) (fun i _ => s.size - (intOf i).toNat)
    case atStart => exact ⟨1, s.size, [], rfl, by omega, by omega, by simp, Q.out, h0', b0⟩
    case round =>
      obtain ⟨k, f, acc, rfl, hk, hf, hal, hg, hH, hB⟩ := hrel
      have HG : Hid (Qm.getq s.data.toList = Qm.gp f (s.data.toList.drop k) acc k) := hg
      clear hg
      have hz := hB.size
      obtain ⟨c0, c1, c2, c3⟩ := qbox_cells (HQ.out _ hB)
      by_cases hlt : k < s.size
      · have hkl : (k : Int) < (s.size : Int) := by omega
        have DK : Hid (s.data.toList.drop k = s[k] :: s.data.toList.drop (k + 1)) := Qm.drop_at s k hlt
        obtain ⟨f', hf'⟩ : ∃ f', f = f' + 1 := ⟨f - 1, by omega⟩
        by_cases h34 : s[k] = 34
        · have e34 : ((s[k].toNat : Int) == 34) = true := eq_int h34
          have R : Hid (Qm.getq s.data.toList = some (acc, k + 1)) := by
            unfold Hid
            rw [HG.out, hf', DK.out, h34]
            show (if (34 : UInt8) = 34 then some (acc, k + 1) else _) = _
            rw [if_pos rfl]
          clear h34
          go_wp2_with fail
          refine (bString _ _ _ _ hH (by omega)).mono ?_
          rintro e w3 ⟨rfl, h3, b3, k3⟩
          have hBe := HB.out _ (hB.trans b3)
          go_wp2_with fail
          go_ret2
          exact ⟨by rw [R.out]; rfl, hBe⟩
        · have e34 : ((s[k].toNat : Int) == 34) = false := ne_int h34
          have hnle := Qm.nx_le (s.data.toList.drop k)
          rw [List.length_drop, Qm.len_eq] at hnle
          obtain ⟨r, hr⟩ : ∃ r, r = Qm.nx (s.data.toList.drop k) := ⟨_, rfl⟩
          obtain ⟨b, c⟩ := r
          have HR : Hid (Qm.nx (s.extract k s.size).data.toList = (b, c)) := by unfold Hid; rw [extract_from]; exact hr.symm
          have HN : Hid ((b, c) = Qm.nx (s.data.toList.drop k)) := hr
          rw [← hr] at hnle
          have hc : c ≤ s.size - k := hnle
          have HS : Hid (Qm.getq s.data.toList = if c = 0 then none else Qm.gp f' (s.data.toList.drop (k + c)) (acc ++ [b]) (k + c)) := by
            unfold Hid
            rw [HG.out, hf']
            have := HN.out
            rw [DK.out] at this ⊢
            show (if s[k] = 34 then _ else if (Qm.nx (s[k] :: s.data.toList.drop (k + 1))).2 = 0 then none else Qm.gp f' ((s[k] :: s.data.toList.drop (k + 1)).drop (Qm.nx (s[k] :: s.data.toList.drop (k + 1))).2) (acc ++ [(Qm.nx (s[k] :: s.data.toList.drop (k + 1))).1]) (k + (Qm.nx (s[k] :: s.data.toList.drop (k + 1))).2)) = _
            rw [if_neg h34, ← this, ← DK.out, List.drop_drop]
          clear hnle hr h34 HN
          have HC := fun W => getByte_any (s.extract k s.size) W (by rw [ByteArray.size_extract]; omega) (by rw [ByteArray.size_extract]; omega)
          rw [HR.out] at HC
          have hS0 : HeldB W0 w.heap.size wr := ⟨⟨c0, c1, c2, c3⟩, hB⟩
          clear c0 c1 c2 c3
          go_wp2_with fail
          refine wp_region_held_drew (S := fun w' => HeldB W0 w.heap.size w') (by kernel_rfl) hS0.drew (fun hHeld => ?_)
          refine wpAnyH_take (i := 0) (v := pq) rfl (by kernel_rfl) (by kernel_rfl) (by kernel_rfl) (fun _ _ _ h => h) (Or.inl ⟨by rfl, ?_⟩) (by assumption) ?_
          · intro w hSw
            (try dsimp only at hSw)
            go_simp
          (try simp only [Act.put, List.getElem_toArray, List.getElem_cons_zero, List.setIfInBounds_toArray, List.set_cons_zero, List.set_cons_succ])
          refine wpAnyH_take (i := 1) (v := .string s) rfl (by kernel_rfl) (by kernel_rfl) (by kernel_rfl) (fun _ _ _ h => h) (Or.inl ⟨by rfl, ?_⟩) (by assumption) ?_
          · intro w hSw
            (try dsimp only at hSw)
            go_simp
          (try simp only [Act.put, List.getElem_toArray, List.getElem_cons_zero, List.getElem_cons_succ, List.setIfInBounds_toArray, List.set_cons_zero, List.set_cons_succ])
          refine wpAnyH_take (i := 2) (v := .int .i64 k) rfl (by kernel_rfl) (by kernel_rfl) (by kernel_rfl) (fun _ _ _ h => h) (Or.inl ⟨by rfl, ?_⟩) (by assumption) ?_
          · intro w hSw
            (try dsimp only at hSw)
            go_simp
          (try simp only [Act.put, List.getElem_toArray, List.getElem_cons_zero, List.getElem_cons_succ, List.setIfInBounds_toArray, List.set_cons_zero, List.set_cons_succ])
          refine wpAnyH_take (i := 3) (v := .string (s.extract k s.size)) rfl (by kernel_rfl) (by kernel_rfl) (by kernel_rfl) (fun _ _ _ h => h) (Or.inl ⟨by rfl, ?_⟩) (by assumption) ?_
          · intro w hSw
            (try dsimp only at hSw)
            go_simp
          (try simp only [Act.put, List.getElem_toArray, List.getElem_cons_zero, List.getElem_cons_succ, List.setIfInBounds_toArray, List.set_cons_zero, List.set_cons_succ])
          refine wpAnyH_ready (rs := [4]) (by kernel_rfl) (by simp) ?_
          refine AllReadyH.cons rfl (fun K hK => ?_) AllReadyH.nil
          go_simp
          refine (HC _).mono ?_
          rintro r w2 ⟨rfl, hb2⟩
          have hH2 : Holds (w.heap.size + 1) (w.heap.size + 1) acc w2 := holds_below (show Holds _ _ _ wr.drew from hH) hb2
          have hS := HeldB.grow (by assumption) (hb2.mono (by show _ ≤ wr.heap.size; omega))
          go_wp2_with fail
          refine hK.out _ _ hS (fun hHeld => ?_)
          clear hK K hS
          refine wpAnyH_take (i := 5) (v := .tuple #[.int .u8 b.toNat, .int .i64 c]) rfl (by kernel_rfl) (by kernel_rfl) (by kernel_rfl) (fun _ _ _ h => h) (Or.inl ⟨by rfl, ?_⟩) (by assumption) ?_
          · intro w hSw
            (try dsimp only at hSw)
            go_simp
          (try simp only [Act.put, List.getElem_toArray, List.getElem_cons_zero, List.getElem_cons_succ, List.setIfInBounds_toArray, List.set_cons_zero, List.set_cons_succ])
          refine wpAnyH_take (i := 6) (v := .int .u8 b.toNat) rfl (by kernel_rfl) (by kernel_rfl) (by kernel_rfl) (fun _ _ _ h => h) (Or.inl ⟨by rfl, ?_⟩) (by assumption) ?_
          · intro w hSw
            (try dsimp only at hSw)
            go_simp
          (try simp only [Act.put, List.getElem_toArray, List.getElem_cons_zero, List.getElem_cons_succ, List.setIfInBounds_toArray, List.set_cons_zero, List.set_cons_succ])
          refine wpAnyH_take (i := 7) (v := .int .i64 c) rfl (by kernel_rfl) (by kernel_rfl) (by kernel_rfl) (fun _ _ _ h => h) (Or.inl ⟨by rfl, ?_⟩) (by assumption) ?_
          · intro w hSw
            (try dsimp only at hSw)
            go_simp
          (try simp only [Act.put, List.getElem_toArray, List.getElem_cons_zero, List.getElem_cons_succ, List.setIfInBounds_toArray, List.set_cons_zero, List.set_cons_succ])
          refine wpAnyH_take (i := 8) (v := .int .u8 b.toNat) rfl (by kernel_rfl) (by kernel_rfl) (by kernel_rfl) (fun _ _ _ h => h) (Or.inl ⟨by rfl, ?_⟩) (by assumption) ?_
          · intro w hSw
            (try dsimp only at hSw)
            go_simp
          (try simp only [Act.put, List.getElem_toArray, List.getElem_cons_zero, List.getElem_cons_succ, List.setIfInBounds_toArray, List.set_cons_zero, List.set_cons_succ])
          refine wpAnyH_take (i := 9) (v := .int .i64 c) rfl (by kernel_rfl) (by kernel_rfl) (by kernel_rfl) (fun _ _ _ h => h) (Or.inl ⟨by rfl, ?_⟩) (by assumption) ?_
          · intro w hSw
            (try dsimp only at hSw)
            go_simp
          (try simp only [Act.put, List.getElem_toArray, List.getElem_cons_zero, List.getElem_cons_succ, List.setIfInBounds_toArray, List.set_cons_zero, List.set_cons_succ])
          refine wpAnyH_done (by kernel_rfl) ?_ _
          have hB2 := hHeld.2
          have hz2 := hB2.size
          by_cases hc0 : c = 0
          · have R : Hid (Qm.getq s.data.toList = none) := by unfold Hid; rw [HS.out, if_pos hc0]
            subst hc0
            have hBe := HB.out _ hB2
            go_wp2_with fail
            go_ret2
            exact ⟨by rw [R.out]; rfl, hBe⟩
          · have R : Hid (Qm.getq s.data.toList = Qm.gp f' (s.data.toList.drop (k + c)) (acc ++ [b]) (k + c)) := by unfold Hid; rw [HS.out, if_neg hc0]
            have hc0' : ((c : Int) == 0) = false := by simp; omega
            go_wp2_with fail
            refine (wByte _ _ acc b _ rfl _ hH2 (by omega) (by omega)).mono ?_
            rintro e w3 ⟨rfl, h3, b3, k3⟩
            have hB3 := hB2.trans b3
            go_wp2_with fail
            go_round
            case rel => exact ⟨k + c, f', acc ++ [b], by go_num, by omega, by omega, by simp; omega, R.out, h3, hB3⟩
            case measure => simp [intOf]; omega
      · have hkl : ¬ (k : Int) < (s.size : Int) := by omega
        have R : Hid (Qm.getq s.data.toList = none) := by
          unfold Hid
          rw [HG.out, Qm.drop_end s k hlt]
          cases f <;> rfl
        have hBe := HB.out _ hB
        go_wp2_with fail
        go_ret2
        exact ⟨by rw [R.out]; rfl, hBe⟩
  · have hpf : pre s ⟨#[34]⟩ = false := by
      by_cases h0 : 0 < s.size
      · cases h : pre s ⟨#[34]⟩
        · rfl
        · exact absurd ⟨h0, h⟩ hq
      · exact pre_none s h0
    have R : Hid (Qm.getq s.data.toList = none) := by
      unfold Hid
      by_cases h0 : 0 < s.size
      · have D0 : s.data.toList = s[0] :: s.data.toList.drop 1 := Qm.drop_at s 0 h0
        rw [pre_one s h0] at hpf
        rw [D0]
        show (if s[0] = 34 then _ else none) = none
        rw [if_neg (by simpa using hpf)]
      · have : s.data.toList = [] := List.eq_nil_of_length_eq_zero (by rw [Qm.len_eq]; omega)
        rw [this]; rfl
    rw [hpf] at HPx
    go_enter Try.func22, Try.ntmps22
    go_wp2_with fail
    refine HPx.mono ?_
    rintro e w' ⟨rfl, hw⟩
    subst w'
    go_wp2_with fail
    go_ret2
    exact ⟨by rw [R.out]; rfl, (by (repeat' (first | assumption | exact Below.refl _ _ | refine Below.alloc ?_ ?_ _ | refine Below.setCell ?_ ?_ _ | refine Below.drew ?_ | refine below_drewN ?_ _)) <;> (first | omega | (simp <;> omega)))⟩
end Go.Proofs.Ytkdilgmlabaehaa
