/- Contracts: l1Sign, l1Digits, cmp.Compare at int, DecCmp of the impl. -/
import Derived.Test.YthpnbjigpdgmpaaDecL
import Derived.Test.YthpnbjigpdgmpaaDecF
import Derived.Test.YthpnbjigpdgmpaaDecH
import Derived.Test.YthpnbjigpdgmpaaHeld
namespace Go.Proofs.Ythpnbjigpdgmpaa
open Go.RowKit
attribute [local go_sem] cell_alloc_is frozen_alloc_is

set_option maxHeartbeats 400000 in
theorem l1Sign_any (n : Int) (w : World) :
    Calls Try.prog 60 #[.int .i64 n] w fun e w' => e = .returned (.int .i64 (Dm.sgn n)) ∧ w' = w := by
  rcases Dm.sgn_cases n with ⟨h, e⟩ | ⟨h, e⟩ | ⟨h, e⟩
  · rw [e]; clear e
    go_enter Try.func60, Try.ntmps60
    go_wp2
    go_ret
    exact ⟨rfl, rfl⟩
  · rw [e]; clear e; subst h
    go_enter Try.func60, Try.ntmps60
    go_wp2
    go_ret
    exact ⟨rfl, rfl⟩
  · rw [e]; clear e
    go_enter Try.func60, Try.ntmps60
    go_wp2
    go_ret
    exact ⟨rfl, rfl⟩

set_option maxHeartbeats 400000 in
theorem compare_any (a b : Int) (w : World) :
    Calls Try.prog 51 #[.int .i64 a, .int .i64 b] w fun e w' => e = .returned (.int .i64 (Dm.sgn (a - b))) ∧ w' = w := by
  rcases Dm.sgn_cases (a - b) with ⟨h, e⟩ | ⟨h, e⟩ | ⟨h, e⟩
  · rw [e]; clear e
    have h' : a < b := by omega
    clear h
    go_enter Try.func51, Try.ntmps51
    go_wp2
    go_ret
    exact ⟨rfl, rfl⟩
  · rw [e]; clear e
    have h' : a = b := by omega
    subst h'
    clear h
    go_enter Try.func51, Try.ntmps51
    go_wp2
    go_ret
    exact ⟨rfl, rfl⟩
  · rw [e]; clear e
    have h' : b < a := by omega
    have h2 : ¬ a < b := by omega
    clear h
    go_enter Try.func51, Try.ntmps51
    go_wp2
    go_ret
    exact ⟨rfl, rfl⟩

set_option maxHeartbeats 400000 in
theorem l1Digits_any (n : Int) (w : World) (h1 : 0 ≤ n) (h2 : n ≤ 99999999) :
    Calls Try.prog 61 #[.int .i64 n] w fun e w' => e = .returned (.int .i64 (Dm.dn n)) ∧ Below w.heap.size w w' := by
  have HD : Hid (Dm.dn n = (((⟨(Dm.digs 19 n.toNat).toArray⟩ : ByteArray).size : Nat) : Int)) := by
    unfold Hid; rw [Dm.dn, show n.natAbs = n.toNat from by omega]; rfl
  have hsz : (⟨(Dm.digs 19 n.toNat).toArray⟩ : ByteArray).size ≤ 19 := by have := Dm.digs_len 19 n.toNat; simpa [ByteArray.size] using this
  have IH : Hid (∀ w : World, Calls Try.prog 62 #[.int .i64 n] w fun e w' => e = .returned (.string ⟨(Dm.digs 19 n.toNat).toArray⟩) ∧ Below w.heap.size w w') := fun w => l1Dec_any 18 n w (by omega) h1 (by omega) (by omega)
  rw [HD.out]
  clear HD
  generalize (⟨(Dm.digs 19 n.toNat).toArray⟩ : ByteArray) = s at *
  go_enter Try.func61, Try.ntmps61
  go_wp2_with fail
  refine (IH.out _).mono ?_
  rintro e w1 ⟨rfl, hb1⟩
  go_wp2_with fail
  go_ret
  exact ⟨rfl, hb1⟩

set_option maxHeartbeats 1000000 in
theorem iDecCmp_any (m x n y : Int) (w : World) :
    Calls Try.prog 30 #[.agg #[.int .i64 m, .int .i64 x], .agg #[.int .i64 n, .int .i64 y]] w fun e w' => e = .returned (.int .i64 (Dm.cmp m x n y)) ∧ Below w.heap.size w w' := by
  have pre : ∀ w1 : World, Below ((w.alloc (.cells #[.int .i64 m, .int .i64 x] 26)).alloc (.cells #[.int .i64 n, .int .i64 y] 26)).heap.size ((w.alloc (.cells #[.int .i64 m, .int .i64 x] 26)).alloc (.cells #[.int .i64 n, .int .i64 y] 26)) w1 → Held w1 w.heap.size (w.heap.size + 1) m x n y w1 ∧ Below w.heap.size w w1 := by
    intro w1 hb
    have h0 : Held ((w.alloc (.cells #[.int .i64 m, .int .i64 x] 26)).alloc (.cells #[.int .i64 n, .int .i64 y] 26)) w.heap.size (w.heap.size + 1) m x n y ((w.alloc (.cells #[.int .i64 m, .int .i64 x] 26)).alloc (.cells #[.int .i64 n, .int .i64 y] 26)) := Held.start (by simp) (by simp) (by simp) (by simp)
    have h1 := h0.below hb
    exact ⟨Held.start h1.1 h1.2.1 h1.2.2.1 h1.2.2.2.1, Below.trans (by (repeat' (first | assumption | exact Below.refl _ _ | refine Below.alloc ?_ ?_ _ | refine Below.setCell ?_ ?_ _ | refine Below.drew ?_ | refine below_drewN ?_ _)) <;> (first | omega | (simp <;> omega))) (hb.mono (by simp; omega))⟩
  have PRE := hideIt pre
  clear pre
  go_enter Try.func30, Try.ntmps30
  go_wp2_with fail
  refine (iDecOk_any _ _ _).mono ?_
  rintro e w1 ⟨rfl, hb1⟩
  obtain ⟨H1, hB1⟩ := PRE.out w1 hb1
  clear hb1 PRE
  obtain ⟨a0, a1, b0, b1, -⟩ := id H1
  cases ho : Dm.ok m x
  · have HF : Hid (Dm.cmp m x n y = 0) := by unfold Hid; simp [Dm.cmp, ho]
    go_wp2_with fail
    go_ret
    exact ⟨by rw [HF.out]; rfl, (by (repeat' (first | assumption | exact Below.refl _ _ | refine Below.alloc ?_ ?_ _ | refine Below.setCell ?_ ?_ _ | refine Below.drew ?_ | refine below_drewN ?_ _)) <;> (first | omega | (simp <;> omega)))⟩
  · go_wp2_with fail
    refine (iDecOk_any _ _ _).mono ?_
    rintro e w2 ⟨rfl, hb2⟩
    have H2 := H1.below hb2
    have hB2 := hB1.trans (hb2.mono hB1.size)
    clear H1 hB1 a0 a1 b0 b1
    obtain ⟨a0, a1, b0, b1, -⟩ := id H2
    clear hb2
    cases hp : Dm.ok n y
    · have HF : Hid (Dm.cmp m x n y = 0) := by unfold Hid; simp [Dm.cmp, hp]
      go_wp2_with fail
      go_ret
      exact ⟨by rw [HF.out]; rfl, (by (repeat' (first | assumption | exact Below.refl _ _ | refine Below.alloc ?_ ?_ _ | refine Below.setCell ?_ ?_ _ | refine Below.drew ?_ | refine below_drewN ?_ _)) <;> (first | omega | (simp <;> omega)))⟩
    · have HN := hideIt (Dm.cmp_near ho hp)
      have HA := hideIt (Dm.cmp_far1 ho hp)
      have HB := hideIt (Dm.cmp_far2 ho hp)
      obtain ⟨m1, m2, x1, x2⟩ := Dm.ok_bd ho
      obtain ⟨n1, n2, y1, y2⟩ := Dm.ok_bd hp
      obtain ⟨u1, u2⟩ := Dm.manAt_bd (min x y) ho
      obtain ⟨v1, v2⟩ := Dm.manAt_bd (min x y) hp
      have hmin : (x ≤ y ∧ min x y = x) ∨ (y < x ∧ min x y = y) := by omega
      rcases hmin with ⟨hxy, hmin⟩ | ⟨hxy, hmin⟩
      all_goals
        rw [hmin] at HN HA HB u1 u2 v1 v2
        clear hmin
        go_wp2_with fail
        refine (manAt_any _ _ _ _ ho (by omega) (by omega)).mono ?_
        rintro e w3 ⟨rfl, hb3⟩
        have H3 := H2.below hb3
        have hB3 := hB2.trans (hb3.mono hB2.size)
        clear H2 hB2 a0 a1 b0 b1 hb3
        obtain ⟨a0, a1, b0, b1, -⟩ := id H3
        go_wp2_with fail
        refine (manAt_any _ _ _ _ hp (by omega) (by omega)).mono ?_
        rintro e w4 ⟨rfl, hb4⟩
        have H4 := H3.below hb4
        have hB4 := hB3.trans (hb4.mono hB3.size)
        clear H3 hB3 a0 a1 b0 b1 hb4
        obtain ⟨a0, a1, b0, b1, -⟩ := id H4
        generalize Dm.manAt m x _ = u at *
        generalize Dm.manAt n y _ = v at *
        obtain ⟨u, ub⟩ := u
        obtain ⟨v, vb⟩ := v
        cases ub
        · have HF : Hid (Dm.cmp m x n y = Dm.sgn m) := HA.out rfl
          clear HN HA HB
          go_wp2_with fail
          refine (compare_any _ _ _).mono ?_
          rintro e w5 ⟨rfl, rfl⟩
          go_wp2_with fail
          go_ret
          exact ⟨by rw [HF.out]; rfl, hB4⟩
        · cases vb
          · have HF : Hid (Dm.cmp m x n y = Dm.sgn (-n)) := by unfold Hid; rw [HB.out rfl, Int.zero_sub]
            clear HN HA HB
            go_wp2_with fail
            refine (compare_any _ _ _).mono ?_
            rintro e w5 ⟨rfl, rfl⟩
            go_wp2_with fail
            go_ret
            exact ⟨by rw [HF.out]; rfl, hB4⟩
          · have HF : Hid (Dm.cmp m x n y = Dm.sgn (u - v)) := HN.out rfl rfl
            clear HN HA HB
            go_wp2_with fail
            refine (compare_any _ _ _).mono ?_
            rintro e w5 ⟨rfl, rfl⟩
            go_wp2_with fail
            go_ret
            exact ⟨by rw [HF.out]; rfl, hB4⟩

set_option maxHeartbeats 2000000 in
theorem l1Cmp_any (m x n y : Int) (w : World) (hm : Dm.ok m x = true) (hn : Dm.ok n y = true) :
    Calls Try.prog 52 #[.agg #[.int .i64 m, .int .i64 x], .agg #[.int .i64 n, .int .i64 y]] w fun e w' => e = .returned (.int .i64 (Dm.cmp m x n y)) ∧ Below w.heap.size w w' := by
  rw [← Dm.cmpS_eq hm hn]
  obtain ⟨m1, m2, x1, x2⟩ := Dm.ok_bd hm
  obtain ⟨n1, n2, y1, y2⟩ := Dm.ok_bd hn
  have sb1 : -1 ≤ Dm.sgn m ∧ Dm.sgn m ≤ 1 := by rcases Dm.sgn_cases m with ⟨_, e⟩ | ⟨_, e⟩ | ⟨_, e⟩ <;> omega
  have sb2 : -1 ≤ Dm.sgn n ∧ Dm.sgn n ≤ 1 := by rcases Dm.sgn_cases n with ⟨_, e⟩ | ⟨_, e⟩ | ⟨_, e⟩ <;> omega
  obtain ⟨s1, s2⟩ := sb1
  obtain ⟨s3, s4⟩ := sb2
  obtain ⟨W0, hW0⟩ : ∃ W0, W0 = (w.alloc (.cells #[.int .i64 m, .int .i64 x] 26)).alloc (.cells #[.int .i64 n, .int .i64 y] 26) := ⟨_, rfl⟩
  have hB0 : Below w.heap.size w W0 := by subst hW0; exact (by (repeat' (first | assumption | exact Below.refl _ _ | refine Below.alloc ?_ ?_ _ | refine Below.setCell ?_ ?_ _ | refine Below.drew ?_ | refine below_drewN ?_ _)) <;> (first | omega | (simp <;> omega)))
  have hStart : Held W0 w.heap.size (w.heap.size + 1) m x n y W0 := by subst hW0; exact Held.start (by simp) (by simp) (by simp) (by simp)
  obtain ⟨a0, a1, b0, b1, -⟩ := id hStart
  by_cases hs : Dm.sgn m = Dm.sgn n
  · have hsb : (Dm.sgn m != Dm.sgn n) = false := by simp [hs]
    by_cases hm0 : m = 0
    · have HF : Hid (Dm.cmpS m x n y = 0) := by unfold Hid; rw [Dm.cmpS, if_neg (fun h => h hs), if_pos hm0]
      have hz : (m == 0) = true := by simp [hm0]
      clear hs hm0 hm hn
      go_enter Try.func52, Try.ntmps52
      go_wp2_with fail
      rw [← hW0]
      clear hW0
      go_quiet ((go_at_call 60; exact Calls.quiet_of_same (l1Sign_any _ _)))
      go_wp2_with fail
      go_ret
      exact ⟨by rw [HF.out]; rfl, (by (repeat' (first | assumption | exact Below.refl _ _ | refine Below.alloc ?_ ?_ _ | refine Below.setCell ?_ ?_ _ | refine Below.drew ?_ | refine below_drewN ?_ _)) <;> (first | omega | (simp <;> omega)))⟩
    · have hz : (m == 0) = false := by simp [hm0]
      have hn0 : n ≠ 0 := by
        intro h; rw [h] at hs
        rcases Dm.sgn_cases m with ⟨hb, eb⟩ | ⟨hb, eb⟩ | ⟨hb, eb⟩
        · rw [eb] at hs; simp [Dm.sgn] at hs
        · exact hm0 hb
        · rw [eb] at hs; simp [Dm.sgn] at hs
      have HC : Hid (Dm.cmpS m x n y = if Dm.dn m + x ≠ Dm.dn n + y then Dm.sgn (Dm.dn m + x - (Dm.dn n + y)) * Dm.sgn m else Dm.sgn (m * Dm.p10 (x - y) - n * Dm.p10 (y - x))) := by unfold Hid; rw [Dm.cmpS, if_neg (fun h => h hs), if_neg hm0]
      obtain ⟨dm1, dm2, -, -⟩ := Dm.dn_bd hm hm0
      obtain ⟨dn1, dn2, -, -⟩ := Dm.dn_bd hn hn0
      have HDM : Hid (Dm.dn (m.natAbs : Int) = Dm.dn m) := rfl
      have HDN : Hid (Dm.dn (n.natAbs : Int) = Dm.dn n) := rfl
      have ea1 : (m.natAbs : Int) ≤ 99999999 := by omega
      have ea2 : (n.natAbs : Int) ≤ 99999999 := by omega
      by_cases hd : Dm.dn m + x = Dm.dn n + y
      · have hdb : (Dm.dn m + x != Dm.dn n + y) = false := by simp [hd]
        have HF : Hid (Dm.cmpS m x n y = Dm.sgn (m * Dm.p10 (x - y) - n * Dm.p10 (y - x))) := by unfold Hid; rw [HC.out, if_neg (fun h => h hd)]
        have l1 := Dm.dn_le8 hm hm0
        have l2 := Dm.dn_le8 hn hn0
        have hxy1 : x - y ≤ 7 := by omega
        have hxy2 : y - x ≤ 7 := by omega
        clear HC hs hm hn hd l1 l2
        go_enter Try.func52, Try.ntmps52
        go_wp2_with fail
        rw [← hW0]
        clear hW0
        go_quiet ((go_at_call 60; exact Calls.quiet_of_same (l1Sign_any _ _)))
        go_wp2_with fail
        have hwm : IntKind.i64.wrap (Dm.dn (m.natAbs : Int) + x) = Dm.dn m + x := by rw [HDM.out, IntKind.wrap_i64]; omega
        have hwn : IntKind.i64.wrap (Dm.dn (n.natAbs : Int) + y) = Dm.dn n + y := by rw [HDN.out, IntKind.wrap_i64]; omega
        obtain ⟨W1, hW1⟩ : ∃ W', W' = W0.drewN nq := ⟨_, rfl⟩
        have hB_W1 : Below w.heap.size w W1 := by rw [hW1]; exact below_drewN hB0 _
        have hs_W1 : Held W1 w.heap.size (w.heap.size + 1) m x n y W1 := by rw [hW1]; exact Held.start a0 a1 b0 b1
        rw [← hW1]
        clear hW1 a0 a1 b0 b1
        obtain ⟨a0, a1, b0, b1, -⟩ := id hs_W1
        go_region_held3 (fun w' => w'.cell? ⟨w.heap.size, 0, none⟩ = some (.int .i64 m) ∧ w'.cell? ⟨w.heap.size, 1, none⟩ = some (.int .i64 x) ∧ w'.cell? ⟨w.heap.size + 1, 0, none⟩ = some (.int .i64 n) ∧ w'.cell? ⟨w.heap.size + 1, 1, none⟩ = some (.int .i64 y) ∧ Below W1.heap.size W1 w') (first | exact hs_W1.drew | assumption) (first
          | (go_at_call 58; refine (l1Abs_any _ _ (by omega) (by omega)).mono ?_; rintro e w1 ⟨rfl, rfl⟩)
          | (go_at_call 61; refine (l1Digits_any _ _ (by omega) (by omega)).mono ?_; rintro e w1 ⟨rfl, hb1⟩; have hS : Held W1 w.heap.size (w.heap.size + 1) m x n y w1 := Held.below (by assumption) hb1))
        go_wp2_with fail
        obtain ⟨W2, hW2⟩ : ∃ W', W' = w1 := ⟨_, rfl⟩
        subst hW2
        have hB_W2 : Below w.heap.size w W2 := hB_W1.trans (hS.2.2.2.2.mono hB_W1.size)
        clear a0 a1 b0 b1 hb1
        obtain ⟨a0, a1, b0, b1, -⟩ := id hS
        have hs_W2 : Held W2 w.heap.size (w.heap.size + 1) m x n y W2 := Held.start a0 a1 b0 b1
        clear hS
        go_region_held3 (fun w' => w'.cell? ⟨w.heap.size, 0, none⟩ = some (.int .i64 m) ∧ w'.cell? ⟨w.heap.size, 1, none⟩ = some (.int .i64 x) ∧ w'.cell? ⟨w.heap.size + 1, 0, none⟩ = some (.int .i64 n) ∧ w'.cell? ⟨w.heap.size + 1, 1, none⟩ = some (.int .i64 y) ∧ Below W2.heap.size W2 w') (first | exact hs_W2.drew | assumption) (first
          | (go_at_call 58; refine (l1Abs_any _ _ (by omega) (by omega)).mono ?_; rintro e w1 ⟨rfl, rfl⟩)
          | (go_at_call 61; refine (l1Digits_any _ _ (by omega) (by omega)).mono ?_; rintro e w1 ⟨rfl, hb1⟩; have hS : Held W2 w.heap.size (w.heap.size + 1) m x n y w1 := Held.below (by assumption) hb1))
        go_wp2_with fail
        obtain ⟨W3, hW3⟩ : ∃ W', W' = w1 := ⟨_, rfl⟩
        subst hW3
        have hB_W3 : Below w.heap.size w W3 := hB_W2.trans (hS.2.2.2.2.mono hB_W2.size)
        clear a0 a1 b0 b1 hb1
        obtain ⟨a0, a1, b0, b1, -⟩ := id hS
        have hs_W3 : Held W3 w.heap.size (w.heap.size + 1) m x n y W3 := Held.start a0 a1 b0 b1
        clear hS
        go_loop [7, 9] (fun a b => ∃ e m' : Int, a = .int .i64 m' ∧ b = .int .i64 e ∧ e ≤ x ∧ (e = x ∨ y ≤ e) ∧ m' = m * Dm.p10 (x - e)) (fun _ b => (intOf b - y).toNat)
        case atStart => exact ⟨x, m, rfl, rfl, by omega, .inl rfl, by rw [Int.sub_self, Dm.p10_zero, Int.mul_one]⟩
        case round =>
          obtain ⟨e, m', rfl, rfl, he1, he2, hm'⟩ := hrel
          have HM := hideIt hm'
          clear hm'
          by_cases hlt : y < e
          · have hb := Dm.mul_bd (m := m) (n := Dm.p10 (x - e)) 99999999 10000000 (by omega) m1 m2 (by have := Dm.p10_pos (x - e); omega) (Dm.p10_mono (k := 7) (by omega))
            rw [← HM.out] at hb
            obtain ⟨hb1, hb2⟩ := hb
            have HS : Hid (m' * 10 = m * Dm.p10 (x - (e - 1))) := by
              unfold Hid; rw [HM.out, show x - (e - 1) = (x - e) + 1 from by omega, Dm.p10_succ _ (by omega), Int.mul_assoc]
            go_wp2_with fail
            go_round
            case rel => exact ⟨e - 1, _, rfl, rfl, by omega, .inr (by omega), HS.out⟩
            case measure => simp [intOf]; omega
          · have HM2 : Hid (m' = m * Dm.p10 (x - y)) := by
              unfold Hid; rw [HM.out]
              rcases he2 with h | h
              · rw [h, Int.sub_self, Dm.p10_zero, Dm.p10_nonpos (x - y) (by omega)]
              · rw [show e = y from by omega]
            have hbm : -999999990000000 ≤ m' ∧ m' ≤ 999999990000000 := by
              have hb := Dm.mul_bd (m := m) (n := Dm.p10 (x - y)) 99999999 10000000 (by omega) m1 m2 (by have := Dm.p10_pos (x - y); omega) (Dm.p10_mono (k := 7) (by omega))
              rw [← HM2.out] at hb; omega
            obtain ⟨bm1, bm2⟩ := hbm
            clear HM
            go_wp2_with fail
            go_loop [8, 10] (fun a b => ∃ e n' : Int, a = .int .i64 n' ∧ b = .int .i64 e ∧ e ≤ y ∧ (e = y ∨ x ≤ e) ∧ n' = n * Dm.p10 (y - e)) (fun _ b => (intOf b - x).toNat)
            case atStart => exact ⟨y, n, rfl, rfl, by omega, .inl rfl, by rw [Int.sub_self, Dm.p10_zero, Int.mul_one]⟩
            case round =>
              clear hlt he1 he2
              obtain ⟨e, n', rfl, rfl, he1, he2, hn'⟩ := hrel
              have HM := hideIt hn'
              clear hn'
              by_cases hlt : x < e
              · have hb := Dm.mul_bd (m := n) (n := Dm.p10 (y - e)) 99999999 10000000 (by omega) n1 n2 (by have := Dm.p10_pos (y - e); omega) (Dm.p10_mono (k := 7) (by omega))
                rw [← HM.out] at hb
                obtain ⟨hb1, hb2⟩ := hb
                have HS : Hid (n' * 10 = n * Dm.p10 (y - (e - 1))) := by
                  unfold Hid; rw [HM.out, show y - (e - 1) = (y - e) + 1 from by omega, Dm.p10_succ _ (by omega), Int.mul_assoc]
                go_wp2_with fail
                go_round
                case rel => exact ⟨e - 1, _, rfl, rfl, by omega, .inr (by omega), HS.out⟩
                case measure => simp [intOf]; omega
              · have HN2 : Hid (n' = n * Dm.p10 (y - x)) := by
                  unfold Hid; rw [HM.out]
                  rcases he2 with h | h
                  · rw [h, Int.sub_self, Dm.p10_zero, Dm.p10_nonpos (y - x) (by omega)]
                  · rw [show e = x from by omega]
                have hbn : -999999990000000 ≤ n' ∧ n' ≤ 999999990000000 := by
                  have hb := Dm.mul_bd (m := n) (n := Dm.p10 (y - x)) 99999999 10000000 (by omega) n1 n2 (by have := Dm.p10_pos (y - x); omega) (Dm.p10_mono (k := 7) (by omega))
                  rw [← HN2.out] at hb; omega
                obtain ⟨bn1, bn2⟩ := hbn
                clear HM
                go_wp2_with fail
                refine (l1Sign_any _ _).mono ?_
                rintro e2 w5 ⟨rfl, rfl⟩
                go_wp2_with fail
                go_ret
                exact ⟨by rw [HF.out, ← HM2.out, ← HN2.out]; rfl, hB_W3⟩
      · have hdb : (Dm.dn m + x != Dm.dn n + y) = true := by simpa using hd
        have HF : Hid (Dm.cmpS m x n y = Dm.sgn (Dm.dn m + x - (Dm.dn n + y)) * Dm.sgn m) := by unfold Hid; rw [HC.out, if_pos hd]
        have hsd : -1 ≤ Dm.sgn (Dm.dn m + x - (Dm.dn n + y)) ∧ Dm.sgn (Dm.dn m + x - (Dm.dn n + y)) ≤ 1 := by rcases Dm.sgn_cases (Dm.dn m + x - (Dm.dn n + y)) with ⟨_, e⟩ | ⟨_, e⟩ | ⟨_, e⟩ <;> omega
        have hpr := Dm.mul_bd 1 1 (by omega) hsd.1 hsd.2 s1 s2
        obtain ⟨hpr1, hpr2⟩ := hpr
        clear HC hs hm hn hd hsd
        go_enter Try.func52, Try.ntmps52
        go_wp2_with fail
        rw [← hW0]
        clear hW0
        go_quiet ((go_at_call 60; exact Calls.quiet_of_same (l1Sign_any _ _)))
        go_wp2_with fail
        have hwm : IntKind.i64.wrap (Dm.dn (m.natAbs : Int) + x) = Dm.dn m + x := by rw [HDM.out, IntKind.wrap_i64]; omega
        have hwn : IntKind.i64.wrap (Dm.dn (n.natAbs : Int) + y) = Dm.dn n + y := by rw [HDN.out, IntKind.wrap_i64]; omega
        obtain ⟨W1, hW1⟩ : ∃ W', W' = W0.drewN nq := ⟨_, rfl⟩
        have hB_W1 : Below w.heap.size w W1 := by rw [hW1]; exact below_drewN hB0 _
        have hs_W1 : Held W1 w.heap.size (w.heap.size + 1) m x n y W1 := by rw [hW1]; exact Held.start a0 a1 b0 b1
        rw [← hW1]
        clear hW1 a0 a1 b0 b1
        obtain ⟨a0, a1, b0, b1, -⟩ := id hs_W1
        go_region_held3 (fun w' => w'.cell? ⟨w.heap.size, 0, none⟩ = some (.int .i64 m) ∧ w'.cell? ⟨w.heap.size, 1, none⟩ = some (.int .i64 x) ∧ w'.cell? ⟨w.heap.size + 1, 0, none⟩ = some (.int .i64 n) ∧ w'.cell? ⟨w.heap.size + 1, 1, none⟩ = some (.int .i64 y) ∧ Below W1.heap.size W1 w') (first | exact hs_W1.drew | assumption) (first
          | (go_at_call 58; refine (l1Abs_any _ _ (by omega) (by omega)).mono ?_; rintro e w1 ⟨rfl, rfl⟩)
          | (go_at_call 61; refine (l1Digits_any _ _ (by omega) (by omega)).mono ?_; rintro e w1 ⟨rfl, hb1⟩; have hS : Held W1 w.heap.size (w.heap.size + 1) m x n y w1 := Held.below (by assumption) hb1))
        go_wp2_with fail
        obtain ⟨W2, hW2⟩ : ∃ W', W' = w1 := ⟨_, rfl⟩
        subst hW2
        have hB_W2 : Below w.heap.size w W2 := hB_W1.trans (hS.2.2.2.2.mono hB_W1.size)
        clear a0 a1 b0 b1 hb1
        obtain ⟨a0, a1, b0, b1, -⟩ := id hS
        have hs_W2 : Held W2 w.heap.size (w.heap.size + 1) m x n y W2 := Held.start a0 a1 b0 b1
        clear hS
        go_region_held3 (fun w' => w'.cell? ⟨w.heap.size, 0, none⟩ = some (.int .i64 m) ∧ w'.cell? ⟨w.heap.size, 1, none⟩ = some (.int .i64 x) ∧ w'.cell? ⟨w.heap.size + 1, 0, none⟩ = some (.int .i64 n) ∧ w'.cell? ⟨w.heap.size + 1, 1, none⟩ = some (.int .i64 y) ∧ Below W2.heap.size W2 w') (first | exact hs_W2.drew | assumption) (first
          | (go_at_call 58; refine (l1Abs_any _ _ (by omega) (by omega)).mono ?_; rintro e w1 ⟨rfl, rfl⟩)
          | (go_at_call 61; refine (l1Digits_any _ _ (by omega) (by omega)).mono ?_; rintro e w1 ⟨rfl, hb1⟩; have hS : Held W2 w.heap.size (w.heap.size + 1) m x n y w1 := Held.below (by assumption) hb1))
        go_wp2_with fail
        obtain ⟨W3, hW3⟩ : ∃ W', W' = w1 := ⟨_, rfl⟩
        subst hW3
        have hB_W3 : Below w.heap.size w W3 := hB_W2.trans (hS.2.2.2.2.mono hB_W2.size)
        clear a0 a1 b0 b1 hb1
        obtain ⟨a0, a1, b0, b1, -⟩ := id hS
        have hs_W3 : Held W3 w.heap.size (w.heap.size + 1) m x n y W3 := Held.start a0 a1 b0 b1
        clear hS
        go_quiet ((go_at_call 60; exact Calls.quiet_of_same (l1Sign_any _ _)))
        go_wp2_with fail
        go_ret
        exact ⟨by rw [HF.out]; rfl, below_drewN hB_W3 _⟩
  · have HF : Hid (Dm.cmpS m x n y = Dm.sgn (Dm.sgn m - Dm.sgn n)) := by unfold Hid; rw [Dm.cmpS, if_pos hs]
    have hsb : (Dm.sgn m != Dm.sgn n) = true := by simpa using hs
    clear hs hm hn
    go_enter Try.func52, Try.ntmps52
    go_wp2_with fail
    rw [← hW0]
    clear hW0
    go_quiet ((go_at_call 60; exact Calls.quiet_of_same (l1Sign_any _ _)))
    go_wp2_with fail
    obtain ⟨W1, hW1⟩ : ∃ W', W' = W0.drewN nq := ⟨_, rfl⟩
    have hB_W1 : Below w.heap.size w W1 := by rw [hW1]; exact below_drewN hB0 _
    have hs_W1 : Held W1 w.heap.size (w.heap.size + 1) m x n y W1 := by rw [hW1]; exact Held.start a0 a1 b0 b1
    rw [← hW1]
    clear hW1 a0 a1 b0 b1
    obtain ⟨a0, a1, b0, b1, -⟩ := id hs_W1
    go_quiet ((go_at_call 60; exact Calls.quiet_of_same (l1Sign_any _ _)))
    go_wp2_with fail
    go_ret
    exact ⟨by rw [HF.out]; rfl, (by (repeat' (first | assumption | exact Below.refl _ _ | refine Below.alloc ?_ ?_ _ | refine Below.setCell ?_ ?_ _ | refine Below.drew ?_ | refine below_drewN ?_ _)) <;> (first | omega | (simp <;> omega)))⟩
end Go.Proofs.Ythpnbjigpdgmpaa
