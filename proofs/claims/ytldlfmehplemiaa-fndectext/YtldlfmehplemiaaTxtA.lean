/- Contracts: the text of a decimal as the specification makes it. -/
import Derived.Test.YtldlfmehplemiaaTm
import Derived.Test.YtldlfmehplemiaaDecG
import Derived.Test.YtldlfmehplemiaaDecL
import Derived.Deep.QuietTactic
import Derived.BigQuiet
namespace Go.Proofs.Ytldlfmehplemiaa
open Go.RowKit
attribute [local go_sem] cell_alloc_is frozen_alloc_is

theorem tArr_size (l : List UInt8) : (⟨l.toArray⟩ : ByteArray).size = l.length := by show l.toArray.size = _; simp
theorem tArr_append (a b : List UInt8) : (⟨a.toArray⟩ : ByteArray) ++ ⟨b.toArray⟩ = ⟨(a ++ b).toArray⟩ := by
  have : ∀ x y : ByteArray, x.data.toList = y.data.toList → x = y := by intro x y h; cases x; cases y; simpa using h
  apply this; simp [ByteArray.data_append]
theorem tLen (s : ByteArray) : s.data.toList.length = s.size := by rw [Array.length_toList]; rfl
/-- so many noughts -/
abbrev noughts (a : Nat) : ByteArray := ⟨(List.replicate a (48 : UInt8)).toArray⟩
theorem noughts_add (a b : Nat) : noughts a ++ noughts b = noughts (a + b) := by rw [tArr_append, List.replicate_append_replicate]
theorem noughts_size (a : Nat) : (noughts a).size = a := by rw [tArr_size, List.length_replicate]

set_option maxHeartbeats 1000000 in
theorem l1Many_any (k : Nat) (w : World) (hk : k ≤ 100) :
    Calls Try.prog 49 #[.string ⟨#[48]⟩, .int .i64 k] w fun e w' => e = .returned (.string (noughts k)) ∧ w' = w := by
  go_enter Try.func49, Try.ntmps49
  go_wp2_with fail
  go_loop [0, 1, 5] (fun s n o => ∃ a b c : Nat, s = .string (noughts b) ∧ n = .int .i64 c ∧ o = .string (noughts a) ∧ a + b * c = k ∧ a ≤ 1000 ∧ b * (c + 1) ≤ 2000 ∧ c ≤ 100) (fun _ n _ => (intOf n).toNat)
  case atStart => exact ⟨0, 1, k, rfl, rfl, rfl, by omega, by omega, by omega, hk⟩
  case round =>
    obtain ⟨a, b, c, rfl, rfl, rfl, h1, h2, h3, h4⟩ := hrel
    have sa := noughts_size a
    have sb := noughts_size b
    by_cases hc : 0 < c
    · have hb : b ≤ 2000 := by
        have : b * 1 ≤ b * (c + 1) := Nat.mul_le_mul_left _ (by omega)
        omega
      have hbc : b * c ≤ k := by omega
      have hb6 : b * 1 ≤ b * c := Nat.mul_le_mul_left _ (by omega)
      have HAB : Hid (noughts a ++ noughts b = noughts (a + b)) := noughts_add a b
      have HBB : Hid (noughts b ++ noughts b = noughts (b + b)) := noughts_add b b
      have hc' : (0 : Int) < (c : Int) := by omega
      have hdm : c = 2 * (c / 2) + c % 2 := by omega
      have e1 : b * c = (b + b) * (c / 2) + b * (c % 2) := by
        conv => lhs; rw [hdm]
        rw [Nat.mul_add, ← Nat.mul_assoc, Nat.mul_comm b 2, Nat.two_mul]
      have e2 : (b + b) * (c / 2 + 1) ≤ 2000 := by
        have : (b + b) * (c / 2 + 1) = (b + b) * (c / 2) + (b + b) := by rw [Nat.mul_add, Nat.mul_one]
        have h5 : (b + b) * (c / 2) ≤ b * c := by omega
        have h6 : b * 1 ≤ b * c := Nat.mul_le_mul_left _ (by omega)
        omega
      have HE : Hid (b * c = (b + b) * (c / 2) + b * (c % 2)) := e1
      clear e1 hdm
      by_cases ho : c % 2 = 1
      · have ho' : ((c : Int) % 2 == 1) = true := by simp; omega
        go_wp2_with fail
        go_round
        case rel =>
          refine ⟨a + b, b + b, c / 2, by rw [HBB.out], by go_num, by rw [HAB.out], ?_, by omega, e2, by omega⟩
          have := HE.out; rw [ho, Nat.mul_one] at this; omega
        case measure => simp [intOf]; omega
      · have ho' : ((c : Int) % 2 == 1) = false := by simp; omega
        go_wp2_with fail
        go_round
        case rel =>
          refine ⟨a, b + b, c / 2, by rw [HBB.out], by go_num, rfl, ?_, h2, e2, by omega⟩
          have := HE.out; rw [show c % 2 = 0 by omega, Nat.mul_zero] at this; omega
        case measure => simp [intOf]; omega
    · have hc0 : c = 0 := by omega
      subst hc0
      have : a = k := by omega
      subst this
      go_wp2_with fail
      go_ret
      exact ⟨rfl, rfl⟩

set_option maxHeartbeats 2000000 in
theorem l1Text_pos (n : Nat) (x : Int) (w : World) (hn : n ≤ 99999999) (x1 : -8 ≤ x) (x2 : x ≤ 8) :
    Calls Try.prog 23 #[.agg #[.int .i64 n, .int .i64 x]] w fun e w' => e = .returned (.string ⟨(Tm.body n x).toArray⟩) ∧ Below w.heap.size w w' := by
  have hdig : Dm.digs 9 n = Tm.dstr n (Tm.cnt n) := Tm.digs_dstr 9 n
  have hcl := Tm.cnt_le n
  have L : ∀ w : World, Calls Try.prog 48 #[.int .i64 n] w fun e w' => e = .returned (.string ⟨(Tm.dstr n (Tm.cnt n)).toArray⟩) ∧ Below w.heap.size w w' := by
    intro w
    have := l1Dec_any 8 (n : Int) w (by omega) (by omega) (by omega) (by omega)
    rw [Int.toNat_natCast] at this
    rw [← hdig]; exact this
  clear hdig
  have hn0 : (0 : Int) ≤ (n : Int) := by omega
  by_cases h : 0 ≤ x
  · obtain ⟨k, rfl⟩ := Int.eq_ofNat_of_zero_le h
    have HF : Hid (Tm.body n k = Tm.dstr n (Tm.cnt n) ++ List.replicate k 48) := by unfold Hid; rw [Tm.body, if_pos h, Int.toNat_natCast]
    go_enter Try.func23, Try.ntmps23
    go_wp2_with fail
    refine (L _).mono ?_
    rintro e w1 ⟨rfl, hb1⟩
    obtain ⟨c0, c1, f0, f1⟩ := (Two.new w (n : Int) (k : Int) 25).below hb1 (by simp)
    have hB1 : Below w.heap.size w w1 := Below.trans (by (repeat' (first | assumption | exact Below.refl _ _ | refine Below.alloc ?_ ?_ _ | refine Below.setCell ?_ ?_ _ | refine Below.drew ?_ | refine below_drewN ?_ _)) <;> (first | omega | (simp <;> omega))) (hb1.mono (by simp))
    clear hb1
    have s1 := tArr_size (Tm.dstr n (Tm.cnt n))
    rw [Tm.dstr_len] at s1
    have s2 := noughts_size k
    have HA : Hid ((⟨(Tm.dstr n (Tm.cnt n)).toArray⟩ : ByteArray) ++ noughts k = ⟨(Tm.body n k).toArray⟩) := by unfold Hid; rw [HF.out, tArr_append]
    generalize (⟨(Tm.dstr n (Tm.cnt n)).toArray⟩ : ByteArray) = D at *
    go_wp2_with fail
    refine (l1Many_any k _ (by omega)).mono ?_
    rintro e w2 ⟨rfl, hw⟩
    subst w2
    generalize noughts k = Z at *
    go_wp2_with fail
    go_ret
    exact ⟨by rw [HA.out]; rfl, hB1⟩
  · obtain ⟨k, rfl⟩ : ∃ k : Nat, x = -(k : Int) := ⟨(-x).toNat, by omega⟩
    have HF : Hid (Tm.body n (-(k : Int)) = Tm.dsl n k (max (Tm.cnt n) (k + 1) - k) ++ 46 :: Tm.dstr n k) := by unfold Hid; rw [Tm.body, if_neg h, Int.neg_neg, Int.toNat_natCast]
    have hlt := Tm.lt_cnt n hn
    go_enter Try.func23, Try.ntmps23
    go_wp2_with fail
    refine (L _).mono ?_
    rintro e w1 ⟨rfl, hb1⟩
    obtain ⟨c0, c1, f0, f1⟩ := (Two.new w (n : Int) (-(k : Int)) 25).below hb1 (by simp)
    have hB1 : Below w.heap.size w w1 := Below.trans (by (repeat' (first | assumption | exact Below.refl _ _ | refine Below.alloc ?_ ?_ _ | refine Below.setCell ?_ ?_ _ | refine Below.drew ?_ | refine below_drewN ?_ _)) <;> (first | omega | (simp <;> omega))) (hb1.mono (by simp))
    clear hb1
    go_wp2_with fail
    go_loop [3] (fun s => ∃ c : Nat, s = .string ⟨(Tm.dstr n c).toArray⟩ ∧ c ≤ 30 ∧ n < 10 ^ c ∧ max c (k + 1) = max (Tm.cnt n) (k + 1)) (fun s => 40 - (match s with | .string b => b.size | _ => 0))
    case atStart => exact ⟨Tm.cnt n, rfl, by omega, hlt, rfl⟩
    case round =>
      obtain ⟨c, rfl, hc1, hc2, hc3⟩ := hrel
      have s1 := tArr_size (Tm.dstr n c)
      rw [Tm.dstr_len] at s1
      by_cases hck : c ≤ k
      · have HZ : Hid ((⟨#[48]⟩ : ByteArray) ++ ⟨(Tm.dstr n c).toArray⟩ = ⟨(Tm.dstr n (c + 1)).toArray⟩) := by
          unfold Hid
          rw [show (⟨#[48]⟩ : ByteArray) = ⟨[48].toArray⟩ from rfl, tArr_append]
          show _ = (⟨(Tm.dig n c :: Tm.dstr n c).toArray⟩ : ByteArray)
          rw [Tm.dig_none hc2]; rfl
        have HP : Hid (n < 10 ^ (c + 1)) := by unfold Hid; rw [Nat.pow_succ]; omega
        have hS := tArr_size (Tm.dstr n (c + 1))
        rw [Tm.dstr_len] at hS
        have HSS : Hid ((⟨(Tm.dstr n (c + 1)).toArray⟩ : ByteArray).size = c + 1) := hS
        clear hc2 hS
        have hck' : (c : Int) ≤ (k : Int) := by omega
        go_wp2_with fail
        go_round
        case rel => exact ⟨c + 1, by rw [HZ.out], by omega, HP.out, by omega⟩
        case measure => rw [HZ.out]; simp only [HSS.out, s1]; omega
      · have hck' : ¬ (c : Int) ≤ (k : Int) := by omega
        have hmc : max (Tm.cnt n) (k + 1) = c := by omega
        obtain ⟨j, hj⟩ : ∃ j : Nat, c = j + k := ⟨c - k, by omega⟩
        have q1 : (c : Int) + -(k : Int) = (j : Int) := by omega
        have q2 : (j : Int) ≤ (c : Int) := by omega
        have q3 : (0 : Int) ≤ (j : Int) := by omega
        have q4 : IntKind.i64.wrap ((c : Int) + -(k : Int)) = (j : Int) := by rw [q1, IntKind.wrap_i64]; omega
        have hD : (Tm.dstr n c) = Tm.dsl n k j ++ Tm.dstr n k := by rw [hj]; exact Tm.dstr_add n k j
        have X1 : Hid (((⟨(Tm.dstr n c).toArray⟩ : ByteArray).extract 0 j) = ⟨(Tm.dsl n k j).toArray⟩) := by
          unfold Hid
          apply ByteArray.ext
          apply Array.toList_inj.1
          rw [hD]; simp [ByteArray.data_extract]
          rw [List.take_left' (Tm.dsl_len n k j)]
        have X2 : Hid (((⟨(Tm.dstr n c).toArray⟩ : ByteArray).extract j c) = ⟨(Tm.dstr n k).toArray⟩) := by
          unfold Hid
          apply ByteArray.ext
          apply Array.toList_inj.1
          rw [hD]; simp [ByteArray.data_extract]
          rw [List.drop_left' (Tm.dsl_len n k j), List.take_of_length_le (by rw [Tm.dstr_len]; omega)]
        have z1 : ((⟨(Tm.dstr n c).toArray⟩ : ByteArray).extract 0 j).size = j := by rw [X1.out, tArr_size, Tm.dsl_len]
        have z2 : ((⟨(Tm.dstr n c).toArray⟩ : ByteArray).extract j c).size = k := by rw [X2.out, tArr_size, Tm.dstr_len]
        have HJ : Hid (max (Tm.cnt n) (k + 1) - k = j) := by unfold Hid; omega
        have HC : Hid (c = j + k) := hj
        clear hD hj hc3 hmc q1 hc2 hlt
        go_wp2_with fail
        go_quiet (fail)
        go_wp2_with fail
        go_ret
        refine ⟨?_, below_drewN hB1 _⟩
        show Ending.returned (Value.string (((⟨(Tm.dstr n c).toArray⟩ : ByteArray).extract 0 j) ++ ⟨#[46]⟩ ++ ((⟨(Tm.dstr n c).toArray⟩ : ByteArray).extract j c))) = _
        rw [X1.out, X2.out, show (⟨#[46]⟩ : ByteArray) = ⟨[46].toArray⟩ from rfl, tArr_append, tArr_append, HF.out, HJ.out, List.append_assoc]; rfl

set_option maxHeartbeats 1000000 in
theorem l1Text_any (m x : Int) (w : World) (m1 : -99999999 ≤ m) (m2 : m ≤ 99999999) (x1 : -8 ≤ x) (x2 : x ≤ 8) :
    Calls Try.prog 23 #[.agg #[.int .i64 m, .int .i64 x]] w fun e w' => e = .returned (.string ⟨(Tm.text m x).toArray⟩) ∧ Below w.heap.size w w' := by
  by_cases h : m < 0
  · obtain ⟨n, hn⟩ : ∃ n : Nat, n = m.natAbs := ⟨_, rfl⟩
    have hmn : -m = (n : Int) := by omega
    have HT : Hid (Tm.text m x = [45] ++ Tm.body n x) := by unfold Hid; rw [Tm.text, if_pos h, hn]
    have P : ∀ w : World, Calls Try.prog 23 #[.agg #[.int .i64 (-m), .int .i64 x]] w fun e w' => e = .returned (.string ⟨(Tm.body n x).toArray⟩) ∧ Below w.heap.size w w' := by
      intro w; rw [hmn]; exact l1Text_pos n x w (by omega) x1 x2
    clear hmn hn
    have hbl := Tm.body_len n x x1 x2
    have hsz := tArr_size (Tm.body n x)
    go_enter Try.func23, Try.ntmps23
    go_wp2_with fail
    refine (l1Neg_any _ _ _ (by omega) (by omega)).mono ?_
    rintro e w1 ⟨rfl, hb1⟩
    have hB1 : Below w.heap.size w w1 := Below.trans (by (repeat' (first | assumption | exact Below.refl _ _ | refine Below.alloc ?_ ?_ _ | refine Below.setCell ?_ ?_ _ | refine Below.drew ?_ | refine below_drewN ?_ _)) <;> (first | omega | (simp <;> omega))) (hb1.mono (by simp))
    clear hb1
    go_wp2_with fail
    refine (P _).mono ?_
    rintro e w2 ⟨rfl, hb2⟩
    have hB2 : Below w.heap.size w w2 := hB1.trans (hb2.mono hB1.size)
    have HA : Hid ((⟨#[45]⟩ : ByteArray) ++ ⟨(Tm.body n x).toArray⟩ = ⟨(Tm.text m x).toArray⟩) := by
      unfold Hid; rw [show (⟨#[45]⟩ : ByteArray) = ⟨[45].toArray⟩ from rfl, tArr_append, HT.out]
    generalize (⟨(Tm.body n x).toArray⟩ : ByteArray) = D at *
    go_wp2_with fail
    go_ret
    exact ⟨by rw [← HA.out]; rfl, hB2⟩
  · obtain ⟨n, rfl⟩ := Int.eq_ofNat_of_zero_le (show 0 ≤ m by omega)
    have e : Tm.text (n : Int) x = Tm.body n x := by rw [Tm.text, if_neg h]; rfl
    rw [e]
    exact l1Text_pos n x w (by omega) x1 x2

/-- the text of a decimal; empty, if it is not in its form -/
def textOf (m x : Int) : List UInt8 := if Dm.ok m x = true then Tm.text m x else []
set_option maxHeartbeats 1000000 in
theorem sDecText_any (m x : Int) (w : World) :
    Calls Try.prog 7 #[.agg #[.int .i64 m, .int .i64 x]] w fun e w' => e = .returned (.string ⟨(textOf m x).toArray⟩) ∧ Below w.heap.size w w' := by
  go_enter Try.func7, Try.ntmps7
  go_wp2_with fail
  refine (sDecOk_any _ _ _).mono ?_
  rintro e w1 ⟨rfl, hb1⟩
  obtain ⟨c0, c1, f0, f1⟩ := (Two.new w m x 25).below hb1 (by simp)
  have hB1 : Below w.heap.size w w1 := Below.trans (by (repeat' (first | assumption | exact Below.refl _ _ | refine Below.alloc ?_ ?_ _ | refine Below.setCell ?_ ?_ _ | refine Below.drew ?_ | refine below_drewN ?_ _)) <;> (first | omega | (simp <;> omega))) (hb1.mono (by simp))
  clear hb1
  cases ho : Dm.ok m x
  · have HT : Hid (textOf m x = []) := by unfold Hid textOf; rw [ho]; rfl
    go_wp2_with fail
    go_ret
    exact ⟨by rw [HT.out]; rfl, hB1⟩
  · have HT : Hid (textOf m x = Tm.text m x) := by unfold Hid textOf; rw [ho]; rfl
    obtain ⟨m1, m2, x1, x2⟩ := Dm.ok_bd ho
    go_wp2_with fail
    refine (l1Text_any m x _ m1 m2 x1 x2).mono ?_
    rintro e w2 ⟨rfl, hb2⟩
    go_wp2_with fail
    go_ret
    exact ⟨by rw [HT.out]; rfl, hB1.trans (hb2.mono hB1.size)⟩
end Go.Proofs.Ytldlfmehplemiaa
