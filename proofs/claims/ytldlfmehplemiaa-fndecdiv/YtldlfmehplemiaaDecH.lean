/- Contracts: l1Abs, l1Quot, quotient. -/
import Derived.Test.YtldlfmehplemiaaDecG
import Derived.Test.YtldlfmehplemiaaDm2
namespace Go.Proofs.Ytldlfmehplemiaa
open Go.RowKit

set_option maxHeartbeats 400000 in
theorem l1Abs_any (n : Int) (w : World) (h1 : -9223372036854775807 ≤ n) (h2 : n ≤ 9223372036854775807) :
    Calls Try.prog 62 #[.int .i64 n] w fun e w' => e = .returned (.int .i64 (n.natAbs : Int)) ∧ w' = w := by
  go_enter Try.func62, Try.ntmps62
  go_wp2
  all_goals
    go_ret
    exact ⟨ret_int (by omega), rfl⟩


set_option maxHeartbeats 1000000 in
theorem l1Quot_any (n m p : Int) (w : World) (hm : m ≠ 0) (m1 : -99999999 ≤ m) (m2 : m ≤ 99999999) (n1 : -99999999 ≤ n) (n2 : n ≤ 99999999) (p1 : -1000 ≤ p) (p2 : p ≤ 1000) :
    Calls Try.prog 61 #[.int .i64 n, .int .i64 m, .int .i64 p] w fun e w' => e = int2 (Dm.quot n m p) ∧ ∃ k, w' = w.drewN k := by
  have hm0 : (m == 0) = false := by simp [hm]
  have d0 := Dm.tdiv_bd n m hm
  have d1 : -99999999 ≤ n.tdiv m := by omega
  have d2 : n.tdiv m ≤ 99999999 := by omega
  have HR : Hid ((n.tmod m).natAbs < m.natAbs) := d0.2
  clear d0
  go_enter Try.func61, Try.ntmps61
  go_wp2_with fail
  go_loop [2, 8, 9] (fun a b c => ∃ p' q r : Int, a = .int .i64 p' ∧ b = .int .i64 q ∧ c = .int .i64 r ∧ -1000 ≤ p' ∧ p' ≤ 1000 ∧ -100000000000000000 ≤ q ∧ q ≤ 100000000000000000 ∧ r.natAbs < m.natAbs ∧ Dm.quotFrom p' q r m = Dm.quot n m p) (fun a _ _ => (intOf a).toNat)
  case atStart => exact ⟨p, _, _, rfl, rfl, rfl, p1, p2, by omega, by omega, HR.out, rfl⟩
  case round =>
    obtain ⟨p', q, r, rfl, rfl, rfl, a1, a2, a3, a4, hr, hq⟩ := hrel
    have HQ : Hid (Dm.quotFrom p' q r m = Dm.quot n m p) := hq
    have HRR : Hid (r.natAbs < m.natAbs) := hr
    have r1 : -99999999 < r := by omega
    have r2 : r < 99999999 := by omega
    clear hq hr HR d1 d2
    by_cases hp : 0 < p'
    · have HU : Hid (Dm.quotFrom p' q r m = if -100000000000000000 ≤ q * 10 + (r * 10).tdiv m ∧ q * 10 + (r * 10).tdiv m ≤ 100000000000000000 then Dm.quotFrom (p' - 1) (q * 10 + (r * 10).tdiv m) ((r * 10).tmod m) m else (0, false)) := Dm.quotFrom_up hp
      obtain ⟨s1, s2⟩ := Dm.step_bd r m HRR.out
      have HT : Hid (((r * 10).tmod m).natAbs < m.natAbs) := (Dm.tdiv_bd (r * 10) m hm).2
      by_cases hc : -100000000000000000 ≤ q * 10 + (r * 10).tdiv m ∧ q * 10 + (r * 10).tdiv m ≤ 100000000000000000
      · have HV : Hid (Dm.quotFrom (p' - 1) (q * 10 + (r * 10).tdiv m) ((r * 10).tmod m) m = Dm.quot n m p) := by unfold Hid; rw [← HQ.out, HU.out, if_pos hc]
        obtain ⟨hc1, hc2⟩ := hc
        go_wp2_with (go_at_call 68; refine (l1Big_any _ _).mono ?_; rintro e w' ⟨rfl, rfl⟩)
        go_round
        case rel => exact ⟨_, _, _, rfl, rfl, rfl, by omega, by omega, hc1, hc2, HT.out, HV.out⟩
        case measure => simp [intOf]; omega
      · have HV : Hid (Dm.quot n m p = (0, false)) := by unfold Hid; rw [← HQ.out, HU.out, if_neg hc]
        have hcc : q * 10 + (r * 10).tdiv m < -100000000000000000 ∨ 100000000000000000 < q * 10 + (r * 10).tdiv m := by omega
        clear hc
        rcases hcc with hc | hc
        · have hb : decide (-100000000000000000 ≤ q * 10 + (r * 10).tdiv m) = false := by simp; omega
          go_wp2_with (go_at_call 68; refine (l1Big_any _ _).mono ?_; rintro e w' ⟨rfl, rfl⟩)
          go_ret2
          exact ⟨by rw [HV.out]; rfl, ⟨0, rfl⟩⟩
        · have hb : decide (q * 10 + (r * 10).tdiv m ≤ 100000000000000000) = false := by simp; omega
          go_wp2_with (go_at_call 68; refine (l1Big_any _ _).mono ?_; rintro e w' ⟨rfl, rfl⟩)
          go_ret2
          exact ⟨by rw [HV.out]; rfl, ⟨0, rfl⟩⟩
    · go_wp2_with fail
      clear HRR r1 r2
      go_loop [2, 8] (fun a b => ∃ p' q r : Int, a = .int .i64 p' ∧ b = .int .i64 q ∧ -1000 ≤ p' ∧ p' ≤ 0 ∧ -100000000000000000 ≤ q ∧ q ≤ 100000000000000000 ∧ Dm.quotFrom p' q r m = Dm.quot n m p) (fun a _ => (-(intOf a)).toNat)
      case atStart => exact ⟨p', _, _, rfl, rfl, by omega, by omega, by omega, by omega, HQ.out⟩
      case round =>
        clear HQ a1 a2 a3 a4 hp
        obtain ⟨p', q, r, rfl, rfl, a1, a2, a3, a4, hq⟩ := hrel
        have HQ : Hid (Dm.quotFrom p' q r m = Dm.quot n m p) := hq
        clear hq
        by_cases hp : p' < 0
        · have HU : Hid (Dm.quotFrom (p' + 1) (q.tdiv 10) r m = Dm.quot n m p) := by unfold Hid; rw [← HQ.out, Dm.quotFrom_down hp]
          have t0 := Dm.tdiv_bd q 10 (by omega)
          have t1 : -100000000000000000 ≤ q.tdiv 10 := by omega
          have t2 : q.tdiv 10 ≤ 100000000000000000 := by omega
          clear t0
          go_wp2_with fail
          go_round
          case rel => exact ⟨_, _, _, rfl, rfl, by omega, by omega, t1, t2, HU.out⟩
          case measure => simp [intOf]; omega
        · have hp0 : p' = 0 := by omega
          subst hp0
          go_wp2_with fail
          go_ret2
          exact ⟨by rw [← HQ.out]; rfl, ⟨0, rfl⟩⟩

set_option maxHeartbeats 1000000 in
theorem quotient_any (n m p : Int) (w : World) (hm : m ≠ 0) (m1 : -99999999 ≤ m) (m2 : m ≤ 99999999) (n1 : -99999999 ≤ n) (n2 : n ≤ 99999999) (p1 : -1000 ≤ p) (p2 : p ≤ 1000) :
    Calls Try.prog 41 #[.int .i64 n, .int .i64 m, .int .i64 p] w fun e w' => e = int2 (Dm.quot n m p) ∧ ∃ k, w' = w.drewN k := by
  have hm0 : (m == 0) = false := by simp [hm]
  have d0 := Dm.tdiv_bd n m hm
  have d1 : -99999999 ≤ n.tdiv m := by omega
  have d2 : n.tdiv m ≤ 99999999 := by omega
  have HR : Hid ((n.tmod m).natAbs < m.natAbs) := d0.2
  clear d0
  go_enter Try.func41, Try.ntmps41
  go_wp2_with fail
  go_quiet (fail)
  go_wp2_with fail
  go_loopw [2, 8, 9] (fun a b c wr => ∃ p' q r : Int, a = .int .i64 p' ∧ b = .int .i64 q ∧ c = .int .i64 r ∧ -1000 ≤ p' ∧ p' ≤ 1000 ∧ -100000000000000000 ≤ q ∧ q ≤ 100000000000000000 ∧ r.natAbs < m.natAbs ∧ Dm.quotFrom p' q r m = Dm.quot n m p ∧ ∃ k, wr = w.drewN k) (fun a _ _ _ => (intOf a).toNat)
  case atStart => exact ⟨p, _, _, rfl, rfl, rfl, p1, p2, by omega, by omega, HR.out, rfl, ⟨_, rfl⟩⟩
  case round =>
    obtain ⟨p', q, r, rfl, rfl, rfl, a1, a2, a3, a4, hr, hq, ⟨kw, rfl⟩⟩ := hrel
    have HQ : Hid (Dm.quotFrom p' q r m = Dm.quot n m p) := hq
    have HRR : Hid (r.natAbs < m.natAbs) := hr
    have r1 : -99999999 < r := by omega
    have r2 : r < 99999999 := by omega
    clear hq hr HR d1 d2
    by_cases hp : 0 < p'
    · have HU : Hid (Dm.quotFrom p' q r m = if -100000000000000000 ≤ q * 10 + (r * 10).tdiv m ∧ q * 10 + (r * 10).tdiv m ≤ 100000000000000000 then Dm.quotFrom (p' - 1) (q * 10 + (r * 10).tdiv m) ((r * 10).tmod m) m else (0, false)) := Dm.quotFrom_up hp
      obtain ⟨s1, s2⟩ := Dm.step_bd r m HRR.out
      have HT : Hid (((r * 10).tmod m).natAbs < m.natAbs) := (Dm.tdiv_bd (r * 10) m hm).2
      by_cases hc : -100000000000000000 ≤ q * 10 + (r * 10).tdiv m ∧ q * 10 + (r * 10).tdiv m ≤ 100000000000000000
      · have HV : Hid (Dm.quotFrom (p' - 1) (q * 10 + (r * 10).tdiv m) ((r * 10).tmod m) m = Dm.quot n m p) := by unfold Hid; rw [← HQ.out, HU.out, if_pos hc]
        obtain ⟨hc1, hc2⟩ := hc
        go_wp2_with fail
        go_quiet (fail)
        go_wp2_with (go_at_call 50; refine (within_any _ _ _ (by omega) (by omega)).mono ?_; rintro e w' ⟨rfl, rfl⟩)
        go_roundw
        case rel => exact ⟨_, _, _, rfl, rfl, rfl, by omega, by omega, hc1, hc2, HT.out, HV.out, ⟨_, rfl⟩⟩
        case measure => simp [intOf]; omega
      · have HV : Hid (Dm.quot n m p = (0, false)) := by unfold Hid; rw [← HQ.out, HU.out, if_neg hc]
        have hcc : q * 10 + (r * 10).tdiv m < -100000000000000000 ∨ 100000000000000000 < q * 10 + (r * 10).tdiv m := by omega
        clear hc
        rcases hcc with hc | hc
        · have hb : decide (-100000000000000000 ≤ q * 10 + (r * 10).tdiv m) = false := by simp; omega
          go_wp2_with fail
          go_quiet (fail)
          go_wp2_with (go_at_call 50; refine (within_any _ _ _ (by omega) (by omega)).mono ?_; rintro e w' ⟨rfl, rfl⟩)
          go_ret2
          exact ⟨by rw [HV.out]; rfl, ⟨_, rfl⟩⟩
        · have hb : decide (q * 10 + (r * 10).tdiv m ≤ 100000000000000000) = false := by simp; omega
          go_wp2_with fail
          go_quiet (fail)
          go_wp2_with (go_at_call 50; refine (within_any _ _ _ (by omega) (by omega)).mono ?_; rintro e w' ⟨rfl, rfl⟩)
          go_ret2
          exact ⟨by rw [HV.out]; rfl, ⟨_, rfl⟩⟩
    · go_wp2_with fail
      clear HRR r1 r2
      go_loopw [2, 8] (fun a b wr => ∃ p' q r : Int, a = .int .i64 p' ∧ b = .int .i64 q ∧ -1000 ≤ p' ∧ p' ≤ 0 ∧ -100000000000000000 ≤ q ∧ q ≤ 100000000000000000 ∧ Dm.quotFrom p' q r m = Dm.quot n m p ∧ ∃ k, wr = w.drewN k) (fun a _ _ => (-(intOf a)).toNat)
      case atStart => exact ⟨p', _, _, rfl, rfl, by omega, by omega, by omega, by omega, HQ.out, ⟨_, rfl⟩⟩
      case round =>
        clear HQ a1 a2 a3 a4 hp
        obtain ⟨p', q, r, rfl, rfl, a1, a2, a3, a4, hq, ⟨kw, rfl⟩⟩ := hrel
        have HQ : Hid (Dm.quotFrom p' q r m = Dm.quot n m p) := hq
        clear hq
        by_cases hp : p' < 0
        · have HU : Hid (Dm.quotFrom (p' + 1) (q.tdiv 10) r m = Dm.quot n m p) := by unfold Hid; rw [← HQ.out, Dm.quotFrom_down hp]
          have t0 := Dm.tdiv_bd q 10 (by omega)
          have t1 : -100000000000000000 ≤ q.tdiv 10 := by omega
          have t2 : q.tdiv 10 ≤ 100000000000000000 := by omega
          clear t0
          go_wp2_with fail
          go_roundw
          case rel => exact ⟨_, _, _, rfl, rfl, by omega, by omega, t1, t2, HU.out, ⟨_, rfl⟩⟩
          case measure => simp [intOf]; omega
        · have hp0 : p' = 0 := by omega
          subst hp0
          go_wp2_with fail
          go_ret2
          exact ⟨by rw [← HQ.out]; rfl, ⟨_, rfl⟩⟩
end Go.Proofs.Ytldlfmehplemiaa
