/- My own texts, joined: DecL DecF Held DecG DecH DecM Cb. -/
import Derived.Test.YtalncebnahlmdaaJFnValueCmp15
import Derived.Test.YtalncebnahlmdaaJFnValueCmp5
import Derived.Deep.RegionHeld3
import Derived.Laws.IdiomStrings
import Derived.Test.YtalncebnahlmdaaJFnValueCmp0
import Derived.Deep.DeepCutAuto
import Derived.OpenShut
import Derived.Test.YtalncebnahlmdaaJFnValueCmp6
import Derived.Test.YtalncebnahlmdaaJFnValueCmp4
import Derived.Laws.Externs
/- Contracts: l1Dec (the decimal text of a whole number). -/
namespace Go.Proofs.Ytalncebnahlmdaa
open Go.RowKit
attribute [local go_sem] cell_alloc_is frozen_alloc_is

theorem conv_one (W : World) (b : Nat) (c : Int) (h0 : 0 ≤ c) (h1 : c ≤ 255) (hc : W.cell? ⟨b, 0, none⟩ = some (.int .u8 c)) :
    (convert 22 9 (.slice (some ⟨b, 0, none⟩) 1 1)).run Try.prog W = .ok (.string ⟨#[UInt8.ofNat c.toNat]⟩) W := by
  have e : (UInt8.ofNat c.toNat).toNat = c.toNat := by rw [UInt8.toNat_ofNat']; omega
  exact run_convert_bytes_back (P := Try.prog) W 22 9 5 ⟨b, 0, none⟩ 1 [UInt8.ofNat c.toNat] Try.underlying22 Try.underlying5 Try.underlying9 (by
    intro j hj
    have hj0 : j = 0 := by simp at hj; omega
    subst hj0
    simp only [List.getElem_cons_zero, e]
    rw [show ((c.toNat : Nat) : Int) = c from by omega]
    exact hc)

theorem hideIt2 {p : Prop} (h : p) : Hid p := h
set_option maxHeartbeats 1000000 in
theorem l1Dec_small (k : Nat) (n : Int) (w : World) (h1 : 0 ≤ n) (hn : n < 10) :
    Calls Try.prog 108 #[.int .i64 n] w fun e w' => e = .returned (.string ⟨(Dm.digs (k + 1) n.toNat).toArray⟩) ∧ Below w.heap.size w w' := by
  have hcv := fun W b => conv_one W b (48 + n) (by omega) (by omega)
  have HF : Hid (Dm.digs (k + 1) n.toNat = [UInt8.ofNat (48 + n).toNat]) := by
    unfold Hid; rw [Dm.digs, if_pos (by omega), show (48 + n).toNat = 48 + n.toNat from by omega]
  go_enter Try.func108, Try.ntmps108
  go_wp2_with fail
  go_ret
  exact ⟨by rw [HF.out]; rfl, (by (repeat' (first | assumption | exact Below.refl _ _ | refine Below.alloc ?_ ?_ _ | refine Below.setCell ?_ ?_ _ | refine Below.drew ?_ | refine below_drewN ?_ _)) <;> (first | omega | (simp <;> omega)))⟩

set_option maxHeartbeats 1000000 in
theorem l1Dec_any (k : Nat) : ∀ (n : Int) (w : World), k ≤ 30 → 0 ≤ n → n < 10 ^ (k + 1) → n ≤ 9223372036854775807 →
    Calls Try.prog 108 #[.int .i64 n] w fun e w' => e = .returned (.string ⟨(Dm.digs (k + 1) n.toNat).toArray⟩) ∧ Below w.heap.size w w' := by
  induction k with
  | zero => intro n w _ h1 h2 h3; exact l1Dec_small 0 n w h1 (by simpa using h2)
  | succ k ih =>
    intro n w hk h1 h2 h3
    by_cases hn : n < 10
    · exact l1Dec_small _ n w h1 hn
    · have hcv := fun W b => conv_one W b (48 + n % 10) (by omega) (by omega)
      have h10 : n / 10 < 10 ^ (k + 1) := by rw [Int.pow_succ] at h2; omega
      obtain ⟨s, hs⟩ : ∃ s : ByteArray, s = ⟨(Dm.digs (k + 1) (n / 10).toNat).toArray⟩ := ⟨_, rfl⟩
      have IH : Hid (∀ w : World, Calls Try.prog 108 #[.int .i64 (n / 10)] w fun e w' => e = .returned (.string s) ∧ Below w.heap.size w w') := fun w => by rw [hs]; exact ih (n / 10) w (by omega) (by omega) h10 (by omega)
      have HF : Hid ((⟨(Dm.digs (k + 1 + 1) n.toNat).toArray⟩ : ByteArray) = s ++ ⟨#[UInt8.ofNat (48 + n % 10).toNat]⟩) := by
        unfold Hid; rw [hs, Dm.digs, if_neg (by omega), show (48 + n % 10).toNat = 48 + n.toNat % 10 from by omega, show (n / 10).toNat = n.toNat / 10 from by omega]; exact ByteArray.ext (by simp)
      have hsz : s.size ≤ 40 := by rw [hs]; have := Dm.digs_len (k + 1) (n / 10).toNat; simp only [ByteArray.size, List.size_toArray]; omega
      clear h2 ih h10 hs
      rw [HF.out]
      clear HF
      have hw1 : IntKind.i64.wrap (n.tdiv 10) = n / 10 := by rw [Int.tdiv_eq_ediv_of_nonneg h1, IntKind.wrap_i64]; omega
      have hw2 : n.tmod 10 = n % 10 := Int.tmod_eq_emod_of_nonneg h1
      have hw3 : IntKind.i64.wrap (48 + n % 10) = 48 + n % 10 := by rw [IntKind.wrap_i64]; omega
      have hw4 : IntKind.u8.wrap (48 + n % 10) = 48 + n % 10 := by rw [IntKind.wrap_u8]; omega
      go_enter Try.func108, Try.ntmps108
      go_wp2_with fail
      go_region_with (go_at_call 108; refine (IH.out _).mono ?_; rintro e w1 ⟨rfl, hb1⟩; obtain ⟨hc, hf⟩ := bsome hb1)
      all_goals
        go_wp2
        go_ret
        refine ⟨rfl, ?_⟩
        (repeat' (first | exact Below.refl _ _ | refine Below.alloc ?_ ?_ _ | refine Below.drew ?_ | refine Below.trans ?_ (hb1.mono ?_))) <;> (first | omega | (simp; done) | (have := hb1.size; simp at this; omega) | (simp; omega))
end Go.Proofs.Ytalncebnahlmdaa
/- Contracts: l1Add, DecAdd of both sides. -/
namespace Go.Proofs.Ytalncebnahlmdaa
open Go.RowKit

theorem hideIt {p : Prop} (h : p) : Hid p := h
theorem Dm.up_bd (k : Nat) (n : Int) (h1 : -1000000000 ≤ n) (h2 : n ≤ 1000000000) : -1000000000 ≤ (Dm.up k n).1 ∧ (Dm.up k n).1 ≤ 1000000000 := by
  induction k generalizing n with
  | zero => exact ⟨h1, h2⟩
  | succ k ih =>
    rw [Dm.up]
    by_cases h : 1000000000 < n * 10 ∨ n * 10 < -1000000000
    · rw [if_pos h]; exact ⟨by decide, by decide⟩
    · rw [if_neg h]; exact ih _ (by omega) (by omega)

end Go.Proofs.Ytalncebnahlmdaa
/- What is held of the world while two decimals that lie in memory are handed on to calls, in whatever order. -/
namespace Go.Proofs.Ytalncebnahlmdaa
open Go.RowKit

/-- two decimals lie in blocks b and d, and nothing that was there in W0 has turned -/
def Held (W0 : World) (b d : Nat) (m x n y : Int) (w' : World) : Prop :=
  w'.cell? ⟨b, 0, none⟩ = some (.int .i64 m) ∧ w'.cell? ⟨b, 1, none⟩ = some (.int .i64 x) ∧ w'.cell? ⟨d, 0, none⟩ = some (.int .i64 n) ∧ w'.cell? ⟨d, 1, none⟩ = some (.int .i64 y) ∧ Below W0.heap.size W0 w'
theorem lt_of_cell {W : World} {b o : Nat} {v : Value} (h : W.cell? ⟨b, o, none⟩ = some v) : b < W.heap.size := World.block_lt_of_cell? W _ h
theorem Held.below {W0 W w1 : World} {b d : Nat} {m x n y : Int} (h : Held W0 b d m x n y W) (hb : Below W.heap.size W w1) : Held W0 b d m x n y w1 := by
  obtain ⟨h1, h2, h3, h4, h6⟩ := h
  have := hb.size
  have := h6.size
  have b0 := lt_of_cell h1
  have d0 := lt_of_cell h3
  exact ⟨(hb.cell (p := ⟨b, 0, none⟩) b0).trans h1, (hb.cell (p := ⟨b, 1, none⟩) b0).trans h2, (hb.cell (p := ⟨d, 0, none⟩) d0).trans h3, (hb.cell (p := ⟨d, 1, none⟩) d0).trans h4, h6.trans (hb.mono (by omega))⟩
theorem Held.alloc {W0 W : World} {b d : Nat} {m x n y : Int} (h : Held W0 b d m x n y W) (o : Obj) : Held W0 b d m x n y (W.alloc o) := h.below ((Below.refl _ _).alloc (Nat.le_refl _) o)
theorem Held.drew {W0 W : World} {b d : Nat} {m x n y : Int} (h : Held W0 b d m x n y W) : Held W0 b d m x n y W.drew := h.below ((Below.refl _ _).drew)
theorem Held.start {W : World} {b d : Nat} {m x n y : Int} (h1 : W.cell? ⟨b, 0, none⟩ = some (.int .i64 m)) (h2 : W.cell? ⟨b, 1, none⟩ = some (.int .i64 x)) (h3 : W.cell? ⟨d, 0, none⟩ = some (.int .i64 n)) (h4 : W.cell? ⟨d, 1, none⟩ = some (.int .i64 y)) : Held W b d m x n y W :=
  ⟨h1, h2, h3, h4, Below.refl _ _⟩
theorem Held.set {W0 W : World} {b d : Nat} {m x n y : Int} (h : Held W0 b d m x n y W) (hb : b < W0.heap.size) (hd : d < W0.heap.size) {k : Nat} (hk : W0.heap.size ≤ k) (u v : Value) : Held W0 b d m x n y ((W.setCell ⟨k, 0, none⟩ u).setCell ⟨k, 1, none⟩ v) := by
  have q : Below W0.heap.size W ((W.setCell ⟨k, 0, none⟩ u).setCell ⟨k, 1, none⟩ v) := ((Below.refl _ W).setCell (p := ⟨k, 0, none⟩) hk u).setCell (p := ⟨k, 1, none⟩) hk v
  obtain ⟨h1, h2, h3, h4, h6⟩ := h
  exact ⟨(q.cell (p := ⟨b, 0, none⟩) hb).trans h1, (q.cell (p := ⟨b, 1, none⟩) hb).trans h2, (q.cell (p := ⟨d, 0, none⟩) hd).trans h3, (q.cell (p := ⟨d, 1, none⟩) hd).trans h4, h6.trans q⟩

/-- the same, but of blocks below k alone it is said that they have not turned -/
def HeldK (k : Nat) (W0 : World) (b d : Nat) (m x n y : Int) (w' : World) : Prop :=
  w'.cell? ⟨b, 0, none⟩ = some (.int .i64 m) ∧ w'.cell? ⟨b, 1, none⟩ = some (.int .i64 x) ∧ w'.cell? ⟨d, 0, none⟩ = some (.int .i64 n) ∧ w'.cell? ⟨d, 1, none⟩ = some (.int .i64 y) ∧ k ≤ w'.heap.size ∧ Below k W0 w'
theorem HeldK.below {k : Nat} {W0 W w1 : World} {b d : Nat} {m x n y : Int} (h : HeldK k W0 b d m x n y W) (hb : Below W.heap.size W w1) : HeldK k W0 b d m x n y w1 := by
  obtain ⟨h1, h2, h3, h4, h5, h6⟩ := h
  have := hb.size
  have b0 := lt_of_cell h1
  have d0 := lt_of_cell h3
  exact ⟨(hb.cell (p := ⟨b, 0, none⟩) b0).trans h1, (hb.cell (p := ⟨b, 1, none⟩) b0).trans h2, (hb.cell (p := ⟨d, 0, none⟩) d0).trans h3, (hb.cell (p := ⟨d, 1, none⟩) d0).trans h4, by omega, h6.trans (hb.mono (by omega))⟩
theorem HeldK.drew {k : Nat} {W0 W : World} {b d : Nat} {m x n y : Int} (h : HeldK k W0 b d m x n y W) : HeldK k W0 b d m x n y W.drew := h.below ((Below.refl _ _).drew)
theorem HeldK.start {k : Nat} {W : World} {b d : Nat} {m x n y : Int} (h1 : W.cell? ⟨b, 0, none⟩ = some (.int .i64 m)) (h2 : W.cell? ⟨b, 1, none⟩ = some (.int .i64 x)) (h3 : W.cell? ⟨d, 0, none⟩ = some (.int .i64 n)) (h4 : W.cell? ⟨d, 1, none⟩ = some (.int .i64 y)) (h5 : k ≤ W.heap.size) : HeldK k W b d m x n y W :=
  ⟨h1, h2, h3, h4, h5, Below.refl _ _⟩
theorem HeldK.set {k : Nat} {W0 W : World} {b d : Nat} {m x n y : Int} (h : HeldK k W0 b d m x n y W) (hb : b < k) (hd : d < k) {j : Nat} (hk : k ≤ j) (u v : Value) : HeldK k W0 b d m x n y ((W.setCell ⟨j, 0, none⟩ u).setCell ⟨j, 1, none⟩ v) := by
  have q : Below k W ((W.setCell ⟨j, 0, none⟩ u).setCell ⟨j, 1, none⟩ v) := ((Below.refl _ W).setCell (p := ⟨j, 0, none⟩) hk u).setCell (p := ⟨j, 1, none⟩) hk v
  obtain ⟨h1, h2, h3, h4, h5, h6⟩ := h
  have := q.size
  exact ⟨(q.cell (p := ⟨b, 0, none⟩) hb).trans h1, (q.cell (p := ⟨b, 1, none⟩) hb).trans h2, (q.cell (p := ⟨d, 0, none⟩) hd).trans h3, (q.cell (p := ⟨d, 1, none⟩) hd).trans h4, by omega, h6.trans q⟩
end Go.Proofs.Ytalncebnahlmdaa
/- Contracts: l1Neg, opposite, DecSub of both sides. -/
namespace Go.Proofs.Ytalncebnahlmdaa
open Go.RowKit
attribute [local go_sem] cell_alloc_is frozen_alloc_is
theorem wf_bd {n : Int} (h : (Lit.int .i64 n).wf = true) : -9223372036854775808 ≤ n ∧ n ≤ 9223372036854775807 := bounds_i64 h

set_option maxHeartbeats 400000 in
theorem l1Neg_any (m x : Int) (w : World) (h1 : -9223372036854775807 ≤ m) (h2 : m ≤ 9223372036854775807) :
    Calls Try.prog 109 #[.agg #[.int .i64 m, .int .i64 x]] w fun e w' => e = .returned (.agg #[.int .i64 (-m), .int .i64 x]) ∧ Below w.heap.size w w' := by
  go_enter Try.func109, Try.ntmps109
  go_wp2
  exact bodyPost_ret (v := .agg #[.int .i64 (-m), .int .i64 x]) (by simp [results, Try.results109, go_sem]) rfl ⟨rfl, (by (repeat' (first | assumption | exact Below.refl _ _ | refine Below.alloc ?_ ?_ _ | refine Below.setCell ?_ ?_ _ | refine Below.drew ?_ | refine below_drewN ?_ _)) <;> (first | omega | (simp <;> omega)))⟩

end Go.Proofs.Ytalncebnahlmdaa
/- Contracts: l1Abs, l1Quot, quotient. -/
namespace Go.Proofs.Ytalncebnahlmdaa
open Go.RowKit

set_option maxHeartbeats 400000 in
theorem l1Abs_any (n : Int) (w : World) (h1 : -9223372036854775807 ≤ n) (h2 : n ≤ 9223372036854775807) :
    Calls Try.prog 91 #[.int .i64 n] w fun e w' => e = .returned (.int .i64 (n.natAbs : Int)) ∧ w' = w := by
  go_enter Try.func91, Try.ntmps91
  go_wp2
  all_goals
    go_ret
    exact ⟨ret_int (by omega), rfl⟩


end Go.Proofs.Ytalncebnahlmdaa
/- Contracts: l1Sign, l1Digits, cmp.Compare at int, DecCmp of the impl. -/
namespace Go.Proofs.Ytalncebnahlmdaa
open Go.RowKit
attribute [local go_sem] cell_alloc_is frozen_alloc_is

set_option maxHeartbeats 400000 in
theorem l1Sign_any (n : Int) (w : World) :
    Calls Try.prog 63 #[.int .i64 n] w fun e w' => e = .returned (.int .i64 (Dm.sgn n)) ∧ w' = w := by
  rcases Dm.sgn_cases n with ⟨h, e⟩ | ⟨h, e⟩ | ⟨h, e⟩
  · rw [e]; clear e
    go_enter Try.func63, Try.ntmps63
    go_wp2
    go_ret
    exact ⟨rfl, rfl⟩
  · rw [e]; clear e; subst h
    go_enter Try.func63, Try.ntmps63
    go_wp2
    go_ret
    exact ⟨rfl, rfl⟩
  · rw [e]; clear e
    go_enter Try.func63, Try.ntmps63
    go_wp2
    go_ret
    exact ⟨rfl, rfl⟩

set_option maxHeartbeats 400000 in
theorem compare_any (a b : Int) (w : World) :
    Calls Try.prog 59 #[.int .i64 a, .int .i64 b] w fun e w' => e = .returned (.int .i64 (Dm.sgn (a - b))) ∧ w' = w := by
  rcases Dm.sgn_cases (a - b) with ⟨h, e⟩ | ⟨h, e⟩ | ⟨h, e⟩
  · rw [e]; clear e
    have h' : a < b := by omega
    clear h
    go_enter Try.func59, Try.ntmps59
    go_wp2
    go_ret
    exact ⟨rfl, rfl⟩
  · rw [e]; clear e
    have h' : a = b := by omega
    subst h'
    clear h
    go_enter Try.func59, Try.ntmps59
    go_wp2
    go_ret
    exact ⟨rfl, rfl⟩
  · rw [e]; clear e
    have h' : b < a := by omega
    have h2 : ¬ a < b := by omega
    clear h
    go_enter Try.func59, Try.ntmps59
    go_wp2
    go_ret
    exact ⟨rfl, rfl⟩

set_option maxHeartbeats 400000 in
theorem l1Digits_any (n : Int) (w : World) (h1 : 0 ≤ n) (h2 : n ≤ 99999999) :
    Calls Try.prog 90 #[.int .i64 n] w fun e w' => e = .returned (.int .i64 (Dm.dn n)) ∧ Below w.heap.size w w' := by
  have HD : Hid (Dm.dn n = (((⟨(Dm.digs 19 n.toNat).toArray⟩ : ByteArray).size : Nat) : Int)) := by
    unfold Hid; rw [Dm.dn, show n.natAbs = n.toNat from by omega]; rfl
  have hsz : (⟨(Dm.digs 19 n.toNat).toArray⟩ : ByteArray).size ≤ 19 := by have := Dm.digs_len 19 n.toNat; simpa [ByteArray.size] using this
  have IH : Hid (∀ w : World, Calls Try.prog 108 #[.int .i64 n] w fun e w' => e = .returned (.string ⟨(Dm.digs 19 n.toNat).toArray⟩) ∧ Below w.heap.size w w') := fun w => l1Dec_any 18 n w (by omega) h1 (by omega) (by omega)
  rw [HD.out]
  clear HD
  generalize (⟨(Dm.digs 19 n.toNat).toArray⟩ : ByteArray) = s at *
  go_enter Try.func90, Try.ntmps90
  go_wp2_with fail
  refine (IH.out _).mono ?_
  rintro e w1 ⟨rfl, hb1⟩
  go_wp2_with fail
  go_ret
  exact ⟨rfl, hb1⟩

set_option maxHeartbeats 1000000 in
theorem iDecCmp_any (m x n y : Int) (w : World) :
    Calls Try.prog 60 #[.agg #[.int .i64 m, .int .i64 x], .agg #[.int .i64 n, .int .i64 y]] w fun e w' => e = .returned (.int .i64 (Dm.cmp m x n y)) ∧ Below w.heap.size w w' := by
  have pre : ∀ w1 : World, Below ((w.alloc (.cells #[.int .i64 m, .int .i64 x] 24)).alloc (.cells #[.int .i64 n, .int .i64 y] 24)).heap.size ((w.alloc (.cells #[.int .i64 m, .int .i64 x] 24)).alloc (.cells #[.int .i64 n, .int .i64 y] 24)) w1 → Held w1 w.heap.size (w.heap.size + 1) m x n y w1 ∧ Below w.heap.size w w1 := by
    intro w1 hb
    have h0 : Held ((w.alloc (.cells #[.int .i64 m, .int .i64 x] 24)).alloc (.cells #[.int .i64 n, .int .i64 y] 24)) w.heap.size (w.heap.size + 1) m x n y ((w.alloc (.cells #[.int .i64 m, .int .i64 x] 24)).alloc (.cells #[.int .i64 n, .int .i64 y] 24)) := Held.start (by simp) (by simp) (by simp) (by simp)
    have h1 := h0.below hb
    exact ⟨Held.start h1.1 h1.2.1 h1.2.2.1 h1.2.2.2.1, Below.trans (by (repeat' (first | assumption | exact Below.refl _ _ | refine Below.alloc ?_ ?_ _ | refine Below.setCell ?_ ?_ _ | refine Below.drew ?_ | refine below_drewN ?_ _)) <;> (first | omega | (simp <;> omega))) (hb.mono (by simp; omega))⟩
  have PRE := hideIt pre
  clear pre
  go_enter Try.func60, Try.ntmps60
  go_wp2_with fail
  refine (iDecOk_any _ _ _).mono ?_
  rintro e w1 ⟨rfl, hb1⟩
  obtain ⟨H1, hB1⟩ := PRE.out w1 hb1
  clear hb1 PRE
  obtain ⟨a0, a1, b0, b1, -⟩ := id H1
  cases ho : Dm.ok m x
  · have HF : Hid (Dm.cmp m x n y = 0) := by unfold Hid; simp [Dm.cmp, ho]
    go_wp2_with fail
    go_ret
    exact ⟨by rw [HF.out]; rfl, (by (repeat' (first | assumption | exact Below.refl _ _ | refine Below.alloc ?_ ?_ _ | refine Below.setCell ?_ ?_ _ | refine Below.drew ?_ | refine below_drewN ?_ _)) <;> (first | omega | (simp <;> omega)))⟩
  · go_wp2_with fail
    refine (iDecOk_any _ _ _).mono ?_
    rintro e w2 ⟨rfl, hb2⟩
    have H2 := H1.below hb2
    have hB2 := hB1.trans (hb2.mono hB1.size)
    clear H1 hB1 a0 a1 b0 b1
    obtain ⟨a0, a1, b0, b1, -⟩ := id H2
    clear hb2
    cases hp : Dm.ok n y
    · have HF : Hid (Dm.cmp m x n y = 0) := by unfold Hid; simp [Dm.cmp, hp]
      go_wp2_with fail
      go_ret
      exact ⟨by rw [HF.out]; rfl, (by (repeat' (first | assumption | exact Below.refl _ _ | refine Below.alloc ?_ ?_ _ | refine Below.setCell ?_ ?_ _ | refine Below.drew ?_ | refine below_drewN ?_ _)) <;> (first | omega | (simp <;> omega)))⟩
    · have HN := hideIt (Dm.cmp_near ho hp)
      have HA := hideIt (Dm.cmp_far1 ho hp)
      have HB := hideIt (Dm.cmp_far2 ho hp)
      obtain ⟨m1, m2, x1, x2⟩ := Dm.ok_bd ho
      obtain ⟨n1, n2, y1, y2⟩ := Dm.ok_bd hp
      obtain ⟨u1, u2⟩ := Dm.manAt_bd (min x y) ho
      obtain ⟨v1, v2⟩ := Dm.manAt_bd (min x y) hp
      have hmin : (x ≤ y ∧ min x y = x) ∨ (y < x ∧ min x y = y) := by omega
      rcases hmin with ⟨hxy, hmin⟩ | ⟨hxy, hmin⟩
      all_goals
        rw [hmin] at HN HA HB u1 u2 v1 v2
        clear hmin
        go_wp2_with fail
        refine (manAt_any _ _ _ _ ho (by omega) (by omega)).mono ?_
        rintro e w3 ⟨rfl, hb3⟩
        have H3 := H2.below hb3
        have hB3 := hB2.trans (hb3.mono hB2.size)
        clear H2 hB2 a0 a1 b0 b1 hb3
        obtain ⟨a0, a1, b0, b1, -⟩ := id H3
        go_wp2_with fail
        refine (manAt_any _ _ _ _ hp (by omega) (by omega)).mono ?_
        rintro e w4 ⟨rfl, hb4⟩
        have H4 := H3.below hb4
        have hB4 := hB3.trans (hb4.mono hB3.size)
        clear H3 hB3 a0 a1 b0 b1 hb4
        obtain ⟨a0, a1, b0, b1, -⟩ := id H4
        generalize Dm.manAt m x _ = u at *
        generalize Dm.manAt n y _ = v at *
        obtain ⟨u, ub⟩ := u
        obtain ⟨v, vb⟩ := v
        cases ub
        · have HF : Hid (Dm.cmp m x n y = Dm.sgn m) := HA.out rfl
          clear HN HA HB
          go_wp2_with fail
          refine (compare_any _ _ _).mono ?_
          rintro e w5 ⟨rfl, rfl⟩
          go_wp2_with fail
          go_ret
          exact ⟨by rw [HF.out]; rfl, hB4⟩
        · cases vb
          · have HF : Hid (Dm.cmp m x n y = Dm.sgn (-n)) := by unfold Hid; rw [HB.out rfl, Int.zero_sub]
            clear HN HA HB
            go_wp2_with fail
            refine (compare_any _ _ _).mono ?_
            rintro e w5 ⟨rfl, rfl⟩
            go_wp2_with fail
            go_ret
            exact ⟨by rw [HF.out]; rfl, hB4⟩
          · have HF : Hid (Dm.cmp m x n y = Dm.sgn (u - v)) := HN.out rfl rfl
            clear HN HA HB
            go_wp2_with fail
            refine (compare_any _ _ _).mono ?_
            rintro e w5 ⟨rfl, rfl⟩
            go_wp2_with fail
            go_ret
            exact ⟨by rw [HF.out]; rfl, hB4⟩

set_option maxHeartbeats 2000000 in
theorem l1Cmp_any (m x n y : Int) (w : World) (hm : Dm.ok m x = true) (hn : Dm.ok n y = true) :
    Calls Try.prog 64 #[.agg #[.int .i64 m, .int .i64 x], .agg #[.int .i64 n, .int .i64 y]] w fun e w' => e = .returned (.int .i64 (Dm.cmp m x n y)) ∧ Below w.heap.size w w' := by
  rw [← Dm.cmpS_eq hm hn]
  obtain ⟨m1, m2, x1, x2⟩ := Dm.ok_bd hm
  obtain ⟨n1, n2, y1, y2⟩ := Dm.ok_bd hn
  have sb1 : -1 ≤ Dm.sgn m ∧ Dm.sgn m ≤ 1 := by rcases Dm.sgn_cases m with ⟨_, e⟩ | ⟨_, e⟩ | ⟨_, e⟩ <;> omega
  have sb2 : -1 ≤ Dm.sgn n ∧ Dm.sgn n ≤ 1 := by rcases Dm.sgn_cases n with ⟨_, e⟩ | ⟨_, e⟩ | ⟨_, e⟩ <;> omega
  obtain ⟨s1, s2⟩ := sb1
  obtain ⟨s3, s4⟩ := sb2
  obtain ⟨W0, hW0⟩ : ∃ W0, W0 = (w.alloc (.cells #[.int .i64 m, .int .i64 x] 24)).alloc (.cells #[.int .i64 n, .int .i64 y] 24) := ⟨_, rfl⟩
  have hB0 : Below w.heap.size w W0 := by subst hW0; exact (by (repeat' (first | assumption | exact Below.refl _ _ | refine Below.alloc ?_ ?_ _ | refine Below.setCell ?_ ?_ _ | refine Below.drew ?_ | refine below_drewN ?_ _)) <;> (first | omega | (simp <;> omega)))
  have hStart : Held W0 w.heap.size (w.heap.size + 1) m x n y W0 := by subst hW0; exact Held.start (by simp) (by simp) (by simp) (by simp)
  obtain ⟨a0, a1, b0, b1, -⟩ := id hStart
  by_cases hs : Dm.sgn m = Dm.sgn n
  · have hsb : (Dm.sgn m != Dm.sgn n) = false := by simp [hs]
    by_cases hm0 : m = 0
    · have HF : Hid (Dm.cmpS m x n y = 0) := by unfold Hid; rw [Dm.cmpS, if_neg (fun h => h hs), if_pos hm0]
      have hz : (m == 0) = true := by simp [hm0]
      clear hs hm0 hm hn
      go_enter Try.func64, Try.ntmps64
      go_wp2_with fail
      rw [← hW0]
      clear hW0
      go_quiet ((go_at_call 63; exact Calls.quiet_of_same (l1Sign_any _ _)))
      go_wp2_with fail
      go_ret
      exact ⟨by rw [HF.out]; rfl, (by (repeat' (first | assumption | exact Below.refl _ _ | refine Below.alloc ?_ ?_ _ | refine Below.setCell ?_ ?_ _ | refine Below.drew ?_ | refine below_drewN ?_ _)) <;> (first | omega | (simp <;> omega)))⟩
    · have hz : (m == 0) = false := by simp [hm0]
      have hn0 : n ≠ 0 := by
        intro h; rw [h] at hs
        rcases Dm.sgn_cases m with ⟨hb, eb⟩ | ⟨hb, eb⟩ | ⟨hb, eb⟩
        · rw [eb] at hs; simp [Dm.sgn] at hs
        · exact hm0 hb
        · rw [eb] at hs; simp [Dm.sgn] at hs
      have HC : Hid (Dm.cmpS m x n y = if Dm.dn m + x ≠ Dm.dn n + y then Dm.sgn (Dm.dn m + x - (Dm.dn n + y)) * Dm.sgn m else Dm.sgn (m * Dm.p10 (x - y) - n * Dm.p10 (y - x))) := by unfold Hid; rw [Dm.cmpS, if_neg (fun h => h hs), if_neg hm0]
      obtain ⟨dm1, dm2, -, -⟩ := Dm.dn_bd hm hm0
      obtain ⟨dn1, dn2, -, -⟩ := Dm.dn_bd hn hn0
      have HDM : Hid (Dm.dn (m.natAbs : Int) = Dm.dn m) := rfl
      have HDN : Hid (Dm.dn (n.natAbs : Int) = Dm.dn n) := rfl
      have ea1 : (m.natAbs : Int) ≤ 99999999 := by omega
      have ea2 : (n.natAbs : Int) ≤ 99999999 := by omega
      by_cases hd : Dm.dn m + x = Dm.dn n + y
      · have hdb : (Dm.dn m + x != Dm.dn n + y) = false := by simp [hd]
        have HF : Hid (Dm.cmpS m x n y = Dm.sgn (m * Dm.p10 (x - y) - n * Dm.p10 (y - x))) := by unfold Hid; rw [HC.out, if_neg (fun h => h hd)]
        have l1 := Dm.dn_le8 hm hm0
        have l2 := Dm.dn_le8 hn hn0
        have hxy1 : x - y ≤ 7 := by omega
        have hxy2 : y - x ≤ 7 := by omega
        clear HC hs hm hn hd l1 l2
        go_enter Try.func64, Try.ntmps64
        go_wp2_with fail
        rw [← hW0]
        clear hW0
        go_quiet ((go_at_call 63; exact Calls.quiet_of_same (l1Sign_any _ _)))
        go_wp2_with fail
        have hwm : IntKind.i64.wrap (Dm.dn (m.natAbs : Int) + x) = Dm.dn m + x := by rw [HDM.out, IntKind.wrap_i64]; omega
        have hwn : IntKind.i64.wrap (Dm.dn (n.natAbs : Int) + y) = Dm.dn n + y := by rw [HDN.out, IntKind.wrap_i64]; omega
        obtain ⟨W1, hW1⟩ : ∃ W', W' = W0.drewN nq := ⟨_, rfl⟩
        have hB_W1 : Below w.heap.size w W1 := by rw [hW1]; exact below_drewN hB0 _
        have hs_W1 : Held W1 w.heap.size (w.heap.size + 1) m x n y W1 := by rw [hW1]; exact Held.start a0 a1 b0 b1
        rw [← hW1]
        clear hW1 a0 a1 b0 b1
        obtain ⟨a0, a1, b0, b1, -⟩ := id hs_W1
        go_region_held3 (fun w' => w'.cell? ⟨w.heap.size, 0, none⟩ = some (.int .i64 m) ∧ w'.cell? ⟨w.heap.size, 1, none⟩ = some (.int .i64 x) ∧ w'.cell? ⟨w.heap.size + 1, 0, none⟩ = some (.int .i64 n) ∧ w'.cell? ⟨w.heap.size + 1, 1, none⟩ = some (.int .i64 y) ∧ Below W1.heap.size W1 w') (first | exact hs_W1.drew | assumption) (first
          | (go_at_call 91; refine (l1Abs_any _ _ (by omega) (by omega)).mono ?_; rintro e w1 ⟨rfl, rfl⟩)
          | (go_at_call 90; refine (l1Digits_any _ _ (by omega) (by omega)).mono ?_; rintro e w1 ⟨rfl, hb1⟩; have hS : Held W1 w.heap.size (w.heap.size + 1) m x n y w1 := Held.below (by assumption) hb1))
        go_wp2_with fail
        obtain ⟨W2, hW2⟩ : ∃ W', W' = w1 := ⟨_, rfl⟩
        subst hW2
        have hB_W2 : Below w.heap.size w W2 := hB_W1.trans (hS.2.2.2.2.mono hB_W1.size)
        clear a0 a1 b0 b1 hb1
        obtain ⟨a0, a1, b0, b1, -⟩ := id hS
        have hs_W2 : Held W2 w.heap.size (w.heap.size + 1) m x n y W2 := Held.start a0 a1 b0 b1
        clear hS
        go_region_held3 (fun w' => w'.cell? ⟨w.heap.size, 0, none⟩ = some (.int .i64 m) ∧ w'.cell? ⟨w.heap.size, 1, none⟩ = some (.int .i64 x) ∧ w'.cell? ⟨w.heap.size + 1, 0, none⟩ = some (.int .i64 n) ∧ w'.cell? ⟨w.heap.size + 1, 1, none⟩ = some (.int .i64 y) ∧ Below W2.heap.size W2 w') (first | exact hs_W2.drew | assumption) (first
          | (go_at_call 91; refine (l1Abs_any _ _ (by omega) (by omega)).mono ?_; rintro e w1 ⟨rfl, rfl⟩)
          | (go_at_call 90; refine (l1Digits_any _ _ (by omega) (by omega)).mono ?_; rintro e w1 ⟨rfl, hb1⟩; have hS : Held W2 w.heap.size (w.heap.size + 1) m x n y w1 := Held.below (by assumption) hb1))
        go_wp2_with fail
        obtain ⟨W3, hW3⟩ : ∃ W', W' = w1 := ⟨_, rfl⟩
        subst hW3
        have hB_W3 : Below w.heap.size w W3 := hB_W2.trans (hS.2.2.2.2.mono hB_W2.size)
        clear a0 a1 b0 b1 hb1
        obtain ⟨a0, a1, b0, b1, -⟩ := id hS
        have hs_W3 : Held W3 w.heap.size (w.heap.size + 1) m x n y W3 := Held.start a0 a1 b0 b1
        clear hS
        go_loop [7, 9] (fun a b => ∃ e m' : Int, a = .int .i64 m' ∧ b = .int .i64 e ∧ e ≤ x ∧ (e = x ∨ y ≤ e) ∧ m' = m * Dm.p10 (x - e)) (fun _ b => (intOf b - y).toNat)
        case atStart => exact ⟨x, m, rfl, rfl, by omega, .inl rfl, by rw [Int.sub_self, Dm.p10_zero, Int.mul_one]⟩
        case round =>
          obtain ⟨e, m', rfl, rfl, he1, he2, hm'⟩ := hrel
          have HM := hideIt hm'
          clear hm'
          by_cases hlt : y < e
          · have hb := Dm.mul_bd (m := m) (n := Dm.p10 (x - e)) 99999999 10000000 (by omega) m1 m2 (by have := Dm.p10_pos (x - e); omega) (Dm.p10_mono (k := 7) (by omega))
            rw [← HM.out] at hb
            obtain ⟨hb1, hb2⟩ := hb
            have HS : Hid (m' * 10 = m * Dm.p10 (x - (e - 1))) := by
              unfold Hid; rw [HM.out, show x - (e - 1) = (x - e) + 1 from by omega, Dm.p10_succ _ (by omega), Int.mul_assoc]
            go_wp2_with fail
            go_round
            case rel => exact ⟨e - 1, _, rfl, rfl, by omega, .inr (by omega), HS.out⟩
            case measure => simp [intOf]; omega
          · have HM2 : Hid (m' = m * Dm.p10 (x - y)) := by
              unfold Hid; rw [HM.out]
              rcases he2 with h | h
              · rw [h, Int.sub_self, Dm.p10_zero, Dm.p10_nonpos (x - y) (by omega)]
              · rw [show e = y from by omega]
            have hbm : -999999990000000 ≤ m' ∧ m' ≤ 999999990000000 := by
              have hb := Dm.mul_bd (m := m) (n := Dm.p10 (x - y)) 99999999 10000000 (by omega) m1 m2 (by have := Dm.p10_pos (x - y); omega) (Dm.p10_mono (k := 7) (by omega))
              rw [← HM2.out] at hb; omega
            obtain ⟨bm1, bm2⟩ := hbm
            clear HM
            go_wp2_with fail
            go_loop [8, 10] (fun a b => ∃ e n' : Int, a = .int .i64 n' ∧ b = .int .i64 e ∧ e ≤ y ∧ (e = y ∨ x ≤ e) ∧ n' = n * Dm.p10 (y - e)) (fun _ b => (intOf b - x).toNat)
            case atStart => exact ⟨y, n, rfl, rfl, by omega, .inl rfl, by rw [Int.sub_self, Dm.p10_zero, Int.mul_one]⟩
            case round =>
              clear hlt he1 he2
              obtain ⟨e, n', rfl, rfl, he1, he2, hn'⟩ := hrel
              have HM := hideIt hn'
              clear hn'
              by_cases hlt : x < e
              · have hb := Dm.mul_bd (m := n) (n := Dm.p10 (y - e)) 99999999 10000000 (by omega) n1 n2 (by have := Dm.p10_pos (y - e); omega) (Dm.p10_mono (k := 7) (by omega))
                rw [← HM.out] at hb
                obtain ⟨hb1, hb2⟩ := hb
                have HS : Hid (n' * 10 = n * Dm.p10 (y - (e - 1))) := by
                  unfold Hid; rw [HM.out, show y - (e - 1) = (y - e) + 1 from by omega, Dm.p10_succ _ (by omega), Int.mul_assoc]
                go_wp2_with fail
                go_round
                case rel => exact ⟨e - 1, _, rfl, rfl, by omega, .inr (by omega), HS.out⟩
                case measure => simp [intOf]; omega
              · have HN2 : Hid (n' = n * Dm.p10 (y - x)) := by
                  unfold Hid; rw [HM.out]
                  rcases he2 with h | h
                  · rw [h, Int.sub_self, Dm.p10_zero, Dm.p10_nonpos (y - x) (by omega)]
                  · rw [show e = x from by omega]
                have hbn : -999999990000000 ≤ n' ∧ n' ≤ 999999990000000 := by
                  have hb := Dm.mul_bd (m := n) (n := Dm.p10 (y - x)) 99999999 10000000 (by omega) n1 n2 (by have := Dm.p10_pos (y - x); omega) (Dm.p10_mono (k := 7) (by omega))
                  rw [← HN2.out] at hb; omega
                obtain ⟨bn1, bn2⟩ := hbn
                clear HM
                go_wp2_with fail
                refine (l1Sign_any _ _).mono ?_
                rintro e2 w5 ⟨rfl, rfl⟩
                go_wp2_with fail
                go_ret
                exact ⟨by rw [HF.out, ← HM2.out, ← HN2.out]; rfl, hB_W3⟩
      · have hdb : (Dm.dn m + x != Dm.dn n + y) = true := by simpa using hd
        have HF : Hid (Dm.cmpS m x n y = Dm.sgn (Dm.dn m + x - (Dm.dn n + y)) * Dm.sgn m) := by unfold Hid; rw [HC.out, if_pos hd]
        have hsd : -1 ≤ Dm.sgn (Dm.dn m + x - (Dm.dn n + y)) ∧ Dm.sgn (Dm.dn m + x - (Dm.dn n + y)) ≤ 1 := by rcases Dm.sgn_cases (Dm.dn m + x - (Dm.dn n + y)) with ⟨_, e⟩ | ⟨_, e⟩ | ⟨_, e⟩ <;> omega
        have hpr := Dm.mul_bd 1 1 (by omega) hsd.1 hsd.2 s1 s2
        obtain ⟨hpr1, hpr2⟩ := hpr
        clear HC hs hm hn hd hsd
        go_enter Try.func64, Try.ntmps64
        go_wp2_with fail
        rw [← hW0]
        clear hW0
        go_quiet ((go_at_call 63; exact Calls.quiet_of_same (l1Sign_any _ _)))
        go_wp2_with fail
        have hwm : IntKind.i64.wrap (Dm.dn (m.natAbs : Int) + x) = Dm.dn m + x := by rw [HDM.out, IntKind.wrap_i64]; omega
        have hwn : IntKind.i64.wrap (Dm.dn (n.natAbs : Int) + y) = Dm.dn n + y := by rw [HDN.out, IntKind.wrap_i64]; omega
        obtain ⟨W1, hW1⟩ : ∃ W', W' = W0.drewN nq := ⟨_, rfl⟩
        have hB_W1 : Below w.heap.size w W1 := by rw [hW1]; exact below_drewN hB0 _
        have hs_W1 : Held W1 w.heap.size (w.heap.size + 1) m x n y W1 := by rw [hW1]; exact Held.start a0 a1 b0 b1
        rw [← hW1]
        clear hW1 a0 a1 b0 b1
        obtain ⟨a0, a1, b0, b1, -⟩ := id hs_W1
        go_region_held3 (fun w' => w'.cell? ⟨w.heap.size, 0, none⟩ = some (.int .i64 m) ∧ w'.cell? ⟨w.heap.size, 1, none⟩ = some (.int .i64 x) ∧ w'.cell? ⟨w.heap.size + 1, 0, none⟩ = some (.int .i64 n) ∧ w'.cell? ⟨w.heap.size + 1, 1, none⟩ = some (.int .i64 y) ∧ Below W1.heap.size W1 w') (first | exact hs_W1.drew | assumption) (first
          | (go_at_call 91; refine (l1Abs_any _ _ (by omega) (by omega)).mono ?_; rintro e w1 ⟨rfl, rfl⟩)
          | (go_at_call 90; refine (l1Digits_any _ _ (by omega) (by omega)).mono ?_; rintro e w1 ⟨rfl, hb1⟩; have hS : Held W1 w.heap.size (w.heap.size + 1) m x n y w1 := Held.below (by assumption) hb1))
        go_wp2_with fail
        obtain ⟨W2, hW2⟩ : ∃ W', W' = w1 := ⟨_, rfl⟩
        subst hW2
        have hB_W2 : Below w.heap.size w W2 := hB_W1.trans (hS.2.2.2.2.mono hB_W1.size)
        clear a0 a1 b0 b1 hb1
        obtain ⟨a0, a1, b0, b1, -⟩ := id hS
        have hs_W2 : Held W2 w.heap.size (w.heap.size + 1) m x n y W2 := Held.start a0 a1 b0 b1
        clear hS
        go_region_held3 (fun w' => w'.cell? ⟨w.heap.size, 0, none⟩ = some (.int .i64 m) ∧ w'.cell? ⟨w.heap.size, 1, none⟩ = some (.int .i64 x) ∧ w'.cell? ⟨w.heap.size + 1, 0, none⟩ = some (.int .i64 n) ∧ w'.cell? ⟨w.heap.size + 1, 1, none⟩ = some (.int .i64 y) ∧ Below W2.heap.size W2 w') (first | exact hs_W2.drew | assumption) (first
          | (go_at_call 91; refine (l1Abs_any _ _ (by omega) (by omega)).mono ?_; rintro e w1 ⟨rfl, rfl⟩)
          | (go_at_call 90; refine (l1Digits_any _ _ (by omega) (by omega)).mono ?_; rintro e w1 ⟨rfl, hb1⟩; have hS : Held W2 w.heap.size (w.heap.size + 1) m x n y w1 := Held.below (by assumption) hb1))
        go_wp2_with fail
        obtain ⟨W3, hW3⟩ : ∃ W', W' = w1 := ⟨_, rfl⟩
        subst hW3
        have hB_W3 : Below w.heap.size w W3 := hB_W2.trans (hS.2.2.2.2.mono hB_W2.size)
        clear a0 a1 b0 b1 hb1
        obtain ⟨a0, a1, b0, b1, -⟩ := id hS
        have hs_W3 : Held W3 w.heap.size (w.heap.size + 1) m x n y W3 := Held.start a0 a1 b0 b1
        clear hS
        go_quiet ((go_at_call 63; exact Calls.quiet_of_same (l1Sign_any _ _)))
        go_wp2_with fail
        go_ret
        exact ⟨by rw [HF.out]; rfl, below_drewN hB_W3 _⟩
  · have HF : Hid (Dm.cmpS m x n y = Dm.sgn (Dm.sgn m - Dm.sgn n)) := by unfold Hid; rw [Dm.cmpS, if_pos hs]
    have hsb : (Dm.sgn m != Dm.sgn n) = true := by simpa using hs
    clear hs hm hn
    go_enter Try.func64, Try.ntmps64
    go_wp2_with fail
    rw [← hW0]
    clear hW0
    go_quiet ((go_at_call 63; exact Calls.quiet_of_same (l1Sign_any _ _)))
    go_wp2_with fail
    obtain ⟨W1, hW1⟩ : ∃ W', W' = W0.drewN nq := ⟨_, rfl⟩
    have hB_W1 : Below w.heap.size w W1 := by rw [hW1]; exact below_drewN hB0 _
    have hs_W1 : Held W1 w.heap.size (w.heap.size + 1) m x n y W1 := by rw [hW1]; exact Held.start a0 a1 b0 b1
    rw [← hW1]
    clear hW1 a0 a1 b0 b1
    obtain ⟨a0, a1, b0, b1, -⟩ := id hs_W1
    go_quiet ((go_at_call 63; exact Calls.quiet_of_same (l1Sign_any _ _)))
    go_wp2_with fail
    go_ret
    exact ⟨by rw [HF.out]; rfl, (by (repeat' (first | assumption | exact Below.refl _ _ | refine Below.alloc ?_ ?_ _ | refine Below.setCell ?_ ?_ _ | refine Below.drew ?_ | refine below_drewN ?_ _)) <;> (first | omega | (simp <;> omega)))⟩
end Go.Proofs.Ytalncebnahlmdaa
/- How two values stand to each other, by the program: the library's functions and the regions that draw. -/
namespace Go.Proofs.Ytalncebnahlmdaa
open Go.RowKit
theorem hord_three {h g : Hd} (hm : Dm.ok h.m h.e = true) (hn : Dm.ok g.m g.e = true) : (if Dm.sgn (h.k - g.k) = 0 then (if Dm.cmp h.m h.e g.m g.e = 0 then tord h.t g.t else Dm.cmp h.m h.e g.m g.e) else Dm.sgn (h.k - g.k)) = hord h g := by
  have hz := (Dm.sgn_iff (h.k - g.k)).2.2
  by_cases hk : h.k = g.k
  · rw [if_pos (hz.2 (by omega)), hord_dec hk hm hn]
  · rw [if_neg (fun x => hk (by have := hz.1 x; omega))]
    unfold hord
    rw [if_neg hk]
set_option maxRecDepth 100000 in
set_option maxHeartbeats 1000000 in
theorem compareB_any (a b : ByteArray) (w : World) :
    Calls Try.prog 89 #[.string a, .string b] w fun e w' => e = .returned (.int .i64 (tord a b)) ∧ w' = w := by
  go_enter Try.func89, Try.ntmps89
  go_wp2_with fail
  rw [run_callFunc_extern Try.func107 (by kernel_rfl) (by kernel_rfl) (by kernel_rfl) (e := Extern.BytealgCompare.compare) (by kernel_rfl), Lib.run_compareString]
  simp only [Result.andThen]
  rw [Oper.upon_value]
  go_wp2_with fail
  go_ret
  exact ⟨rfl, rfl⟩
set_option maxHeartbeats 1000000 in
theorem compareS_any (a b : ByteArray) (w : World) :
    Calls Try.prog 61 #[.string a, .string b] w fun e w' => e = .returned (.int .i64 (tord a b)) ∧ w' = w := by
  go_enter Try.func61, Try.ntmps61
  go_wp2_with fail
  refine (compareB_any a b _).mono ?_
  rintro e w' ⟨rfl, hw⟩
  subst w'
  go_wp2_with fail
  go_ret
  exact ⟨rfl, rfl⟩
set_option maxHeartbeats 1000000 in
theorem or3_any (x y z : Int) (b : Nat) (w : World) (hr : Row w b [.int .i64 x, .int .i64 y, .int .i64 z]) :
    Calls Try.prog 58 #[.slice (some ⟨b, 0, none⟩) 3 3] w fun e w' => e = .returned (.int .i64 (if x = 0 then (if y = 0 then z else y) else x)) ∧ w' = w := by
  obtain ⟨h0, _⟩ := hr 0 _ rfl
  obtain ⟨h1, _⟩ := hr 1 _ rfl
  obtain ⟨h2, _⟩ := hr 2 _ rfl
  have HR : Hid (x ≠ 0 → (if x = 0 then (if y = 0 then z else y) else x) = x) := fun h => if_neg h
  have HR2 : Hid (x = 0 → y ≠ 0 → (if x = 0 then (if y = 0 then z else y) else x) = y) := fun h h2 => by rw [if_pos h, if_neg h2]
  have HR3 : Hid (x = 0 → y = 0 → (if x = 0 then (if y = 0 then z else y) else x) = z) := fun h h2 => by rw [if_pos h, if_pos h2]
  generalize (if x = 0 then (if y = 0 then z else y) else x) = R at *
  clear hr
  go_enter Try.func58, Try.ntmps58
  go_wp2_with fail
  go_loop [8] (fun i => ∃ j : Nat, i = .int .i64 j ∧ j ≤ 3 ∧ (0 < j → x = 0) ∧ (1 < j → y = 0) ∧ (2 < j → z = 0)) (fun i => 3 - (intOf i).toNat)
  case atStart => exact ⟨0, rfl, by omega, fun h => by omega, fun h => by omega, fun h => by omega⟩
  case round =>
    obtain ⟨j, rfl, hj, hx, hy, hz⟩ := hrel
    have HX : Hid ((0 < j → x = 0) ∧ (1 < j → y = 0) ∧ (2 < j → z = 0)) := ⟨hx, hy, hz⟩
    clear hx hy hz
    obtain rfl | rfl | rfl | rfl : j = 0 ∨ j = 1 ∨ j = 2 ∨ j = 3 := by omega
    · by_cases e : x = 0
      · have e' : (x != 0) = false := by simp [e]
        have HE : Hid (x = 0) := e
        clear e
        go_wp2_with fail
        go_round
        case rel => exact ⟨1, by go_num, by omega, fun _ => HE.out, fun h => by omega, fun h => by omega⟩
        case measure => simp [intOf]
      · have e' : (x != 0) = true := by simp [e]
        go_wp2_with fail
        go_ret
        exact ⟨by rw [HR.out e]; rfl, rfl⟩
    · by_cases e : y = 0
      · have e' : (y != 0) = false := by simp [e]
        have HE : Hid (y = 0) := e
        clear e
        go_wp2_with fail
        go_round
        case rel => exact ⟨2, by go_num, by omega, fun _ => HX.out.1 (by omega), fun _ => HE.out, fun h => by omega⟩
        case measure => simp [intOf]
      · have e' : (y != 0) = true := by simp [e]
        go_wp2_with fail
        go_ret
        exact ⟨by rw [HR2.out (HX.out.1 (by omega)) e]; rfl, rfl⟩
    · by_cases e : z = 0
      · have e' : (z != 0) = false := by simp [e]
        have HE : Hid (z = 0) := e
        clear e
        go_wp2_with fail
        go_round
        case rel => exact ⟨3, by go_num, by omega, fun _ => HX.out.1 (by omega), fun _ => HX.out.2.1 (by omega), fun _ => HE.out⟩
        case measure => simp [intOf]
      · have e' : (z != 0) = true := by simp [e]
        go_wp2_with fail
        go_ret
        exact ⟨by rw [HR3.out (HX.out.1 (by omega)) (HX.out.2.1 (by omega))]; rfl, rfl⟩
    · have hz : z = 0 := HX.out.2.2 (by omega)
      go_wp2_with fail
      go_ret
      exact ⟨by rw [HR3.out (HX.out.1 (by omega)) (HX.out.2.1 (by omega)), hz]; rfl, rfl⟩
set_option maxRecDepth 100000 in
set_option maxHeartbeats 1000000 in
theorem vo1 {Q : Exit → Act → World → Prop} {t0 t1 t4 t5 t6 t7 t8 t9 t10 t11 t12 t13 t14 t15 t16 t17 t18 t19 t20 t21 t22 t23 t24 t25 t26 t27 t28 t29 t30 t31 t32 t33 t34 t35 t36 t37 t38 t39 t40 t41 t42 t43 t44 t45 t46 t47 t48 t49 t50 t51 t52 : Value} {W : World} {A B n c n2 c2 : Nat} {h g : Hd} {a a2 : Option Addr}
    (hA : BxV A h (.slice a n c) W) (hB : BxV B g (.slice a2 n2 c2) W) (hm : Dm.ok h.m h.e = true) (hn : Dm.ok g.m g.e = true)
    (hp : ∀ p d v a w, Q (.panic p) (Act.put a d v) w → Q (.panic p) a w) (h_ : ∀ ws v8 v9 v10 v11 v12 v13 v14 v15 v16 v17 v18 v19 v20 v21 v22 v23 v24, Below W.heap.size W ws → Q .normal { tmps := (t0 :: t1 :: (.pointer (some ⟨A, 0, none⟩)) :: (.pointer (some ⟨B, 0, none⟩)) :: t4 :: (.int .i64 (hord h g)) :: t6 :: t7 :: v8 :: v9 :: v10 :: v11 :: v12 :: v13 :: v14 :: v15 :: v16 :: v17 :: v18 :: v19 :: v20 :: v21 :: v22 :: v23 :: v24 :: t25 :: t26 :: t27 :: t28 :: t29 :: t30 :: t31 :: t32 :: t33 :: t34 :: t35 :: t36 :: t37 :: t38 :: t39 :: t40 :: t41 :: t42 :: t43 :: t44 :: t45 :: t46 :: t47 :: t48 :: t49 :: t50 :: t51 :: t52 :: []).toArray, defers := [] } ws) :
    Code.wp Try.prog (Code.region 1 #[{ dst := some 8, op := Op.fieldAddr 28 (Operand.tmp 2) 0, type := 0, pos := "l13_patch.go:184", after := #[], guard := none }, { dst := some 9, op := Op.load 3 (Operand.tmp 8), type := 3, pos := "l13_patch.go:184", after := #[{ on := 0, ground := Ground.data }], guard := none }, { dst := some 10, op := Op.fieldAddr 28 (Operand.tmp 3) 0, type := 0, pos := "l13_patch.go:184", after := #[], guard := none }, { dst := some 11, op := Op.load 3 (Operand.tmp 10), type := 3, pos := "l13_patch.go:184", after := #[{ on := 2, ground := Ground.data }], guard := none }, { dst := some 12, op := Op.call { callee := Callee.value (Operand.func 59), args := #[Operand.tmp 9, Operand.tmp 11], argTypes := #[3, 3] }, type := 3, pos := "l13_patch.go:184", after := #[{ on := 1, ground := Ground.data }, { on := 3, ground := Ground.data }], guard := none }, { dst := some 13, op := Op.fieldAddr 28 (Operand.tmp 2) 1, type := 0, pos := "l13_patch.go:184", after := #[], guard := none }, { dst := some 14, op := Op.load 24 (Operand.tmp 13), type := 24, pos := "l13_patch.go:184", after := #[{ on := 5, ground := Ground.data }], guard := none }, { dst := some 15, op := Op.fieldAddr 28 (Operand.tmp 3) 1, type := 0, pos := "l13_patch.go:184", after := #[], guard := none }, { dst := some 16, op := Op.load 24 (Operand.tmp 15), type := 24, pos := "l13_patch.go:184", after := #[{ on := 7, ground := Ground.data }], guard := none }, { dst := some 17, op := Op.call { callee := Callee.value (Operand.func 60), args := #[Operand.tmp 14, Operand.tmp 16], argTypes := #[24, 24] }, type := 3, pos := "l13_patch.go:184", after := #[{ on := 6, ground := Ground.data }, { on := 8, ground := Ground.data }, { on := 4, ground := Ground.chain }], guard := none }, { dst := some 18, op := Op.fieldAddr 28 (Operand.tmp 2) 2, type := 0, pos := "l13_patch.go:184", after := #[], guard := none }, { dst := some 19, op := Op.load 9 (Operand.tmp 18), type := 9, pos := "l13_patch.go:184", after := #[{ on := 10, ground := Ground.data }], guard := none }, { dst := some 20, op := Op.fieldAddr 28 (Operand.tmp 3) 2, type := 0, pos := "l13_patch.go:184", after := #[], guard := none }, { dst := some 21, op := Op.load 9 (Operand.tmp 20), type := 9, pos := "l13_patch.go:184", after := #[{ on := 12, ground := Ground.data }], guard := none }, { dst := some 22, op := Op.call { callee := Callee.value (Operand.func 61), args := #[Operand.tmp 19, Operand.tmp 21], argTypes := #[9, 9] }, type := 3, pos := "l13_patch.go:184", after := #[{ on := 11, ground := Ground.data }, { on := 13, ground := Ground.data }, { on := 9, ground := Ground.chain }], guard := none }, { dst := some 23, op := Op.buildSlice 68 3 #[(0, Operand.tmp 12), (1, Operand.tmp 17), (2, Operand.tmp 22)], type := 68, pos := "l13_patch.go:184", after := #[{ on := 4, ground := Ground.data }, { on := 9, ground := Ground.data }, { on := 14, ground := Ground.data }], guard := none }, { dst := some 24, op := Op.call { callee := Callee.value (Operand.func 58), args := #[Operand.tmp 23], argTypes := #[68] }, type := 3, pos := "l13_patch.go:184", after := #[{ on := 15, ground := Ground.data }, { on := 14, ground := Ground.chain }], guard := none }, { dst := some 5, op := Op.assign (Operand.tmp 24), type := 3, pos := "l13_patch.go:184", after := #[{ on := 16, ground := Ground.data }, { on := 16, ground := Ground.chain }, { on := 0, ground := Ground.phase }, { on := 1, ground := Ground.phase }, { on := 2, ground := Ground.phase }, { on := 3, ground := Ground.phase }, { on := 4, ground := Ground.phase }, { on := 5, ground := Ground.phase }, { on := 6, ground := Ground.phase }, { on := 7, ground := Ground.phase }, { on := 8, ground := Ground.phase }, { on := 9, ground := Ground.phase }, { on := 10, ground := Ground.phase }, { on := 11, ground := Ground.phase }, { on := 12, ground := Ground.phase }, { on := 13, ground := Ground.phase }, { on := 14, ground := Ground.phase }, { on := 15, ground := Ground.phase }, { on := 16, ground := Ground.phase }], guard := none }] true) Q { tmps := (t0 :: t1 :: (.pointer (some ⟨A, 0, none⟩)) :: (.pointer (some ⟨B, 0, none⟩)) :: t4 :: t5 :: t6 :: t7 :: t8 :: t9 :: t10 :: t11 :: t12 :: t13 :: t14 :: t15 :: t16 :: t17 :: t18 :: t19 :: t20 :: t21 :: t22 :: t23 :: t24 :: t25 :: t26 :: t27 :: t28 :: t29 :: t30 :: t31 :: t32 :: t33 :: t34 :: t35 :: t36 :: t37 :: t38 :: t39 :: t40 :: t41 :: t42 :: t43 :: t44 :: t45 :: t46 :: t47 :: t48 :: t49 :: t50 :: t51 :: t52 :: []).toArray, defers := [] } W := by
  have HSof : Hid (∀ w', Below W.heap.size W w' → BxV A h (.slice a n c) w' ∧ BxV B g (.slice a2 n2 c2) w') := fun w' h => ⟨hA.below h, hB.below h⟩
  have hB0 := (Below.refl W.heap.size W).drew
  have hS0 := HSof.out _ hB0
  have HO : Hid ((if Dm.sgn (h.k - g.k) = 0 then (if Dm.cmp h.m h.e g.m g.e = 0 then tord h.t g.t else Dm.cmp h.m h.e g.m g.e) else Dm.sgn (h.k - g.k)) = hord h g) := hord_three hm hn
  clear hA hB hm hn
  refine wp_region_held_drew (S := fun w' => BxV A h (.slice a n c) w' ∧ BxV B g (.slice a2 n2 c2) w') (by kernel_rfl) hS0 (fun hHeld => ?_)
  refine wpAnyH_take (i := 0) (v := .pointer (some ⟨A, 0, none⟩)) rfl (by kernel_rfl) (by kernel_rfl) (by kernel_rfl) (fun _ _ _ h => hp _ _ _ _ _ h) (Or.inl ⟨by rfl, ?_⟩) (by assumption) ?_
  · intro w hSw
    (try dsimp only at hSw)
    go_simp
  (try simp only [Act.put, List.getElem_toArray, List.getElem_cons_zero, List.setIfInBounds_toArray, List.set_cons_zero, List.set_cons_succ])
  refine wpAnyH_take (i := 1) (v := .int .i64 h.k) rfl (by kernel_rfl) (by kernel_rfl) (by kernel_rfl) (fun _ _ _ h => hp _ _ _ _ _ h) (Or.inl ⟨by rfl, ?_⟩) (by assumption) ?_
  · intro w hSw
    (try dsimp only at hSw)
    go_simp
  (try simp only [Act.put, List.getElem_toArray, List.getElem_cons_zero, List.getElem_cons_succ, List.setIfInBounds_toArray, List.set_cons_zero, List.set_cons_succ])
  refine wpAnyH_take (i := 2) (v := .pointer (some ⟨B, 0, none⟩)) rfl (by kernel_rfl) (by kernel_rfl) (by kernel_rfl) (fun _ _ _ h => hp _ _ _ _ _ h) (Or.inl ⟨by rfl, ?_⟩) (by assumption) ?_
  · intro w hSw
    (try dsimp only at hSw)
    go_simp
  (try simp only [Act.put, List.getElem_toArray, List.getElem_cons_zero, List.getElem_cons_succ, List.setIfInBounds_toArray, List.set_cons_zero, List.set_cons_succ])
  refine wpAnyH_take (i := 3) (v := .int .i64 g.k) rfl (by kernel_rfl) (by kernel_rfl) (by kernel_rfl) (fun _ _ _ h => hp _ _ _ _ _ h) (Or.inl ⟨by rfl, ?_⟩) (by assumption) ?_
  · intro w hSw
    (try dsimp only at hSw)
    go_simp
  (try simp only [Act.put, List.getElem_toArray, List.getElem_cons_zero, List.getElem_cons_succ, List.setIfInBounds_toArray, List.set_cons_zero, List.set_cons_succ])
  refine wpAnyH_take (i := 5) (v := .pointer (some ⟨A, 1, none⟩)) rfl (by kernel_rfl) (by kernel_rfl) (by kernel_rfl) (fun _ _ _ h => hp _ _ _ _ _ h) (Or.inl ⟨by rfl, ?_⟩) (by assumption) ?_
  · intro w hSw
    (try dsimp only at hSw)
    go_simp
  (try simp only [Act.put, List.getElem_toArray, List.getElem_cons_zero, List.getElem_cons_succ, List.setIfInBounds_toArray, List.set_cons_zero, List.set_cons_succ])
  refine wpAnyH_take (i := 6) (v := .agg #[.int .i64 h.m, .int .i64 h.e]) rfl (by kernel_rfl) (by kernel_rfl) (by kernel_rfl) (fun _ _ _ h => hp _ _ _ _ _ h) (Or.inl ⟨by rfl, ?_⟩) (by assumption) ?_
  · intro w hSw
    (try dsimp only at hSw)
    go_simp
  (try simp only [Act.put, List.getElem_toArray, List.getElem_cons_zero, List.getElem_cons_succ, List.setIfInBounds_toArray, List.set_cons_zero, List.set_cons_succ])
  refine wpAnyH_take (i := 7) (v := .pointer (some ⟨B, 1, none⟩)) rfl (by kernel_rfl) (by kernel_rfl) (by kernel_rfl) (fun _ _ _ h => hp _ _ _ _ _ h) (Or.inl ⟨by rfl, ?_⟩) (by assumption) ?_
  · intro w hSw
    (try dsimp only at hSw)
    go_simp
  (try simp only [Act.put, List.getElem_toArray, List.getElem_cons_zero, List.getElem_cons_succ, List.setIfInBounds_toArray, List.set_cons_zero, List.set_cons_succ])
  refine wpAnyH_take (i := 8) (v := .agg #[.int .i64 g.m, .int .i64 g.e]) rfl (by kernel_rfl) (by kernel_rfl) (by kernel_rfl) (fun _ _ _ h => hp _ _ _ _ _ h) (Or.inl ⟨by rfl, ?_⟩) (by assumption) ?_
  · intro w hSw
    (try dsimp only at hSw)
    go_simp
  (try simp only [Act.put, List.getElem_toArray, List.getElem_cons_zero, List.getElem_cons_succ, List.setIfInBounds_toArray, List.set_cons_zero, List.set_cons_succ])
  refine wpAnyH_take (i := 10) (v := .pointer (some ⟨A, 3, none⟩)) rfl (by kernel_rfl) (by kernel_rfl) (by kernel_rfl) (fun _ _ _ h => hp _ _ _ _ _ h) (Or.inl ⟨by rfl, ?_⟩) (by assumption) ?_
  · intro w hSw
    (try dsimp only at hSw)
    go_simp
  (try simp only [Act.put, List.getElem_toArray, List.getElem_cons_zero, List.getElem_cons_succ, List.setIfInBounds_toArray, List.set_cons_zero, List.set_cons_succ])
  refine wpAnyH_take (i := 11) (v := .string h.t) rfl (by kernel_rfl) (by kernel_rfl) (by kernel_rfl) (fun _ _ _ h => hp _ _ _ _ _ h) (Or.inl ⟨by rfl, ?_⟩) (by assumption) ?_
  · intro w hSw
    (try dsimp only at hSw)
    go_simp
  (try simp only [Act.put, List.getElem_toArray, List.getElem_cons_zero, List.getElem_cons_succ, List.setIfInBounds_toArray, List.set_cons_zero, List.set_cons_succ])
  refine wpAnyH_take (i := 12) (v := .pointer (some ⟨B, 3, none⟩)) rfl (by kernel_rfl) (by kernel_rfl) (by kernel_rfl) (fun _ _ _ h => hp _ _ _ _ _ h) (Or.inl ⟨by rfl, ?_⟩) (by assumption) ?_
  · intro w hSw
    (try dsimp only at hSw)
    go_simp
  (try simp only [Act.put, List.getElem_toArray, List.getElem_cons_zero, List.getElem_cons_succ, List.setIfInBounds_toArray, List.set_cons_zero, List.set_cons_succ])
  refine wpAnyH_take (i := 13) (v := .string g.t) rfl (by kernel_rfl) (by kernel_rfl) (by kernel_rfl) (fun _ _ _ h => hp _ _ _ _ _ h) (Or.inl ⟨by rfl, ?_⟩) (by assumption) ?_
  · intro w hSw
    (try dsimp only at hSw)
    go_simp
  (try simp only [Act.put, List.getElem_toArray, List.getElem_cons_zero, List.getElem_cons_succ, List.setIfInBounds_toArray, List.set_cons_zero, List.set_cons_succ])
  refine wpAnyH_ready (rs := [4]) (by kernel_rfl) (by simp) ?_
  refine AllReadyH.cons rfl (fun K hK => ?_) AllReadyH.nil
  go_simp
  refine (compare_any _ _ _).mono ?_
  rintro r w1 ⟨rfl, hw1⟩
  subst w1
  go_wp2_with fail
  refine hK.out _ _ (HSof.out _ hB0) (fun hHeld => ?_)
  clear hK K
  refine wpAnyH_ready (rs := [9]) (by kernel_rfl) (by simp) ?_
  refine AllReadyH.cons rfl (fun K hK => ?_) AllReadyH.nil
  go_simp
  refine (iDecCmp_any _ _ _ _ _).mono ?_
  rintro r w2 ⟨rfl, hb2⟩
  have hB2 := hB0.trans (hb2.mono hB0.size)
  go_wp2_with fail
  refine hK.out _ _ (HSof.out _ hB2) (fun hHeld => ?_)
  clear hK K hb2
  refine wpAnyH_ready (rs := [14]) (by kernel_rfl) (by simp) ?_
  refine AllReadyH.cons rfl (fun K hK => ?_) AllReadyH.nil
  go_simp
  refine (compareS_any _ _ _).mono ?_
  rintro r w3 ⟨rfl, hw3⟩
  subst w3
  go_wp2_with fail
  refine hK.out _ _ (HSof.out _ hB2) (fun hHeld => ?_)
  clear hK K
  have hB3 := hB2.alloc hB2.size (.cells #[.int .i64 (Dm.sgn (h.k - g.k)), .int .i64 (Dm.cmp h.m h.e g.m g.e), .int .i64 (tord h.t g.t)] 3)
  have RN := Row.new w2 [.int .i64 (Dm.sgn (h.k - g.k)), .int .i64 (Dm.cmp h.m h.e g.m g.e), .int .i64 (tord h.t g.t)] 3
  refine wpAnyH_ready (rs := [15]) (by kernel_rfl) (by simp) ?_
  refine AllReadyH.cons rfl (fun K hK => ?_) AllReadyH.nil
  go_simp
  refine hK.out _ _ (HSof.out _ hB3) (fun hHeld => ?_)
  clear hK K
  (try simp only [Act.put, List.getElem_toArray, List.getElem_cons_zero, List.getElem_cons_succ, List.setIfInBounds_toArray, List.set_cons_zero, List.set_cons_succ])
  refine wpAnyH_ready (rs := [16]) (by kernel_rfl) (by simp) ?_
  refine AllReadyH.cons rfl (fun K hK => ?_) AllReadyH.nil
  go_simp
  refine (or3_any _ _ _ _ _ RN).mono ?_
  rintro r w5 ⟨rfl, hw5⟩
  subst w5
  rw [HO.out]
  go_wp2_with fail
  refine hK.out _ _ (HSof.out _ hB3) (fun hHeld => ?_)
  clear hK K
  refine wpAnyH_take (i := 17) (v := .int .i64 (hord h g)) rfl (by kernel_rfl) (by kernel_rfl) (by kernel_rfl) (fun _ _ _ h => hp _ _ _ _ _ h) (Or.inl ⟨by rfl, ?_⟩) (by assumption) ?_
  · intro w hSw
    (try dsimp only at hSw)
    go_simp
  (try simp only [Act.put, List.getElem_toArray, List.getElem_cons_zero, List.getElem_cons_succ, List.setIfInBounds_toArray, List.set_cons_zero, List.set_cons_succ])
  refine wpAnyH_done (by kernel_rfl) ?_ _
  exact h_ _ _ _ _ _ _ _ _ _ _ _ _ _ _ _ _ _ _ hB3
set_option maxRecDepth 100000 in
set_option maxHeartbeats 1000000 in
theorem po1n {Q : Exit → Act → World → Prop} {t0 t1 t5 t6 t7 t8 t9 t10 t11 t12 t13 t14 t15 t16 t17 t18 t19 t20 t21 t22 t23 t24 t25 t26 t27 t28 t29 t30 t31 t32 t33 t34 t35 t36 t37 t38 t39 t40 t41 t42 t43 t44 : Value} {W : World} {A B n c j : Nat} {h : Hd} {a : Option Addr}
    (hA : BxV A h (.slice a n c) W) (hk : (h.k == 6) = false)
    (hp : ∀ p d v a w, Q (.panic p) (Act.put a d v) w → Q (.panic p) a w) (h_ : ∀ ws v7 v8 v9 v10 v11 v12 v13 v14 v15 v16 v17 v18 v19 v20 v21, Below W.heap.size W ws → Q .normal { tmps := (t0 :: t1 :: (.int .i64 (j : Nat)) :: (.pointer (some ⟨A, 0, none⟩)) :: (.pointer (some ⟨B, 0, none⟩)) :: t5 :: t6 :: v7 :: v8 :: v9 :: v10 :: v11 :: v12 :: v13 :: v14 :: v15 :: v16 :: v17 :: v18 :: v19 :: v20 :: v21 :: .bool false :: t23 :: t24 :: t25 :: t26 :: t27 :: t28 :: t29 :: t30 :: t31 :: t32 :: t33 :: t34 :: t35 :: t36 :: t37 :: t38 :: t39 :: t40 :: t41 :: t42 :: t43 :: t44 :: []).toArray, defers := [] } ws) :
    Code.wp Try.prog (Code.region 1 #[{ dst := some 7, op := Op.fieldAddr 28 (Operand.tmp 3) 0, type := 0, pos := "l13_patch.go:198", after := #[], guard := none }, { dst := some 8, op := Op.load 3 (Operand.tmp 7), type := 3, pos := "l13_patch.go:198", after := #[{ on := 0, ground := Ground.data }], guard := none }, { dst := some 9, op := Op.binOp BinOp.eql 3 (Operand.tmp 8) (Operand.const (Value.int IntKind.i64 6)) 3, type := 4, pos := "l13_patch.go:198", after := #[{ on := 1, ground := Ground.data }], guard := none }, { dst := some 10, op := Op.move (Operand.tmp 9), type := 4, pos := "l13_patch.go:198", after := #[{ on := 2, ground := Ground.data }], guard := none }, { dst := some 11, op := Op.fieldAddr 28 (Operand.tmp 3) 4, type := 0, pos := "l13_patch.go:198", after := #[{ on := 3, ground := Ground.guard }], guard := some (3, true) }, { dst := some 12, op := Op.load 26 (Operand.tmp 11), type := 26, pos := "l13_patch.go:198", after := #[{ on := 4, ground := Ground.data }, { on := 3, ground := Ground.guard }], guard := some (3, true) }, { dst := some 13, op := Op.move (Operand.tmp 2), type := 3, pos := "l13_patch.go:198", after := #[{ on := 3, ground := Ground.guard }], guard := some (3, true) }, { dst := some 14, op := Op.indexAddr 26 (Operand.tmp 12) (Operand.tmp 13), type := 0, pos := "l13_patch.go:198", after := #[{ on := 5, ground := Ground.data }, { on := 6, ground := Ground.data }, { on := 3, ground := Ground.guard }], guard := some (3, true) }, { dst := some 15, op := Op.load 9 (Operand.tmp 14), type := 9, pos := "l13_patch.go:198", after := #[{ on := 7, ground := Ground.data }, { on := 3, ground := Ground.guard }], guard := some (3, true) }, { dst := some 16, op := Op.fieldAddr 28 (Operand.tmp 4) 4, type := 0, pos := "l13_patch.go:198", after := #[{ on := 3, ground := Ground.guard }], guard := some (3, true) }, { dst := some 17, op := Op.load 26 (Operand.tmp 16), type := 26, pos := "l13_patch.go:198", after := #[{ on := 9, ground := Ground.data }, { on := 3, ground := Ground.guard }], guard := some (3, true) }, { dst := some 18, op := Op.move (Operand.tmp 2), type := 3, pos := "l13_patch.go:198", after := #[{ on := 3, ground := Ground.guard }], guard := some (3, true) }, { dst := some 19, op := Op.indexAddr 26 (Operand.tmp 17) (Operand.tmp 18), type := 0, pos := "l13_patch.go:198", after := #[{ on := 10, ground := Ground.data }, { on := 11, ground := Ground.data }, { on := 3, ground := Ground.guard }], guard := some (3, true) }, { dst := some 20, op := Op.load 9 (Operand.tmp 19), type := 9, pos := "l13_patch.go:198", after := #[{ on := 12, ground := Ground.data }, { on := 3, ground := Ground.guard }], guard := some (3, true) }, { dst := some 21, op := Op.binOp BinOp.neq 9 (Operand.tmp 15) (Operand.tmp 20) 9, type := 4, pos := "l13_patch.go:198", after := #[{ on := 8, ground := Ground.data }, { on := 13, ground := Ground.data }, { on := 3, ground := Ground.guard }], guard := some (3, true) }, { dst := some 22, op := Op.pick (Operand.tmp 10) (Operand.tmp 21) (Operand.const (Value.bool false)), type := 4, pos := "l13_patch.go:198", after := #[{ on := 3, ground := Ground.data }, { on := 14, ground := Ground.data }], guard := none }] true) Q { tmps := (t0 :: t1 :: (.int .i64 (j : Nat)) :: (.pointer (some ⟨A, 0, none⟩)) :: (.pointer (some ⟨B, 0, none⟩)) :: t5 :: t6 :: t7 :: t8 :: t9 :: t10 :: t11 :: t12 :: t13 :: t14 :: t15 :: t16 :: t17 :: t18 :: t19 :: t20 :: t21 :: t22 :: t23 :: t24 :: t25 :: t26 :: t27 :: t28 :: t29 :: t30 :: t31 :: t32 :: t33 :: t34 :: t35 :: t36 :: t37 :: t38 :: t39 :: t40 :: t41 :: t42 :: t43 :: t44 :: []).toArray, defers := [] } W := by
  have HSof : Hid (∀ w', Below W.heap.size W w' → w'.cell? ⟨A, 0, none⟩ = some (.int .i64 h.k)) := fun w' h => (hA.below h).1
  have hB0 := (Below.refl W.heap.size W).drew
  have hS0 := HSof.out _ hB0
  clear hA
  refine wp_region_held_drew (S := fun w' => w'.cell? ⟨A, 0, none⟩ = some (.int .i64 h.k)) (by kernel_rfl) hS0 (fun hHeld => ?_)
  refine wpAnyH_take (i := 0) (v := .pointer (some ⟨A, 0, none⟩)) rfl (by kernel_rfl) (by kernel_rfl) (by kernel_rfl) (fun _ _ _ h => hp _ _ _ _ _ h) (Or.inl ⟨by rfl, ?_⟩) (by assumption) ?_
  · intro w hSw
    (try dsimp only at hSw)
    go_simp
  (try simp only [Act.put, List.getElem_toArray, List.getElem_cons_zero, List.setIfInBounds_toArray, List.set_cons_zero, List.set_cons_succ])
  refine wpAnyH_take (i := 1) (v := .int .i64 h.k) rfl (by kernel_rfl) (by kernel_rfl) (by kernel_rfl) (fun _ _ _ h => hp _ _ _ _ _ h) (Or.inl ⟨by rfl, ?_⟩) (by assumption) ?_
  · intro w hSw
    (try dsimp only at hSw)
    go_simp
  (try simp only [Act.put, List.getElem_toArray, List.getElem_cons_zero, List.getElem_cons_succ, List.setIfInBounds_toArray, List.set_cons_zero, List.set_cons_succ])
  refine wpAnyH_take (i := 2) (v := .bool false) rfl (by kernel_rfl) (by kernel_rfl) (by kernel_rfl) (fun _ _ _ h => hp _ _ _ _ _ h) (Or.inl ⟨by rfl, ?_⟩) (by assumption) ?_
  · intro w hSw
    (try dsimp only at hSw)
    go_simp
  (try simp only [Act.put, List.getElem_toArray, List.getElem_cons_zero, List.getElem_cons_succ, List.setIfInBounds_toArray, List.set_cons_zero, List.set_cons_succ])
  refine wpAnyH_take (i := 3) (v := .bool false) rfl (by kernel_rfl) (by kernel_rfl) (by kernel_rfl) (fun _ _ _ h => hp _ _ _ _ _ h) (Or.inl ⟨by rfl, ?_⟩) (by assumption) ?_
  · intro w hSw
    (try dsimp only at hSw)
    go_simp
  (try simp only [Act.put, List.getElem_toArray, List.getElem_cons_zero, List.getElem_cons_succ, List.setIfInBounds_toArray, List.set_cons_zero, List.set_cons_succ])
  refine wpAnyH_take (i := 4) (v := undef) rfl (by kernel_rfl) (by kernel_rfl) (by kernel_rfl) (fun _ _ _ h => hp _ _ _ _ _ h) (Or.inr ⟨by rfl, rfl⟩) (by assumption) ?_
  (try simp only [Act.put, List.getElem_toArray, List.getElem_cons_zero, List.getElem_cons_succ, List.setIfInBounds_toArray, List.set_cons_zero, List.set_cons_succ])
  refine wpAnyH_take (i := 5) (v := undef) rfl (by kernel_rfl) (by kernel_rfl) (by kernel_rfl) (fun _ _ _ h => hp _ _ _ _ _ h) (Or.inr ⟨by rfl, rfl⟩) (by assumption) ?_
  (try simp only [Act.put, List.getElem_toArray, List.getElem_cons_zero, List.getElem_cons_succ, List.setIfInBounds_toArray, List.set_cons_zero, List.set_cons_succ])
  refine wpAnyH_take (i := 6) (v := undef) rfl (by kernel_rfl) (by kernel_rfl) (by kernel_rfl) (fun _ _ _ h => hp _ _ _ _ _ h) (Or.inr ⟨by rfl, rfl⟩) (by assumption) ?_
  (try simp only [Act.put, List.getElem_toArray, List.getElem_cons_zero, List.getElem_cons_succ, List.setIfInBounds_toArray, List.set_cons_zero, List.set_cons_succ])
  refine wpAnyH_take (i := 7) (v := undef) rfl (by kernel_rfl) (by kernel_rfl) (by kernel_rfl) (fun _ _ _ h => hp _ _ _ _ _ h) (Or.inr ⟨by rfl, rfl⟩) (by assumption) ?_
  (try simp only [Act.put, List.getElem_toArray, List.getElem_cons_zero, List.getElem_cons_succ, List.setIfInBounds_toArray, List.set_cons_zero, List.set_cons_succ])
  refine wpAnyH_take (i := 8) (v := undef) rfl (by kernel_rfl) (by kernel_rfl) (by kernel_rfl) (fun _ _ _ h => hp _ _ _ _ _ h) (Or.inr ⟨by rfl, rfl⟩) (by assumption) ?_
  (try simp only [Act.put, List.getElem_toArray, List.getElem_cons_zero, List.getElem_cons_succ, List.setIfInBounds_toArray, List.set_cons_zero, List.set_cons_succ])
  refine wpAnyH_take (i := 9) (v := undef) rfl (by kernel_rfl) (by kernel_rfl) (by kernel_rfl) (fun _ _ _ h => hp _ _ _ _ _ h) (Or.inr ⟨by rfl, rfl⟩) (by assumption) ?_
  (try simp only [Act.put, List.getElem_toArray, List.getElem_cons_zero, List.getElem_cons_succ, List.setIfInBounds_toArray, List.set_cons_zero, List.set_cons_succ])
  refine wpAnyH_take (i := 10) (v := undef) rfl (by kernel_rfl) (by kernel_rfl) (by kernel_rfl) (fun _ _ _ h => hp _ _ _ _ _ h) (Or.inr ⟨by rfl, rfl⟩) (by assumption) ?_
  (try simp only [Act.put, List.getElem_toArray, List.getElem_cons_zero, List.getElem_cons_succ, List.setIfInBounds_toArray, List.set_cons_zero, List.set_cons_succ])
  refine wpAnyH_take (i := 11) (v := undef) rfl (by kernel_rfl) (by kernel_rfl) (by kernel_rfl) (fun _ _ _ h => hp _ _ _ _ _ h) (Or.inr ⟨by rfl, rfl⟩) (by assumption) ?_
  (try simp only [Act.put, List.getElem_toArray, List.getElem_cons_zero, List.getElem_cons_succ, List.setIfInBounds_toArray, List.set_cons_zero, List.set_cons_succ])
  refine wpAnyH_take (i := 12) (v := undef) rfl (by kernel_rfl) (by kernel_rfl) (by kernel_rfl) (fun _ _ _ h => hp _ _ _ _ _ h) (Or.inr ⟨by rfl, rfl⟩) (by assumption) ?_
  (try simp only [Act.put, List.getElem_toArray, List.getElem_cons_zero, List.getElem_cons_succ, List.setIfInBounds_toArray, List.set_cons_zero, List.set_cons_succ])
  refine wpAnyH_take (i := 13) (v := undef) rfl (by kernel_rfl) (by kernel_rfl) (by kernel_rfl) (fun _ _ _ h => hp _ _ _ _ _ h) (Or.inr ⟨by rfl, rfl⟩) (by assumption) ?_
  (try simp only [Act.put, List.getElem_toArray, List.getElem_cons_zero, List.getElem_cons_succ, List.setIfInBounds_toArray, List.set_cons_zero, List.set_cons_succ])
  refine wpAnyH_take (i := 14) (v := undef) rfl (by kernel_rfl) (by kernel_rfl) (by kernel_rfl) (fun _ _ _ h => hp _ _ _ _ _ h) (Or.inr ⟨by rfl, rfl⟩) (by assumption) ?_
  (try simp only [Act.put, List.getElem_toArray, List.getElem_cons_zero, List.getElem_cons_succ, List.setIfInBounds_toArray, List.set_cons_zero, List.set_cons_succ])
  refine wpAnyH_take (i := 15) (v := .bool false) rfl (by kernel_rfl) (by kernel_rfl) (by kernel_rfl) (fun _ _ _ h => hp _ _ _ _ _ h) (Or.inl ⟨by rfl, ?_⟩) (by assumption) ?_
  · intro w hSw
    (try dsimp only at hSw)
    go_simp
  (try simp only [Act.put, List.getElem_toArray, List.getElem_cons_zero, List.getElem_cons_succ, List.setIfInBounds_toArray, List.set_cons_zero, List.set_cons_succ])
  refine wpAnyH_done (by kernel_rfl) ?_ _
  exact h_ _ _ _ _ _ _ _ _ _ _ _ _ _ _ _ _ hB0
set_option maxRecDepth 100000 in
set_option maxHeartbeats 1000000 in
theorem po1 {Q : Exit → Act → World → Prop} {t0 t1 t5 t6 t7 t8 t9 t10 t11 t12 t13 t14 t15 t16 t17 t18 t19 t20 t21 t22 t23 t24 t25 t26 t27 t28 t29 t30 t31 t32 t33 t34 t35 t36 t37 t38 t39 t40 t41 t42 t43 t44 : Value} {W : World} {A B n c n2 c2 : Nat} {h g : Hd} {a a2 : Option Addr} {j : Nat} {nb no mb mo : Nat} {s p : ByteArray} {q : Bool}
    (hA : BxV A h (.slice a n c) W) (hB : BxV B g (.slice a2 n2 c2) W) (hk : h.k = 6) (ha : h.na = some ⟨nb, no, none⟩) (hb : g.na = some ⟨mb, mo, none⟩) (hj : (j : Int) < (h.ns.length : Int)) (hj2 : (j : Int) < (g.ns.length : Int)) (h1 : W.cell? ⟨nb, no + j, none⟩ = some (.string s)) (h2 : W.cell? ⟨mb, mo + j, none⟩ = some (.string p)) (hq : (s.toList != p.toList) = q)
    (hp : ∀ p d v a w, Q (.panic p) (Act.put a d v) w → Q (.panic p) a w) (h_ : ∀ ws v7 v8 v9 v10 v11 v12 v13 v14 v15 v16 v17 v18 v19 v20 v21, Below W.heap.size W ws → Q .normal { tmps := (t0 :: t1 :: (.int .i64 (j : Nat)) :: (.pointer (some ⟨A, 0, none⟩)) :: (.pointer (some ⟨B, 0, none⟩)) :: t5 :: t6 :: v7 :: v8 :: v9 :: v10 :: v11 :: v12 :: v13 :: v14 :: v15 :: v16 :: v17 :: v18 :: v19 :: v20 :: v21 :: .bool q :: t23 :: t24 :: t25 :: t26 :: t27 :: t28 :: t29 :: t30 :: t31 :: t32 :: t33 :: t34 :: t35 :: t36 :: t37 :: t38 :: t39 :: t40 :: t41 :: t42 :: t43 :: t44 :: []).toArray, defers := [] } ws) :
    Code.wp Try.prog (Code.region 1 #[{ dst := some 7, op := Op.fieldAddr 28 (Operand.tmp 3) 0, type := 0, pos := "l13_patch.go:198", after := #[], guard := none }, { dst := some 8, op := Op.load 3 (Operand.tmp 7), type := 3, pos := "l13_patch.go:198", after := #[{ on := 0, ground := Ground.data }], guard := none }, { dst := some 9, op := Op.binOp BinOp.eql 3 (Operand.tmp 8) (Operand.const (Value.int IntKind.i64 6)) 3, type := 4, pos := "l13_patch.go:198", after := #[{ on := 1, ground := Ground.data }], guard := none }, { dst := some 10, op := Op.move (Operand.tmp 9), type := 4, pos := "l13_patch.go:198", after := #[{ on := 2, ground := Ground.data }], guard := none }, { dst := some 11, op := Op.fieldAddr 28 (Operand.tmp 3) 4, type := 0, pos := "l13_patch.go:198", after := #[{ on := 3, ground := Ground.guard }], guard := some (3, true) }, { dst := some 12, op := Op.load 26 (Operand.tmp 11), type := 26, pos := "l13_patch.go:198", after := #[{ on := 4, ground := Ground.data }, { on := 3, ground := Ground.guard }], guard := some (3, true) }, { dst := some 13, op := Op.move (Operand.tmp 2), type := 3, pos := "l13_patch.go:198", after := #[{ on := 3, ground := Ground.guard }], guard := some (3, true) }, { dst := some 14, op := Op.indexAddr 26 (Operand.tmp 12) (Operand.tmp 13), type := 0, pos := "l13_patch.go:198", after := #[{ on := 5, ground := Ground.data }, { on := 6, ground := Ground.data }, { on := 3, ground := Ground.guard }], guard := some (3, true) }, { dst := some 15, op := Op.load 9 (Operand.tmp 14), type := 9, pos := "l13_patch.go:198", after := #[{ on := 7, ground := Ground.data }, { on := 3, ground := Ground.guard }], guard := some (3, true) }, { dst := some 16, op := Op.fieldAddr 28 (Operand.tmp 4) 4, type := 0, pos := "l13_patch.go:198", after := #[{ on := 3, ground := Ground.guard }], guard := some (3, true) }, { dst := some 17, op := Op.load 26 (Operand.tmp 16), type := 26, pos := "l13_patch.go:198", after := #[{ on := 9, ground := Ground.data }, { on := 3, ground := Ground.guard }], guard := some (3, true) }, { dst := some 18, op := Op.move (Operand.tmp 2), type := 3, pos := "l13_patch.go:198", after := #[{ on := 3, ground := Ground.guard }], guard := some (3, true) }, { dst := some 19, op := Op.indexAddr 26 (Operand.tmp 17) (Operand.tmp 18), type := 0, pos := "l13_patch.go:198", after := #[{ on := 10, ground := Ground.data }, { on := 11, ground := Ground.data }, { on := 3, ground := Ground.guard }], guard := some (3, true) }, { dst := some 20, op := Op.load 9 (Operand.tmp 19), type := 9, pos := "l13_patch.go:198", after := #[{ on := 12, ground := Ground.data }, { on := 3, ground := Ground.guard }], guard := some (3, true) }, { dst := some 21, op := Op.binOp BinOp.neq 9 (Operand.tmp 15) (Operand.tmp 20) 9, type := 4, pos := "l13_patch.go:198", after := #[{ on := 8, ground := Ground.data }, { on := 13, ground := Ground.data }, { on := 3, ground := Ground.guard }], guard := some (3, true) }, { dst := some 22, op := Op.pick (Operand.tmp 10) (Operand.tmp 21) (Operand.const (Value.bool false)), type := 4, pos := "l13_patch.go:198", after := #[{ on := 3, ground := Ground.data }, { on := 14, ground := Ground.data }], guard := none }] true) Q { tmps := (t0 :: t1 :: (.int .i64 (j : Nat)) :: (.pointer (some ⟨A, 0, none⟩)) :: (.pointer (some ⟨B, 0, none⟩)) :: t5 :: t6 :: t7 :: t8 :: t9 :: t10 :: t11 :: t12 :: t13 :: t14 :: t15 :: t16 :: t17 :: t18 :: t19 :: t20 :: t21 :: t22 :: t23 :: t24 :: t25 :: t26 :: t27 :: t28 :: t29 :: t30 :: t31 :: t32 :: t33 :: t34 :: t35 :: t36 :: t37 :: t38 :: t39 :: t40 :: t41 :: t42 :: t43 :: t44 :: []).toArray, defers := [] } W := by
  have HSof : Hid (∀ w', Below W.heap.size W w' → (w'.cell? ⟨A, 0, none⟩ = some (.int .i64 6) ∧ w'.cell? ⟨A, 5, none⟩ = some (.slice (some ⟨nb, no, none⟩) h.ns.length h.nc) ∧ w'.cell? ⟨B, 5, none⟩ = some (.slice (some ⟨mb, mo, none⟩) g.ns.length g.nc)) ∧ w'.cell? ⟨nb, no + j, none⟩ = some (.string s) ∧ w'.cell? ⟨mb, mo + j, none⟩ = some (.string p)) := fun w' h => by
    have h3 := hA.below h
    have h4 := hB.below h
    exact ⟨⟨by rw [← hk]; exact h3.1, by rw [← ha]; exact h3.2.2.2.2.2, by rw [← hb]; exact h4.2.2.2.2.2⟩, (h.cell (p := ⟨nb, no + j, none⟩) (World.block_lt_of_cell? _ _ h1)).trans h1, (h.cell (p := ⟨mb, mo + j, none⟩) (World.block_lt_of_cell? _ _ h2)).trans h2⟩
  have hB0 := (Below.refl W.heap.size W).drew
  have hS0 := HSof.out _ hB0
  clear hA hB hk ha hb h1 h2
  refine wp_region_held_drew (S := fun w' => (w'.cell? ⟨A, 0, none⟩ = some (.int .i64 6) ∧ w'.cell? ⟨A, 5, none⟩ = some (.slice (some ⟨nb, no, none⟩) h.ns.length h.nc) ∧ w'.cell? ⟨B, 5, none⟩ = some (.slice (some ⟨mb, mo, none⟩) g.ns.length g.nc)) ∧ w'.cell? ⟨nb, no + j, none⟩ = some (.string s) ∧ w'.cell? ⟨mb, mo + j, none⟩ = some (.string p)) (by kernel_rfl) hS0 (fun hHeld => ?_)
  refine wpAnyH_take (i := 0) (v := .pointer (some ⟨A, 0, none⟩)) rfl (by kernel_rfl) (by kernel_rfl) (by kernel_rfl) (fun _ _ _ h => hp _ _ _ _ _ h) (Or.inl ⟨by rfl, ?_⟩) (by assumption) ?_
  · intro w hSw
    (try dsimp only at hSw)
    go_simp
  (try simp only [Act.put, List.getElem_toArray, List.getElem_cons_zero, List.setIfInBounds_toArray, List.set_cons_zero, List.set_cons_succ])
  refine wpAnyH_take (i := 1) (v := .int .i64 6) rfl (by kernel_rfl) (by kernel_rfl) (by kernel_rfl) (fun _ _ _ h => hp _ _ _ _ _ h) (Or.inl ⟨by rfl, ?_⟩) (by assumption) ?_
  · intro w hSw
    (try dsimp only at hSw)
    go_simp
  (try simp only [Act.put, List.getElem_toArray, List.getElem_cons_zero, List.getElem_cons_succ, List.setIfInBounds_toArray, List.set_cons_zero, List.set_cons_succ])
  refine wpAnyH_take (i := 2) (v := .bool true) rfl (by kernel_rfl) (by kernel_rfl) (by kernel_rfl) (fun _ _ _ h => hp _ _ _ _ _ h) (Or.inl ⟨by rfl, ?_⟩) (by assumption) ?_
  · intro w hSw
    (try dsimp only at hSw)
    go_simp
  (try simp only [Act.put, List.getElem_toArray, List.getElem_cons_zero, List.getElem_cons_succ, List.setIfInBounds_toArray, List.set_cons_zero, List.set_cons_succ])
  refine wpAnyH_take (i := 3) (v := .bool true) rfl (by kernel_rfl) (by kernel_rfl) (by kernel_rfl) (fun _ _ _ h => hp _ _ _ _ _ h) (Or.inl ⟨by rfl, ?_⟩) (by assumption) ?_
  · intro w hSw
    (try dsimp only at hSw)
    go_simp
  (try simp only [Act.put, List.getElem_toArray, List.getElem_cons_zero, List.getElem_cons_succ, List.setIfInBounds_toArray, List.set_cons_zero, List.set_cons_succ])
  refine wpAnyH_take (i := 4) (v := .pointer (some ⟨A, 5, none⟩)) rfl (by kernel_rfl) (by kernel_rfl) (by kernel_rfl) (fun _ _ _ h => hp _ _ _ _ _ h) (Or.inl ⟨by rfl, ?_⟩) (by assumption) ?_
  · intro w hSw
    (try dsimp only at hSw)
    go_simp
  (try simp only [Act.put, List.getElem_toArray, List.getElem_cons_zero, List.getElem_cons_succ, List.setIfInBounds_toArray, List.set_cons_zero, List.set_cons_succ])
  refine wpAnyH_take (i := 5) (v := .slice (some ⟨nb, no, none⟩) h.ns.length h.nc) rfl (by kernel_rfl) (by kernel_rfl) (by kernel_rfl) (fun _ _ _ h => hp _ _ _ _ _ h) (Or.inl ⟨by rfl, ?_⟩) (by assumption) ?_
  · intro w hSw
    (try dsimp only at hSw)
    go_simp
  (try simp only [Act.put, List.getElem_toArray, List.getElem_cons_zero, List.getElem_cons_succ, List.setIfInBounds_toArray, List.set_cons_zero, List.set_cons_succ])
  refine wpAnyH_take (i := 6) (v := .int .i64 (j : Nat)) rfl (by kernel_rfl) (by kernel_rfl) (by kernel_rfl) (fun _ _ _ h => hp _ _ _ _ _ h) (Or.inl ⟨by rfl, ?_⟩) (by assumption) ?_
  · intro w hSw
    (try dsimp only at hSw)
    go_simp
  (try simp only [Act.put, List.getElem_toArray, List.getElem_cons_zero, List.getElem_cons_succ, List.setIfInBounds_toArray, List.set_cons_zero, List.set_cons_succ])
  refine wpAnyH_take (i := 7) (v := .pointer (some ⟨nb, no + j, none⟩)) rfl (by kernel_rfl) (by kernel_rfl) (by kernel_rfl) (fun _ _ _ h => hp _ _ _ _ _ h) (Or.inl ⟨by rfl, ?_⟩) (by assumption) ?_
  · intro w hSw
    (try dsimp only at hSw)
    go_simp
  (try simp only [Act.put, List.getElem_toArray, List.getElem_cons_zero, List.getElem_cons_succ, List.setIfInBounds_toArray, List.set_cons_zero, List.set_cons_succ])
  refine wpAnyH_take (i := 8) (v := .string s) rfl (by kernel_rfl) (by kernel_rfl) (by kernel_rfl) (fun _ _ _ h => hp _ _ _ _ _ h) (Or.inl ⟨by rfl, ?_⟩) (by assumption) ?_
  · intro w hSw
    (try dsimp only at hSw)
    go_simp
  (try simp only [Act.put, List.getElem_toArray, List.getElem_cons_zero, List.getElem_cons_succ, List.setIfInBounds_toArray, List.set_cons_zero, List.set_cons_succ])
  refine wpAnyH_take (i := 9) (v := .pointer (some ⟨B, 5, none⟩)) rfl (by kernel_rfl) (by kernel_rfl) (by kernel_rfl) (fun _ _ _ h => hp _ _ _ _ _ h) (Or.inl ⟨by rfl, ?_⟩) (by assumption) ?_
  · intro w hSw
    (try dsimp only at hSw)
    go_simp
  (try simp only [Act.put, List.getElem_toArray, List.getElem_cons_zero, List.getElem_cons_succ, List.setIfInBounds_toArray, List.set_cons_zero, List.set_cons_succ])
  refine wpAnyH_take (i := 10) (v := .slice (some ⟨mb, mo, none⟩) g.ns.length g.nc) rfl (by kernel_rfl) (by kernel_rfl) (by kernel_rfl) (fun _ _ _ h => hp _ _ _ _ _ h) (Or.inl ⟨by rfl, ?_⟩) (by assumption) ?_
  · intro w hSw
    (try dsimp only at hSw)
    go_simp
  (try simp only [Act.put, List.getElem_toArray, List.getElem_cons_zero, List.getElem_cons_succ, List.setIfInBounds_toArray, List.set_cons_zero, List.set_cons_succ])
  refine wpAnyH_take (i := 11) (v := .int .i64 (j : Nat)) rfl (by kernel_rfl) (by kernel_rfl) (by kernel_rfl) (fun _ _ _ h => hp _ _ _ _ _ h) (Or.inl ⟨by rfl, ?_⟩) (by assumption) ?_
  · intro w hSw
    (try dsimp only at hSw)
    go_simp
  (try simp only [Act.put, List.getElem_toArray, List.getElem_cons_zero, List.getElem_cons_succ, List.setIfInBounds_toArray, List.set_cons_zero, List.set_cons_succ])
  refine wpAnyH_take (i := 12) (v := .pointer (some ⟨mb, mo + j, none⟩)) rfl (by kernel_rfl) (by kernel_rfl) (by kernel_rfl) (fun _ _ _ h => hp _ _ _ _ _ h) (Or.inl ⟨by rfl, ?_⟩) (by assumption) ?_
  · intro w hSw
    (try dsimp only at hSw)
    go_simp
  (try simp only [Act.put, List.getElem_toArray, List.getElem_cons_zero, List.getElem_cons_succ, List.setIfInBounds_toArray, List.set_cons_zero, List.set_cons_succ])
  refine wpAnyH_take (i := 13) (v := .string p) rfl (by kernel_rfl) (by kernel_rfl) (by kernel_rfl) (fun _ _ _ h => hp _ _ _ _ _ h) (Or.inl ⟨by rfl, ?_⟩) (by assumption) ?_
  · intro w hSw
    (try dsimp only at hSw)
    go_simp
  (try simp only [Act.put, List.getElem_toArray, List.getElem_cons_zero, List.getElem_cons_succ, List.setIfInBounds_toArray, List.set_cons_zero, List.set_cons_succ])
  refine wpAnyH_take (i := 14) (v := .bool q) rfl (by kernel_rfl) (by kernel_rfl) (by kernel_rfl) (fun _ _ _ h => hp _ _ _ _ _ h) (Or.inl ⟨by rfl, ?_⟩) (by assumption) ?_
  · intro w hSw
    (try dsimp only at hSw)
    (go_simp; rw [← hq]; simp [bne])
  (try simp only [Act.put, List.getElem_toArray, List.getElem_cons_zero, List.getElem_cons_succ, List.setIfInBounds_toArray, List.set_cons_zero, List.set_cons_succ])
  refine wpAnyH_take (i := 15) (v := .bool q) rfl (by kernel_rfl) (by kernel_rfl) (by kernel_rfl) (fun _ _ _ h => hp _ _ _ _ _ h) (Or.inl ⟨by rfl, ?_⟩) (by assumption) ?_
  · intro w hSw
    (try dsimp only at hSw)
    go_simp
  (try simp only [Act.put, List.getElem_toArray, List.getElem_cons_zero, List.getElem_cons_succ, List.setIfInBounds_toArray, List.set_cons_zero, List.set_cons_succ])
  refine wpAnyH_done (by kernel_rfl) ?_ _
  exact h_ _ _ _ _ _ _ _ _ _ _ _ _ _ _ _ _ hB0
set_option maxRecDepth 100000 in
set_option maxHeartbeats 1000000 in
theorem po2 {Q : Exit → Act → World → Prop} {t0 t1 t5 t6 t7 t8 t9 t10 t11 t12 t13 t14 t15 t16 t17 t18 t19 t20 t21 t22 t23 t24 t25 t26 t27 t28 t29 t30 t31 t32 t33 t34 t35 t36 t37 t38 t39 t40 t41 t42 t43 t44 : Value} {W : World} {A B n c n2 c2 : Nat} {h g : Hd} {a a2 : Option Addr} {j nb no mb mo : Nat} {s p : ByteArray}
    (hA : BxV A h (.slice a n c) W) (hB : BxV B g (.slice a2 n2 c2) W) (ha : h.na = some ⟨nb, no, none⟩) (hb : g.na = some ⟨mb, mo, none⟩) (hj : (j : Int) < (h.ns.length : Int)) (hj2 : (j : Int) < (g.ns.length : Int)) (h1 : W.cell? ⟨nb, no + j, none⟩ = some (.string s)) (h2 : W.cell? ⟨mb, mo + j, none⟩ = some (.string p))
    (hp : ∀ p d v a w, Q (.panic p) (Act.put a d v) w → Q (.panic p) a w) (h_ : ∀ ws v23 v24 v25 v26 v27 v28 v29 v30 v31 v32 v33, Below W.heap.size W ws → Q .normal { tmps := (t0 :: t1 :: (.int .i64 (j : Nat)) :: (.pointer (some ⟨A, 0, none⟩)) :: (.pointer (some ⟨B, 0, none⟩)) :: t5 :: (.int .i64 (tord s p)) :: t7 :: t8 :: t9 :: t10 :: t11 :: t12 :: t13 :: t14 :: t15 :: t16 :: t17 :: t18 :: t19 :: t20 :: t21 :: t22 :: v23 :: v24 :: v25 :: v26 :: v27 :: v28 :: v29 :: v30 :: v31 :: v32 :: v33 :: t34 :: t35 :: t36 :: t37 :: t38 :: t39 :: t40 :: t41 :: t42 :: t43 :: t44 :: []).toArray, defers := [] } ws) :
    Code.wp Try.prog (Code.region 2 #[{ dst := some 23, op := Op.fieldAddr 28 (Operand.tmp 3) 4, type := 0, pos := "l13_patch.go:199", after := #[], guard := none }, { dst := some 24, op := Op.load 26 (Operand.tmp 23), type := 26, pos := "l13_patch.go:199", after := #[{ on := 0, ground := Ground.data }], guard := none }, { dst := some 25, op := Op.move (Operand.tmp 2), type := 3, pos := "l13_patch.go:199", after := #[], guard := none }, { dst := some 26, op := Op.indexAddr 26 (Operand.tmp 24) (Operand.tmp 25), type := 0, pos := "l13_patch.go:199", after := #[{ on := 1, ground := Ground.data }, { on := 2, ground := Ground.data }], guard := none }, { dst := some 27, op := Op.load 9 (Operand.tmp 26), type := 9, pos := "l13_patch.go:199", after := #[{ on := 3, ground := Ground.data }], guard := none }, { dst := some 28, op := Op.fieldAddr 28 (Operand.tmp 4) 4, type := 0, pos := "l13_patch.go:199", after := #[], guard := none }, { dst := some 29, op := Op.load 26 (Operand.tmp 28), type := 26, pos := "l13_patch.go:199", after := #[{ on := 5, ground := Ground.data }], guard := none }, { dst := some 30, op := Op.move (Operand.tmp 2), type := 3, pos := "l13_patch.go:199", after := #[], guard := none }, { dst := some 31, op := Op.indexAddr 26 (Operand.tmp 29) (Operand.tmp 30), type := 0, pos := "l13_patch.go:199", after := #[{ on := 6, ground := Ground.data }, { on := 7, ground := Ground.data }], guard := none }, { dst := some 32, op := Op.load 9 (Operand.tmp 31), type := 9, pos := "l13_patch.go:199", after := #[{ on := 8, ground := Ground.data }], guard := none }, { dst := some 33, op := Op.call { callee := Callee.value (Operand.func 61), args := #[Operand.tmp 27, Operand.tmp 32], argTypes := #[9, 9] }, type := 3, pos := "l13_patch.go:199", after := #[{ on := 4, ground := Ground.data }, { on := 9, ground := Ground.data }], guard := none }, { dst := some 6, op := Op.assign (Operand.tmp 33), type := 3, pos := "l13_patch.go:199", after := #[{ on := 10, ground := Ground.data }, { on := 10, ground := Ground.chain }, { on := 0, ground := Ground.phase }, { on := 1, ground := Ground.phase }, { on := 2, ground := Ground.phase }, { on := 3, ground := Ground.phase }, { on := 4, ground := Ground.phase }, { on := 5, ground := Ground.phase }, { on := 6, ground := Ground.phase }, { on := 7, ground := Ground.phase }, { on := 8, ground := Ground.phase }, { on := 9, ground := Ground.phase }, { on := 10, ground := Ground.phase }], guard := none }] true) Q { tmps := (t0 :: t1 :: (.int .i64 (j : Nat)) :: (.pointer (some ⟨A, 0, none⟩)) :: (.pointer (some ⟨B, 0, none⟩)) :: t5 :: t6 :: t7 :: t8 :: t9 :: t10 :: t11 :: t12 :: t13 :: t14 :: t15 :: t16 :: t17 :: t18 :: t19 :: t20 :: t21 :: t22 :: t23 :: t24 :: t25 :: t26 :: t27 :: t28 :: t29 :: t30 :: t31 :: t32 :: t33 :: t34 :: t35 :: t36 :: t37 :: t38 :: t39 :: t40 :: t41 :: t42 :: t43 :: t44 :: []).toArray, defers := [] } W := by
  have HSof : Hid (∀ w', Below W.heap.size W w' → (w'.cell? ⟨A, 5, none⟩ = some (.slice (some ⟨nb, no, none⟩) h.ns.length h.nc) ∧ w'.cell? ⟨B, 5, none⟩ = some (.slice (some ⟨mb, mo, none⟩) g.ns.length g.nc)) ∧ w'.cell? ⟨nb, no + j, none⟩ = some (.string s) ∧ w'.cell? ⟨mb, mo + j, none⟩ = some (.string p)) := fun w' h => by
    have h3 := hA.below h
    have h4 := hB.below h
    exact ⟨⟨by rw [← ha]; exact h3.2.2.2.2.2, by rw [← hb]; exact h4.2.2.2.2.2⟩, (h.cell (p := ⟨nb, no + j, none⟩) (World.block_lt_of_cell? _ _ h1)).trans h1, (h.cell (p := ⟨mb, mo + j, none⟩) (World.block_lt_of_cell? _ _ h2)).trans h2⟩
  have hB0 := (Below.refl W.heap.size W).drew
  have hS0 := HSof.out _ hB0
  clear hA hB ha hb h1 h2
  refine wp_region_held_drew (S := fun w' => (w'.cell? ⟨A, 5, none⟩ = some (.slice (some ⟨nb, no, none⟩) h.ns.length h.nc) ∧ w'.cell? ⟨B, 5, none⟩ = some (.slice (some ⟨mb, mo, none⟩) g.ns.length g.nc)) ∧ w'.cell? ⟨nb, no + j, none⟩ = some (.string s) ∧ w'.cell? ⟨mb, mo + j, none⟩ = some (.string p)) (by kernel_rfl) hS0 (fun hHeld => ?_)
  refine wpAnyH_take (i := 0) (v := .pointer (some ⟨A, 5, none⟩)) rfl (by kernel_rfl) (by kernel_rfl) (by kernel_rfl) (fun _ _ _ h => hp _ _ _ _ _ h) (Or.inl ⟨by rfl, ?_⟩) (by assumption) ?_
  · intro w hSw
    (try dsimp only at hSw)
    go_simp
  (try simp only [Act.put, List.getElem_toArray, List.getElem_cons_zero, List.setIfInBounds_toArray, List.set_cons_zero, List.set_cons_succ])
  refine wpAnyH_take (i := 1) (v := .slice (some ⟨nb, no, none⟩) h.ns.length h.nc) rfl (by kernel_rfl) (by kernel_rfl) (by kernel_rfl) (fun _ _ _ h => hp _ _ _ _ _ h) (Or.inl ⟨by rfl, ?_⟩) (by assumption) ?_
  · intro w hSw
    (try dsimp only at hSw)
    go_simp
  (try simp only [Act.put, List.getElem_toArray, List.getElem_cons_zero, List.getElem_cons_succ, List.setIfInBounds_toArray, List.set_cons_zero, List.set_cons_succ])
  refine wpAnyH_take (i := 2) (v := .int .i64 (j : Nat)) rfl (by kernel_rfl) (by kernel_rfl) (by kernel_rfl) (fun _ _ _ h => hp _ _ _ _ _ h) (Or.inl ⟨by rfl, ?_⟩) (by assumption) ?_
  · intro w hSw
    (try dsimp only at hSw)
    go_simp
  (try simp only [Act.put, List.getElem_toArray, List.getElem_cons_zero, List.getElem_cons_succ, List.setIfInBounds_toArray, List.set_cons_zero, List.set_cons_succ])
  refine wpAnyH_take (i := 3) (v := .pointer (some ⟨nb, no + j, none⟩)) rfl (by kernel_rfl) (by kernel_rfl) (by kernel_rfl) (fun _ _ _ h => hp _ _ _ _ _ h) (Or.inl ⟨by rfl, ?_⟩) (by assumption) ?_
  · intro w hSw
    (try dsimp only at hSw)
    go_simp
  (try simp only [Act.put, List.getElem_toArray, List.getElem_cons_zero, List.getElem_cons_succ, List.setIfInBounds_toArray, List.set_cons_zero, List.set_cons_succ])
  refine wpAnyH_take (i := 4) (v := .string s) rfl (by kernel_rfl) (by kernel_rfl) (by kernel_rfl) (fun _ _ _ h => hp _ _ _ _ _ h) (Or.inl ⟨by rfl, ?_⟩) (by assumption) ?_
  · intro w hSw
    (try dsimp only at hSw)
    go_simp
  (try simp only [Act.put, List.getElem_toArray, List.getElem_cons_zero, List.getElem_cons_succ, List.setIfInBounds_toArray, List.set_cons_zero, List.set_cons_succ])
  refine wpAnyH_take (i := 5) (v := .pointer (some ⟨B, 5, none⟩)) rfl (by kernel_rfl) (by kernel_rfl) (by kernel_rfl) (fun _ _ _ h => hp _ _ _ _ _ h) (Or.inl ⟨by rfl, ?_⟩) (by assumption) ?_
  · intro w hSw
    (try dsimp only at hSw)
    go_simp
  (try simp only [Act.put, List.getElem_toArray, List.getElem_cons_zero, List.getElem_cons_succ, List.setIfInBounds_toArray, List.set_cons_zero, List.set_cons_succ])
  refine wpAnyH_take (i := 6) (v := .slice (some ⟨mb, mo, none⟩) g.ns.length g.nc) rfl (by kernel_rfl) (by kernel_rfl) (by kernel_rfl) (fun _ _ _ h => hp _ _ _ _ _ h) (Or.inl ⟨by rfl, ?_⟩) (by assumption) ?_
  · intro w hSw
    (try dsimp only at hSw)
    go_simp
  (try simp only [Act.put, List.getElem_toArray, List.getElem_cons_zero, List.getElem_cons_succ, List.setIfInBounds_toArray, List.set_cons_zero, List.set_cons_succ])
  refine wpAnyH_take (i := 7) (v := .int .i64 (j : Nat)) rfl (by kernel_rfl) (by kernel_rfl) (by kernel_rfl) (fun _ _ _ h => hp _ _ _ _ _ h) (Or.inl ⟨by rfl, ?_⟩) (by assumption) ?_
  · intro w hSw
    (try dsimp only at hSw)
    go_simp
  (try simp only [Act.put, List.getElem_toArray, List.getElem_cons_zero, List.getElem_cons_succ, List.setIfInBounds_toArray, List.set_cons_zero, List.set_cons_succ])
  refine wpAnyH_take (i := 8) (v := .pointer (some ⟨mb, mo + j, none⟩)) rfl (by kernel_rfl) (by kernel_rfl) (by kernel_rfl) (fun _ _ _ h => hp _ _ _ _ _ h) (Or.inl ⟨by rfl, ?_⟩) (by assumption) ?_
  · intro w hSw
    (try dsimp only at hSw)
    go_simp
  (try simp only [Act.put, List.getElem_toArray, List.getElem_cons_zero, List.getElem_cons_succ, List.setIfInBounds_toArray, List.set_cons_zero, List.set_cons_succ])
  refine wpAnyH_take (i := 9) (v := .string p) rfl (by kernel_rfl) (by kernel_rfl) (by kernel_rfl) (fun _ _ _ h => hp _ _ _ _ _ h) (Or.inl ⟨by rfl, ?_⟩) (by assumption) ?_
  · intro w hSw
    (try dsimp only at hSw)
    go_simp
  (try simp only [Act.put, List.getElem_toArray, List.getElem_cons_zero, List.getElem_cons_succ, List.setIfInBounds_toArray, List.set_cons_zero, List.set_cons_succ])
  refine wpAnyH_ready (rs := [10]) (by kernel_rfl) (by simp) ?_
  refine AllReadyH.cons rfl (fun K hK => ?_) AllReadyH.nil
  go_simp
  refine (compareS_any s p _).mono ?_
  rintro r w1 ⟨rfl, hw1⟩
  subst w1
  go_wp2_with fail
  refine hK.out _ _ (HSof.out _ hB0) (fun hHeld => ?_)
  clear hK K
  refine wpAnyH_take (i := 11) (v := .int .i64 (tord s p)) rfl (by kernel_rfl) (by kernel_rfl) (by kernel_rfl) (fun _ _ _ h => hp _ _ _ _ _ h) (Or.inl ⟨by rfl, ?_⟩) (by assumption) ?_
  · intro w hSw
    (try dsimp only at hSw)
    go_simp
  (try simp only [Act.put, List.getElem_toArray, List.getElem_cons_zero, List.getElem_cons_succ, List.setIfInBounds_toArray, List.set_cons_zero, List.set_cons_succ])
  refine wpAnyH_done (by kernel_rfl) ?_ _
  exact h_ _ _ _ _ _ _ _ _ _ _ _ _ hB0
set_option maxRecDepth 100000 in
set_option maxHeartbeats 1000000 in
theorem po3 {Q : Exit → Act → World → Prop} {t0 t1 t5 t6 t7 t8 t9 t10 t11 t12 t13 t14 t15 t16 t17 t18 t19 t20 t21 t22 t23 t24 t25 t26 t27 t28 t29 t30 t31 t32 t33 t34 t35 t36 t37 t38 t39 t40 t41 t42 t43 t44 : Value} {W : World} {A B n c n2 c2 b o b2 o2 j nx cx ny cy : Nat} {h g x y : Hd} {ax ay : Option Addr} {V : Int}
    (hA : BxV A h (.slice (some ⟨b, o, none⟩) n c) W) (hB : BxV B g (.slice (some ⟨b2, o2, none⟩) n2 c2) W) (hj : (j : Int) < (n : Int)) (hj2 : (j : Int) < (n2 : Int)) (h1 : Cells6 W b (o + j * 6) x (.slice ax nx cx)) (h2 : Cells6 W b2 (o2 + j * 6) y (.slice ay ny cy)) (hcall : ∀ W', Below W.heap.size W W' → Calls Try.prog 35 #[valV x ax nx cx, valV y ay ny cy] W' fun r w' => r = .returned (.int .i64 V) ∧ Below W'.heap.size W' w')
    (hp : ∀ p d v a w, Q (.panic p) (Act.put a d v) w → Q (.panic p) a w) (h_ : ∀ ws v34 v35 v36 v37 v38 v39 v40 v41 v42 v43 v44, Below W.heap.size W ws → Q .normal { tmps := (t0 :: t1 :: (.int .i64 (j : Nat)) :: (.pointer (some ⟨A, 0, none⟩)) :: (.pointer (some ⟨B, 0, none⟩)) :: t5 :: (.int .i64 V) :: t7 :: t8 :: t9 :: t10 :: t11 :: t12 :: t13 :: t14 :: t15 :: t16 :: t17 :: t18 :: t19 :: t20 :: t21 :: t22 :: t23 :: t24 :: t25 :: t26 :: t27 :: t28 :: t29 :: t30 :: t31 :: t32 :: t33 :: v34 :: v35 :: v36 :: v37 :: v38 :: v39 :: v40 :: v41 :: v42 :: v43 :: v44 :: []).toArray, defers := [] } ws) :
    Code.wp Try.prog (Code.region 3 #[{ dst := some 34, op := Op.fieldAddr 28 (Operand.tmp 3) 3, type := 0, pos := "l13_patch.go:201", after := #[], guard := none }, { dst := some 35, op := Op.load 25 (Operand.tmp 34), type := 25, pos := "l13_patch.go:201", after := #[{ on := 0, ground := Ground.data }], guard := none }, { dst := some 36, op := Op.move (Operand.tmp 2), type := 3, pos := "l13_patch.go:201", after := #[], guard := none }, { dst := some 37, op := Op.indexAddr 25 (Operand.tmp 35) (Operand.tmp 36), type := 0, pos := "l13_patch.go:201", after := #[{ on := 1, ground := Ground.data }, { on := 2, ground := Ground.data }], guard := none }, { dst := some 38, op := Op.load 28 (Operand.tmp 37), type := 28, pos := "l13_patch.go:201", after := #[{ on := 3, ground := Ground.data }], guard := none }, { dst := some 39, op := Op.fieldAddr 28 (Operand.tmp 4) 3, type := 0, pos := "l13_patch.go:201", after := #[], guard := none }, { dst := some 40, op := Op.load 25 (Operand.tmp 39), type := 25, pos := "l13_patch.go:201", after := #[{ on := 5, ground := Ground.data }], guard := none }, { dst := some 41, op := Op.move (Operand.tmp 2), type := 3, pos := "l13_patch.go:201", after := #[], guard := none }, { dst := some 42, op := Op.indexAddr 25 (Operand.tmp 40) (Operand.tmp 41), type := 0, pos := "l13_patch.go:201", after := #[{ on := 6, ground := Ground.data }, { on := 7, ground := Ground.data }], guard := none }, { dst := some 43, op := Op.load 28 (Operand.tmp 42), type := 28, pos := "l13_patch.go:201", after := #[{ on := 8, ground := Ground.data }], guard := none }, { dst := some 44, op := Op.call { callee := Callee.value (Operand.func 35), args := #[Operand.tmp 38, Operand.tmp 43], argTypes := #[28, 28] }, type := 3, pos := "l13_patch.go:201", after := #[{ on := 4, ground := Ground.data }, { on := 9, ground := Ground.data }], guard := none }, { dst := some 6, op := Op.assign (Operand.tmp 44), type := 3, pos := "l13_patch.go:201", after := #[{ on := 10, ground := Ground.data }, { on := 10, ground := Ground.chain }, { on := 0, ground := Ground.phase }, { on := 1, ground := Ground.phase }, { on := 2, ground := Ground.phase }, { on := 3, ground := Ground.phase }, { on := 4, ground := Ground.phase }, { on := 5, ground := Ground.phase }, { on := 6, ground := Ground.phase }, { on := 7, ground := Ground.phase }, { on := 8, ground := Ground.phase }, { on := 9, ground := Ground.phase }, { on := 10, ground := Ground.phase }], guard := none }] true) Q { tmps := (t0 :: t1 :: (.int .i64 (j : Nat)) :: (.pointer (some ⟨A, 0, none⟩)) :: (.pointer (some ⟨B, 0, none⟩)) :: t5 :: t6 :: t7 :: t8 :: t9 :: t10 :: t11 :: t12 :: t13 :: t14 :: t15 :: t16 :: t17 :: t18 :: t19 :: t20 :: t21 :: t22 :: t23 :: t24 :: t25 :: t26 :: t27 :: t28 :: t29 :: t30 :: t31 :: t32 :: t33 :: t34 :: t35 :: t36 :: t37 :: t38 :: t39 :: t40 :: t41 :: t42 :: t43 :: t44 :: []).toArray, defers := [] } W := by
  have HSof : Hid (∀ w', Below W.heap.size W w' → (w'.cell? ⟨A, 4, none⟩ = some (.slice (some ⟨b, o, none⟩) n c) ∧ w'.cell? ⟨B, 4, none⟩ = some (.slice (some ⟨b2, o2, none⟩) n2 c2)) ∧ C6 w' b (o + j * 6) x (.slice ax nx cx) ∧ C6 w' b2 (o2 + j * 6) y (.slice ay ny cy)) := fun w' h => ⟨⟨(hA.below h).2.2.2.2.1, (hB.below h).2.2.2.2.1⟩, h1.grow h, h2.grow h⟩
  have hB0 := (Below.refl W.heap.size W).drew
  have hS0 := HSof.out _ hB0
  clear hA hB h1 h2
  refine wp_region_held_drew (S := fun w' => (w'.cell? ⟨A, 4, none⟩ = some (.slice (some ⟨b, o, none⟩) n c) ∧ w'.cell? ⟨B, 4, none⟩ = some (.slice (some ⟨b2, o2, none⟩) n2 c2)) ∧ C6 w' b (o + j * 6) x (.slice ax nx cx) ∧ C6 w' b2 (o2 + j * 6) y (.slice ay ny cy)) (by kernel_rfl) hS0 (fun hHeld => ?_)
  refine wpAnyH_take (i := 0) (v := .pointer (some ⟨A, 4, none⟩)) rfl (by kernel_rfl) (by kernel_rfl) (by kernel_rfl) (fun _ _ _ h => hp _ _ _ _ _ h) (Or.inl ⟨by rfl, ?_⟩) (by assumption) ?_
  · intro w hSw
    (try dsimp only at hSw)
    go_simp
  (try simp only [Act.put, List.getElem_toArray, List.getElem_cons_zero, List.setIfInBounds_toArray, List.set_cons_zero, List.set_cons_succ])
  refine wpAnyH_take (i := 1) (v := .slice (some ⟨b, o, none⟩) n c) rfl (by kernel_rfl) (by kernel_rfl) (by kernel_rfl) (fun _ _ _ h => hp _ _ _ _ _ h) (Or.inl ⟨by rfl, ?_⟩) (by assumption) ?_
  · intro w hSw
    (try dsimp only at hSw)
    go_simp
  (try simp only [Act.put, List.getElem_toArray, List.getElem_cons_zero, List.getElem_cons_succ, List.setIfInBounds_toArray, List.set_cons_zero, List.set_cons_succ])
  refine wpAnyH_take (i := 2) (v := .int .i64 (j : Nat)) rfl (by kernel_rfl) (by kernel_rfl) (by kernel_rfl) (fun _ _ _ h => hp _ _ _ _ _ h) (Or.inl ⟨by rfl, ?_⟩) (by assumption) ?_
  · intro w hSw
    (try dsimp only at hSw)
    go_simp
  (try simp only [Act.put, List.getElem_toArray, List.getElem_cons_zero, List.getElem_cons_succ, List.setIfInBounds_toArray, List.set_cons_zero, List.set_cons_succ])
  refine wpAnyH_take (i := 3) (v := .pointer (some ⟨b, o + j * 6, none⟩)) rfl (by kernel_rfl) (by kernel_rfl) (by kernel_rfl) (fun _ _ _ h => hp _ _ _ _ _ h) (Or.inl ⟨by rfl, ?_⟩) (by assumption) ?_
  · intro w hSw
    (try dsimp only at hSw)
    go_simp
  (try simp only [Act.put, List.getElem_toArray, List.getElem_cons_zero, List.getElem_cons_succ, List.setIfInBounds_toArray, List.set_cons_zero, List.set_cons_succ])
  refine wpAnyH_take (i := 4) (v := valV x ax nx cx) rfl (by kernel_rfl) (by kernel_rfl) (by kernel_rfl) (fun _ _ _ h => hp _ _ _ _ _ h) (Or.inl ⟨by rfl, ?_⟩) (by assumption) ?_
  · intro w hSw
    (try dsimp only at hSw)
    go_simp
  (try simp only [Act.put, List.getElem_toArray, List.getElem_cons_zero, List.getElem_cons_succ, List.setIfInBounds_toArray, List.set_cons_zero, List.set_cons_succ])
  refine wpAnyH_take (i := 5) (v := .pointer (some ⟨B, 4, none⟩)) rfl (by kernel_rfl) (by kernel_rfl) (by kernel_rfl) (fun _ _ _ h => hp _ _ _ _ _ h) (Or.inl ⟨by rfl, ?_⟩) (by assumption) ?_
  · intro w hSw
    (try dsimp only at hSw)
    go_simp
  (try simp only [Act.put, List.getElem_toArray, List.getElem_cons_zero, List.getElem_cons_succ, List.setIfInBounds_toArray, List.set_cons_zero, List.set_cons_succ])
  refine wpAnyH_take (i := 6) (v := .slice (some ⟨b2, o2, none⟩) n2 c2) rfl (by kernel_rfl) (by kernel_rfl) (by kernel_rfl) (fun _ _ _ h => hp _ _ _ _ _ h) (Or.inl ⟨by rfl, ?_⟩) (by assumption) ?_
  · intro w hSw
    (try dsimp only at hSw)
    go_simp
  (try simp only [Act.put, List.getElem_toArray, List.getElem_cons_zero, List.getElem_cons_succ, List.setIfInBounds_toArray, List.set_cons_zero, List.set_cons_succ])
  refine wpAnyH_take (i := 7) (v := .int .i64 (j : Nat)) rfl (by kernel_rfl) (by kernel_rfl) (by kernel_rfl) (fun _ _ _ h => hp _ _ _ _ _ h) (Or.inl ⟨by rfl, ?_⟩) (by assumption) ?_
  · intro w hSw
    (try dsimp only at hSw)
    go_simp
  (try simp only [Act.put, List.getElem_toArray, List.getElem_cons_zero, List.getElem_cons_succ, List.setIfInBounds_toArray, List.set_cons_zero, List.set_cons_succ])
  refine wpAnyH_take (i := 8) (v := .pointer (some ⟨b2, o2 + j * 6, none⟩)) rfl (by kernel_rfl) (by kernel_rfl) (by kernel_rfl) (fun _ _ _ h => hp _ _ _ _ _ h) (Or.inl ⟨by rfl, ?_⟩) (by assumption) ?_
  · intro w hSw
    (try dsimp only at hSw)
    go_simp
  (try simp only [Act.put, List.getElem_toArray, List.getElem_cons_zero, List.getElem_cons_succ, List.setIfInBounds_toArray, List.set_cons_zero, List.set_cons_succ])
  refine wpAnyH_take (i := 9) (v := valV y ay ny cy) rfl (by kernel_rfl) (by kernel_rfl) (by kernel_rfl) (fun _ _ _ h => hp _ _ _ _ _ h) (Or.inl ⟨by rfl, ?_⟩) (by assumption) ?_
  · intro w hSw
    (try dsimp only at hSw)
    go_simp
  (try simp only [Act.put, List.getElem_toArray, List.getElem_cons_zero, List.getElem_cons_succ, List.setIfInBounds_toArray, List.set_cons_zero, List.set_cons_succ])
  refine wpAnyH_ready (rs := [10]) (by kernel_rfl) (by simp) ?_
  refine AllReadyH.cons rfl (fun K hK => ?_) AllReadyH.nil
  go_simp
  refine (hcall _ hB0).mono ?_
  rintro r w1 ⟨rfl, hb1⟩
  have hB1 := hB0.trans (hb1.mono hB0.size)
  go_wp2_with fail
  refine hK.out _ _ (HSof.out _ hB1) (fun hHeld => ?_)
  clear hK K hb1 hB0 hcall
  refine wpAnyH_take (i := 11) (v := .int .i64 V) rfl (by kernel_rfl) (by kernel_rfl) (by kernel_rfl) (fun _ _ _ h => hp _ _ _ _ _ h) (Or.inl ⟨by rfl, ?_⟩) (by assumption) ?_
  · intro w hSw
    (try dsimp only at hSw)
    go_simp
  (try simp only [Act.put, List.getElem_toArray, List.getElem_cons_zero, List.getElem_cons_succ, List.setIfInBounds_toArray, List.set_cons_zero, List.set_cons_succ])
  refine wpAnyH_done (by kernel_rfl) ?_ _
  exact h_ _ _ _ _ _ _ _ _ _ _ _ _ hB1
end Go.Proofs.Ytalncebnahlmdaa
