/- My own texts, joined: DecD DecE DecF Held DecG DecL TxtA TxtB TxtC BldT BldH TxtD Jf Jg. -/
import Derived.Test.YtpgpkdeiapeoiaaJJsonPut5
import Derived.Deep.QuietTactic
import Derived.BigQuiet
import Derived.Test.YtpgpkdeiapeoiaaJJsonPut1
import Derived.Deep.RegionHeld3
import Derived.Deep.DeepCutAuto
import Derived.OpenShut
import Derived.Laws.IdiomStrings
import Derived.RangeFuncNested
import Derived.RangeFuncBound
import Derived.RangeFuncCalls
import Derived.RangeFuncLeaves
import Derived.RangeFuncFrom
import Derived.Shelf.Abstract
import Derived.Shelf.RegionOpen
import Derived.WalkKit
import Derived.OwnWalkIn
import Derived.TacticsInMore
import Derived.LoopNIn
import Derived.LoopIn
import Derived.Test.YtpgpkdeiapeoiaaJJsonPut0
import Derived.Test.YtpgpkdeiapeoiaaJJsonPut4
/- Contracts: DecMul of both sides. -/
namespace Go.Proofs.Ytpgpkdeiapeoiaa
open Go.RowKit

/-- two decimals that came in, and the one that goes out, in three blocks in a row -/
def Three (w : World) (b : Nat) (m x n y p q : Int) : Prop := Two w b m x ∧ Two w (b + 1) n y ∧ Two w (b + 2) p q ∧ b + 2 < w.heap.size
theorem Three.new (w : World) (m x n y p q : Int) (T U V : TypeId) : Three (((w.alloc (.cells #[.int .i64 m, .int .i64 x] T)).alloc (.cells #[.int .i64 n, .int .i64 y] U)).alloc (.cells #[.int .i64 p, .int .i64 q] V)) w.heap.size m x n y p q := by
  have h1 := Two.new w m x T
  have h2 := Two.new (w.alloc (.cells #[.int .i64 m, .int .i64 x] T)) n y U
  have h3 := Two.new ((w.alloc (.cells #[.int .i64 m, .int .i64 x] T)).alloc (.cells #[.int .i64 n, .int .i64 y] U)) p q V
  rw [World.size_alloc] at h2 h3
  rw [World.size_alloc] at h3
  exact ⟨(h1.alloc (by simp) _).alloc (by simp; omega) _, h2.alloc (by simp) _, h3, by simp⟩
theorem Three.below {w w' : World} {b : Nat} {m x n y p q : Int} (h : Three w b m x n y p q) (hb : Below w.heap.size w w') : Three w' b m x n y p q := by
  obtain ⟨h1, h2, h3, h4⟩ := h
  have := hb.size
  exact ⟨h1.below hb (by omega), h2.below hb (by omega), h3.below hb (by omega), by omega⟩
theorem below3 (w : World) (a b c : Obj) : Below w.heap.size w (((w.alloc a).alloc b).alloc c) := (by (repeat' (first | assumption | exact Below.refl _ _ | refine Below.alloc ?_ ?_ _ | refine Below.setCell ?_ ?_ _ | refine Below.drew ?_ | refine below_drewN ?_ _)) <;> (first | omega | (simp <;> omega)))

end Go.Proofs.Ytpgpkdeiapeoiaa
/- Contracts: l1Least, l1Up, tenTo, manAt, l1Add, DecAdd of both sides. -/
namespace Go.Proofs.Ytpgpkdeiapeoiaa
open Go.RowKit

theorem ret_int {k : IntKind} {a b : Int} (h : a = b) : Ending.returned (.int k a) = .returned (.int k b) := by rw [h]
/-- a number and a truth, as a call hands them back -/
abbrev int2 (r : Int × Bool) : Ending := .returned (.tuple #[.int .i64 r.1, .bool r.2])

set_option maxHeartbeats 400000 in
theorem tenTo_any (p : Int) (w : World) (h0 : 0 ≤ p) (h1 : p ≤ 18) :
    Calls Try.prog 85 #[.int .i64 p] w fun e w' => e = .returned (.int .i64 (Dm.p10 p)) ∧ w' = w := by
  go_enter Try.func85, Try.ntmps85
  go_wp2
  go_loop [3, 5] (fun t i => ∃ k : Int, 0 ≤ k ∧ k ≤ p ∧ i = .int .i64 k ∧ t = .int .i64 (Dm.p10 k)) (fun _ i => (p - intOf i).toNat)
  case atStart => exact ⟨0, by omega, by omega, rfl, rfl⟩
  case round =>
    obtain ⟨k, hk0, hk1, rfl, rfl⟩ := hrel
    by_cases hlt : k < p
    · have hp := Dm.p10_pos k
      have hb := Dm.p10_mono (j := k) (k := 17) (by omega)
      have hb2 : Dm.p10 17 = 100000000000000000 := rfl
      rw [hb2] at hb
      clear hb2
      have HS : Hid (Dm.p10 (k + 1) = Dm.p10 k * 10) := Dm.p10_succ k hk0
      go_wp2
      go_round
      case rel => exact ⟨k + 1, by omega, by omega, by go_num, by rw [HS.out]⟩
      case measure => simp [intOf]; omega
    · have : k = p := by omega
      subst this
      go_wp2
      go_ret
      exact ⟨rfl, rfl⟩

end Go.Proofs.Ytpgpkdeiapeoiaa
/- Contracts: l1Add, DecAdd of both sides. -/
namespace Go.Proofs.Ytpgpkdeiapeoiaa
open Go.RowKit

theorem hideIt {p : Prop} (h : p) : Hid p := h
theorem Dm.up_bd (k : Nat) (n : Int) (h1 : -1000000000 ≤ n) (h2 : n ≤ 1000000000) : -1000000000 ≤ (Dm.up k n).1 ∧ (Dm.up k n).1 ≤ 1000000000 := by
  induction k generalizing n with
  | zero => exact ⟨h1, h2⟩
  | succ k ih =>
    rw [Dm.up]
    by_cases h : 1000000000 < n * 10 ∨ n * 10 < -1000000000
    · rw [if_pos h]; exact ⟨by decide, by decide⟩
    · rw [if_neg h]; exact ih _ (by omega) (by omega)

end Go.Proofs.Ytpgpkdeiapeoiaa
/- What is held of the world while two decimals that lie in memory are handed on to calls, in whatever order. -/
namespace Go.Proofs.Ytpgpkdeiapeoiaa
open Go.RowKit

/-- two decimals lie in blocks b and d, and nothing that was there in W0 has turned -/
def Held (W0 : World) (b d : Nat) (m x n y : Int) (w' : World) : Prop :=
  w'.cell? ⟨b, 0, none⟩ = some (.int .i64 m) ∧ w'.cell? ⟨b, 1, none⟩ = some (.int .i64 x) ∧ w'.cell? ⟨d, 0, none⟩ = some (.int .i64 n) ∧ w'.cell? ⟨d, 1, none⟩ = some (.int .i64 y) ∧ Below W0.heap.size W0 w'
theorem lt_of_cell {W : World} {b o : Nat} {v : Value} (h : W.cell? ⟨b, o, none⟩ = some v) : b < W.heap.size := World.block_lt_of_cell? W _ h
theorem Held.below {W0 W w1 : World} {b d : Nat} {m x n y : Int} (h : Held W0 b d m x n y W) (hb : Below W.heap.size W w1) : Held W0 b d m x n y w1 := by
  obtain ⟨h1, h2, h3, h4, h6⟩ := h
  have := hb.size
  have := h6.size
  have b0 := lt_of_cell h1
  have d0 := lt_of_cell h3
  exact ⟨(hb.cell (p := ⟨b, 0, none⟩) b0).trans h1, (hb.cell (p := ⟨b, 1, none⟩) b0).trans h2, (hb.cell (p := ⟨d, 0, none⟩) d0).trans h3, (hb.cell (p := ⟨d, 1, none⟩) d0).trans h4, h6.trans (hb.mono (by omega))⟩
theorem Held.alloc {W0 W : World} {b d : Nat} {m x n y : Int} (h : Held W0 b d m x n y W) (o : Obj) : Held W0 b d m x n y (W.alloc o) := h.below ((Below.refl _ _).alloc (Nat.le_refl _) o)
theorem Held.drew {W0 W : World} {b d : Nat} {m x n y : Int} (h : Held W0 b d m x n y W) : Held W0 b d m x n y W.drew := h.below ((Below.refl _ _).drew)
theorem Held.start {W : World} {b d : Nat} {m x n y : Int} (h1 : W.cell? ⟨b, 0, none⟩ = some (.int .i64 m)) (h2 : W.cell? ⟨b, 1, none⟩ = some (.int .i64 x)) (h3 : W.cell? ⟨d, 0, none⟩ = some (.int .i64 n)) (h4 : W.cell? ⟨d, 1, none⟩ = some (.int .i64 y)) : Held W b d m x n y W :=
  ⟨h1, h2, h3, h4, Below.refl _ _⟩
theorem Held.set {W0 W : World} {b d : Nat} {m x n y : Int} (h : Held W0 b d m x n y W) (hb : b < W0.heap.size) (hd : d < W0.heap.size) {k : Nat} (hk : W0.heap.size ≤ k) (u v : Value) : Held W0 b d m x n y ((W.setCell ⟨k, 0, none⟩ u).setCell ⟨k, 1, none⟩ v) := by
  have q : Below W0.heap.size W ((W.setCell ⟨k, 0, none⟩ u).setCell ⟨k, 1, none⟩ v) := ((Below.refl _ W).setCell (p := ⟨k, 0, none⟩) hk u).setCell (p := ⟨k, 1, none⟩) hk v
  obtain ⟨h1, h2, h3, h4, h6⟩ := h
  exact ⟨(q.cell (p := ⟨b, 0, none⟩) hb).trans h1, (q.cell (p := ⟨b, 1, none⟩) hb).trans h2, (q.cell (p := ⟨d, 0, none⟩) hd).trans h3, (q.cell (p := ⟨d, 1, none⟩) hd).trans h4, h6.trans q⟩

/-- the same, but of blocks below k alone it is said that they have not turned -/
def HeldK (k : Nat) (W0 : World) (b d : Nat) (m x n y : Int) (w' : World) : Prop :=
  w'.cell? ⟨b, 0, none⟩ = some (.int .i64 m) ∧ w'.cell? ⟨b, 1, none⟩ = some (.int .i64 x) ∧ w'.cell? ⟨d, 0, none⟩ = some (.int .i64 n) ∧ w'.cell? ⟨d, 1, none⟩ = some (.int .i64 y) ∧ k ≤ w'.heap.size ∧ Below k W0 w'
theorem HeldK.below {k : Nat} {W0 W w1 : World} {b d : Nat} {m x n y : Int} (h : HeldK k W0 b d m x n y W) (hb : Below W.heap.size W w1) : HeldK k W0 b d m x n y w1 := by
  obtain ⟨h1, h2, h3, h4, h5, h6⟩ := h
  have := hb.size
  have b0 := lt_of_cell h1
  have d0 := lt_of_cell h3
  exact ⟨(hb.cell (p := ⟨b, 0, none⟩) b0).trans h1, (hb.cell (p := ⟨b, 1, none⟩) b0).trans h2, (hb.cell (p := ⟨d, 0, none⟩) d0).trans h3, (hb.cell (p := ⟨d, 1, none⟩) d0).trans h4, by omega, h6.trans (hb.mono (by omega))⟩
theorem HeldK.drew {k : Nat} {W0 W : World} {b d : Nat} {m x n y : Int} (h : HeldK k W0 b d m x n y W) : HeldK k W0 b d m x n y W.drew := h.below ((Below.refl _ _).drew)
theorem HeldK.start {k : Nat} {W : World} {b d : Nat} {m x n y : Int} (h1 : W.cell? ⟨b, 0, none⟩ = some (.int .i64 m)) (h2 : W.cell? ⟨b, 1, none⟩ = some (.int .i64 x)) (h3 : W.cell? ⟨d, 0, none⟩ = some (.int .i64 n)) (h4 : W.cell? ⟨d, 1, none⟩ = some (.int .i64 y)) (h5 : k ≤ W.heap.size) : HeldK k W b d m x n y W :=
  ⟨h1, h2, h3, h4, h5, Below.refl _ _⟩
theorem HeldK.set {k : Nat} {W0 W : World} {b d : Nat} {m x n y : Int} (h : HeldK k W0 b d m x n y W) (hb : b < k) (hd : d < k) {j : Nat} (hk : k ≤ j) (u v : Value) : HeldK k W0 b d m x n y ((W.setCell ⟨j, 0, none⟩ u).setCell ⟨j, 1, none⟩ v) := by
  have q : Below k W ((W.setCell ⟨j, 0, none⟩ u).setCell ⟨j, 1, none⟩ v) := ((Below.refl _ W).setCell (p := ⟨j, 0, none⟩) hk u).setCell (p := ⟨j, 1, none⟩) hk v
  obtain ⟨h1, h2, h3, h4, h5, h6⟩ := h
  have := q.size
  exact ⟨(q.cell (p := ⟨b, 0, none⟩) hb).trans h1, (q.cell (p := ⟨b, 1, none⟩) hb).trans h2, (q.cell (p := ⟨d, 0, none⟩) hd).trans h3, (q.cell (p := ⟨d, 1, none⟩) hd).trans h4, by omega, h6.trans q⟩
end Go.Proofs.Ytpgpkdeiapeoiaa
/- Contracts: l1Neg, opposite, DecSub of both sides. -/
namespace Go.Proofs.Ytpgpkdeiapeoiaa
open Go.RowKit
attribute [local go_sem] cell_alloc_is frozen_alloc_is
theorem wf_bd {n : Int} (h : (Lit.int .i64 n).wf = true) : -9223372036854775808 ≤ n ∧ n ≤ 9223372036854775807 := bounds_i64 h

set_option maxHeartbeats 400000 in
theorem l1Neg_any (m x : Int) (w : World) (h1 : -9223372036854775807 ≤ m) (h2 : m ≤ 9223372036854775807) :
    Calls Try.prog 60 #[.agg #[.int .i64 m, .int .i64 x]] w fun e w' => e = .returned (.agg #[.int .i64 (-m), .int .i64 x]) ∧ Below w.heap.size w w' := by
  go_enter Try.func60, Try.ntmps60
  go_wp2
  exact bodyPost_ret (v := .agg #[.int .i64 (-m), .int .i64 x]) (by simp [results, Try.results60, go_sem]) rfl ⟨rfl, (by (repeat' (first | assumption | exact Below.refl _ _ | refine Below.alloc ?_ ?_ _ | refine Below.setCell ?_ ?_ _ | refine Below.drew ?_ | refine below_drewN ?_ _)) <;> (first | omega | (simp <;> omega)))⟩

end Go.Proofs.Ytpgpkdeiapeoiaa
/- Contracts: l1Dec (the decimal text of a whole number). -/
namespace Go.Proofs.Ytpgpkdeiapeoiaa
open Go.RowKit
attribute [local go_sem] cell_alloc_is frozen_alloc_is

theorem conv_one (W : World) (b : Nat) (c : Int) (h0 : 0 ≤ c) (h1 : c ≤ 255) (hc : W.cell? ⟨b, 0, none⟩ = some (.int .u8 c)) :
    (convert 46 9 (.slice (some ⟨b, 0, none⟩) 1 1)).run Try.prog W = .ok (.string ⟨#[UInt8.ofNat c.toNat]⟩) W := by
  have e : (UInt8.ofNat c.toNat).toNat = c.toNat := by rw [UInt8.toNat_ofNat']; omega
  exact run_convert_bytes_back (P := Try.prog) W 46 9 5 ⟨b, 0, none⟩ 1 [UInt8.ofNat c.toNat] Try.underlying46 Try.underlying5 Try.underlying9 (by
    intro j hj
    have hj0 : j = 0 := by simp at hj; omega
    subst hj0
    simp only [List.getElem_cons_zero, e]
    rw [show ((c.toNat : Nat) : Int) = c from by omega]
    exact hc)

theorem hideIt2 {p : Prop} (h : p) : Hid p := h
set_option maxHeartbeats 1000000 in
theorem l1Dec_small (k : Nat) (n : Int) (w : World) (h1 : 0 ≤ n) (hn : n < 10) :
    Calls Try.prog 61 #[.int .i64 n] w fun e w' => e = .returned (.string ⟨(Dm.digs (k + 1) n.toNat).toArray⟩) ∧ Below w.heap.size w w' := by
  have hcv := fun W b => conv_one W b (48 + n) (by omega) (by omega)
  have HF : Hid (Dm.digs (k + 1) n.toNat = [UInt8.ofNat (48 + n).toNat]) := by
    unfold Hid; rw [Dm.digs, if_pos (by omega), show (48 + n).toNat = 48 + n.toNat from by omega]
  go_enter Try.func61, Try.ntmps61
  go_wp2_with fail
  go_ret
  exact ⟨by rw [HF.out]; rfl, (by (repeat' (first | assumption | exact Below.refl _ _ | refine Below.alloc ?_ ?_ _ | refine Below.setCell ?_ ?_ _ | refine Below.drew ?_ | refine below_drewN ?_ _)) <;> (first | omega | (simp <;> omega)))⟩

set_option maxHeartbeats 1000000 in
theorem l1Dec_any (k : Nat) : ∀ (n : Int) (w : World), k ≤ 30 → 0 ≤ n → n < 10 ^ (k + 1) → n ≤ 9223372036854775807 →
    Calls Try.prog 61 #[.int .i64 n] w fun e w' => e = .returned (.string ⟨(Dm.digs (k + 1) n.toNat).toArray⟩) ∧ Below w.heap.size w w' := by
  induction k with
  | zero => intro n w _ h1 h2 h3; exact l1Dec_small 0 n w h1 (by simpa using h2)
  | succ k ih =>
    intro n w hk h1 h2 h3
    by_cases hn : n < 10
    · exact l1Dec_small _ n w h1 hn
    · have hcv := fun W b => conv_one W b (48 + n % 10) (by omega) (by omega)
      have h10 : n / 10 < 10 ^ (k + 1) := by rw [Int.pow_succ] at h2; omega
      obtain ⟨s, hs⟩ : ∃ s : ByteArray, s = ⟨(Dm.digs (k + 1) (n / 10).toNat).toArray⟩ := ⟨_, rfl⟩
      have IH : Hid (∀ w : World, Calls Try.prog 61 #[.int .i64 (n / 10)] w fun e w' => e = .returned (.string s) ∧ Below w.heap.size w w') := fun w => by rw [hs]; exact ih (n / 10) w (by omega) (by omega) h10 (by omega)
      have HF : Hid ((⟨(Dm.digs (k + 1 + 1) n.toNat).toArray⟩ : ByteArray) = s ++ ⟨#[UInt8.ofNat (48 + n % 10).toNat]⟩) := by
        unfold Hid; rw [hs, Dm.digs, if_neg (by omega), show (48 + n % 10).toNat = 48 + n.toNat % 10 from by omega, show (n / 10).toNat = n.toNat / 10 from by omega]; exact ByteArray.ext (by simp)
      have hsz : s.size ≤ 40 := by rw [hs]; have := Dm.digs_len (k + 1) (n / 10).toNat; simp only [ByteArray.size, List.size_toArray]; omega
      clear h2 ih h10 hs
      rw [HF.out]
      clear HF
      have hw1 : IntKind.i64.wrap (n.tdiv 10) = n / 10 := by rw [Int.tdiv_eq_ediv_of_nonneg h1, IntKind.wrap_i64]; omega
      have hw2 : n.tmod 10 = n % 10 := Int.tmod_eq_emod_of_nonneg h1
      have hw3 : IntKind.i64.wrap (48 + n % 10) = 48 + n % 10 := by rw [IntKind.wrap_i64]; omega
      have hw4 : IntKind.u8.wrap (48 + n % 10) = 48 + n % 10 := by rw [IntKind.wrap_u8]; omega
      go_enter Try.func61, Try.ntmps61
      go_wp2_with fail
      go_region_with (go_at_call 61; refine (IH.out _).mono ?_; rintro e w1 ⟨rfl, hb1⟩; obtain ⟨hc, hf⟩ := bsome hb1)
      all_goals
        go_wp2
        go_ret
        refine ⟨rfl, ?_⟩
        (repeat' (first | exact Below.refl _ _ | refine Below.alloc ?_ ?_ _ | refine Below.drew ?_ | refine Below.trans ?_ (hb1.mono ?_))) <;> (first | omega | (simp; done) | (have := hb1.size; simp at this; omega) | (simp; omega))
end Go.Proofs.Ytpgpkdeiapeoiaa
/- Contracts: the text of a decimal as the specification makes it. -/
namespace Go.Proofs.Ytpgpkdeiapeoiaa
open Go.RowKit
attribute [local go_sem] cell_alloc_is frozen_alloc_is

theorem tArr_size (l : List UInt8) : (⟨l.toArray⟩ : ByteArray).size = l.length := by show l.toArray.size = _; simp
theorem tArr_append (a b : List UInt8) : (⟨a.toArray⟩ : ByteArray) ++ ⟨b.toArray⟩ = ⟨(a ++ b).toArray⟩ := by
  have : ∀ x y : ByteArray, x.data.toList = y.data.toList → x = y := by intro x y h; cases x; cases y; simpa using h
  apply this; simp [ByteArray.data_append]
theorem tLen (s : ByteArray) : s.data.toList.length = s.size := by rw [Array.length_toList]; rfl
/-- so many noughts -/
abbrev noughts (a : Nat) : ByteArray := ⟨(List.replicate a (48 : UInt8)).toArray⟩
theorem noughts_add (a b : Nat) : noughts a ++ noughts b = noughts (a + b) := by rw [tArr_append, List.replicate_append_replicate]
theorem noughts_size (a : Nat) : (noughts a).size = a := by rw [tArr_size, List.length_replicate]

set_option maxHeartbeats 1000000 in
theorem l1Many_any (k : Nat) (w : World) (hk : k ≤ 100) :
    Calls Try.prog 62 #[.string ⟨#[48]⟩, .int .i64 k] w fun e w' => e = .returned (.string (noughts k)) ∧ w' = w := by
  go_enter Try.func62, Try.ntmps62
  go_wp2_with fail
  go_loop [0, 1, 5] (fun s n o => ∃ a b c : Nat, s = .string (noughts b) ∧ n = .int .i64 c ∧ o = .string (noughts a) ∧ a + b * c = k ∧ a ≤ 1000 ∧ b * (c + 1) ≤ 2000 ∧ c ≤ 100) (fun _ n _ => (intOf n).toNat)
  case atStart => exact ⟨0, 1, k, rfl, rfl, rfl, by omega, by omega, by omega, hk⟩
  case round =>
    obtain ⟨a, b, c, rfl, rfl, rfl, h1, h2, h3, h4⟩ := hrel
    have sa := noughts_size a
    have sb := noughts_size b
    by_cases hc : 0 < c
    · have hb : b ≤ 2000 := by
        have : b * 1 ≤ b * (c + 1) := Nat.mul_le_mul_left _ (by omega)
        omega
      have hbc : b * c ≤ k := by omega
      have hb6 : b * 1 ≤ b * c := Nat.mul_le_mul_left _ (by omega)
      have HAB : Hid (noughts a ++ noughts b = noughts (a + b)) := noughts_add a b
      have HBB : Hid (noughts b ++ noughts b = noughts (b + b)) := noughts_add b b
      have hc' : (0 : Int) < (c : Int) := by omega
      have hdm : c = 2 * (c / 2) + c % 2 := by omega
      have e1 : b * c = (b + b) * (c / 2) + b * (c % 2) := by
        conv => lhs; rw [hdm]
        rw [Nat.mul_add, ← Nat.mul_assoc, Nat.mul_comm b 2, Nat.two_mul]
      have e2 : (b + b) * (c / 2 + 1) ≤ 2000 := by
        have : (b + b) * (c / 2 + 1) = (b + b) * (c / 2) + (b + b) := by rw [Nat.mul_add, Nat.mul_one]
        have h5 : (b + b) * (c / 2) ≤ b * c := by omega
        have h6 : b * 1 ≤ b * c := Nat.mul_le_mul_left _ (by omega)
        omega
      have HE : Hid (b * c = (b + b) * (c / 2) + b * (c % 2)) := e1
      clear e1 hdm
      by_cases ho : c % 2 = 1
      · have ho' : ((c : Int) % 2 == 1) = true := by simp; omega
        go_wp2_with fail
        go_round
        case rel =>
          refine ⟨a + b, b + b, c / 2, by rw [HBB.out], by go_num, by rw [HAB.out], ?_, by omega, e2, by omega⟩
          have := HE.out; rw [ho, Nat.mul_one] at this; omega
        case measure => simp [intOf]; omega
      · have ho' : ((c : Int) % 2 == 1) = false := by simp; omega
        go_wp2_with fail
        go_round
        case rel =>
          refine ⟨a, b + b, c / 2, by rw [HBB.out], by go_num, rfl, ?_, h2, e2, by omega⟩
          have := HE.out; rw [show c % 2 = 0 by omega, Nat.mul_zero] at this; omega
        case measure => simp [intOf]; omega
    · have hc0 : c = 0 := by omega
      subst hc0
      have : a = k := by omega
      subst this
      go_wp2_with fail
      go_ret
      exact ⟨rfl, rfl⟩

set_option maxHeartbeats 2000000 in
theorem l1Text_pos (n : Nat) (x : Int) (w : World) (hn : n ≤ 99999999) (x1 : -8 ≤ x) (x2 : x ≤ 8) :
    Calls Try.prog 42 #[.agg #[.int .i64 n, .int .i64 x]] w fun e w' => e = .returned (.string ⟨(Tm.body n x).toArray⟩) ∧ Below w.heap.size w w' := by
  have hdig : Dm.digs 9 n = Tm.dstr n (Tm.cnt n) := Tm.digs_dstr 9 n
  have hcl := Tm.cnt_le n
  have L : ∀ w : World, Calls Try.prog 61 #[.int .i64 n] w fun e w' => e = .returned (.string ⟨(Tm.dstr n (Tm.cnt n)).toArray⟩) ∧ Below w.heap.size w w' := by
    intro w
    have := l1Dec_any 8 (n : Int) w (by omega) (by omega) (by omega) (by omega)
    rw [Int.toNat_natCast] at this
    rw [← hdig]; exact this
  clear hdig
  have hn0 : (0 : Int) ≤ (n : Int) := by omega
  by_cases h : 0 ≤ x
  · obtain ⟨k, rfl⟩ := Int.eq_ofNat_of_zero_le h
    have HF : Hid (Tm.body n k = Tm.dstr n (Tm.cnt n) ++ List.replicate k 48) := by unfold Hid; rw [Tm.body, if_pos h, Int.toNat_natCast]
    go_enter Try.func42, Try.ntmps42
    go_wp2_with fail
    refine (L _).mono ?_
    rintro e w1 ⟨rfl, hb1⟩
    obtain ⟨c0, c1, f0, f1⟩ := (Two.new w (n : Int) (k : Int) 30).below hb1 (by simp)
    have hB1 : Below w.heap.size w w1 := Below.trans (by (repeat' (first | assumption | exact Below.refl _ _ | refine Below.alloc ?_ ?_ _ | refine Below.setCell ?_ ?_ _ | refine Below.drew ?_ | refine below_drewN ?_ _)) <;> (first | omega | (simp <;> omega))) (hb1.mono (by simp))
    clear hb1
    have s1 := tArr_size (Tm.dstr n (Tm.cnt n))
    rw [Tm.dstr_len] at s1
    have s2 := noughts_size k
    have HA : Hid ((⟨(Tm.dstr n (Tm.cnt n)).toArray⟩ : ByteArray) ++ noughts k = ⟨(Tm.body n k).toArray⟩) := by unfold Hid; rw [HF.out, tArr_append]
    generalize (⟨(Tm.dstr n (Tm.cnt n)).toArray⟩ : ByteArray) = D at *
    go_wp2_with fail
    refine (l1Many_any k _ (by omega)).mono ?_
    rintro e w2 ⟨rfl, hw⟩
    subst w2
    generalize noughts k = Z at *
    go_wp2_with fail
    go_ret
    exact ⟨by rw [HA.out]; rfl, hB1⟩
  · obtain ⟨k, rfl⟩ : ∃ k : Nat, x = -(k : Int) := ⟨(-x).toNat, by omega⟩
    have HF : Hid (Tm.body n (-(k : Int)) = Tm.dsl n k (max (Tm.cnt n) (k + 1) - k) ++ 46 :: Tm.dstr n k) := by unfold Hid; rw [Tm.body, if_neg h, Int.neg_neg, Int.toNat_natCast]
    have hlt := Tm.lt_cnt n hn
    go_enter Try.func42, Try.ntmps42
    go_wp2_with fail
    refine (L _).mono ?_
    rintro e w1 ⟨rfl, hb1⟩
    obtain ⟨c0, c1, f0, f1⟩ := (Two.new w (n : Int) (-(k : Int)) 30).below hb1 (by simp)
    have hB1 : Below w.heap.size w w1 := Below.trans (by (repeat' (first | assumption | exact Below.refl _ _ | refine Below.alloc ?_ ?_ _ | refine Below.setCell ?_ ?_ _ | refine Below.drew ?_ | refine below_drewN ?_ _)) <;> (first | omega | (simp <;> omega))) (hb1.mono (by simp))
    clear hb1
    go_wp2_with fail
    go_loop [3] (fun s => ∃ c : Nat, s = .string ⟨(Tm.dstr n c).toArray⟩ ∧ c ≤ 30 ∧ n < 10 ^ c ∧ max c (k + 1) = max (Tm.cnt n) (k + 1)) (fun s => 40 - (match s with | .string b => b.size | _ => 0))
    case atStart => exact ⟨Tm.cnt n, rfl, by omega, hlt, rfl⟩
    case round =>
      obtain ⟨c, rfl, hc1, hc2, hc3⟩ := hrel
      have s1 := tArr_size (Tm.dstr n c)
      rw [Tm.dstr_len] at s1
      by_cases hck : c ≤ k
      · have HZ : Hid ((⟨#[48]⟩ : ByteArray) ++ ⟨(Tm.dstr n c).toArray⟩ = ⟨(Tm.dstr n (c + 1)).toArray⟩) := by
          unfold Hid
          rw [show (⟨#[48]⟩ : ByteArray) = ⟨[48].toArray⟩ from rfl, tArr_append]
          show _ = (⟨(Tm.dig n c :: Tm.dstr n c).toArray⟩ : ByteArray)
          rw [Tm.dig_none hc2]; rfl
        have HP : Hid (n < 10 ^ (c + 1)) := by unfold Hid; rw [Nat.pow_succ]; omega
        have hS := tArr_size (Tm.dstr n (c + 1))
        rw [Tm.dstr_len] at hS
        have HSS : Hid ((⟨(Tm.dstr n (c + 1)).toArray⟩ : ByteArray).size = c + 1) := hS
        clear hc2 hS
        have hck' : (c : Int) ≤ (k : Int) := by omega
        go_wp2_with fail
        go_round
        case rel => exact ⟨c + 1, by rw [HZ.out], by omega, HP.out, by omega⟩
        case measure => rw [HZ.out]; simp only [HSS.out, s1]; omega
      · have hck' : ¬ (c : Int) ≤ (k : Int) := by omega
        have hmc : max (Tm.cnt n) (k + 1) = c := by omega
        obtain ⟨j, hj⟩ : ∃ j : Nat, c = j + k := ⟨c - k, by omega⟩
        have q1 : (c : Int) + -(k : Int) = (j : Int) := by omega
        have q2 : (j : Int) ≤ (c : Int) := by omega
        have q3 : (0 : Int) ≤ (j : Int) := by omega
        have q4 : IntKind.i64.wrap ((c : Int) + -(k : Int)) = (j : Int) := by rw [q1, IntKind.wrap_i64]; omega
        have hD : (Tm.dstr n c) = Tm.dsl n k j ++ Tm.dstr n k := by rw [hj]; exact Tm.dstr_add n k j
        have X1 : Hid (((⟨(Tm.dstr n c).toArray⟩ : ByteArray).extract 0 j) = ⟨(Tm.dsl n k j).toArray⟩) := by
          unfold Hid
          apply ByteArray.ext
          apply Array.toList_inj.1
          rw [hD]; simp [ByteArray.data_extract]
          rw [List.take_left' (Tm.dsl_len n k j)]
        have X2 : Hid (((⟨(Tm.dstr n c).toArray⟩ : ByteArray).extract j c) = ⟨(Tm.dstr n k).toArray⟩) := by
          unfold Hid
          apply ByteArray.ext
          apply Array.toList_inj.1
          rw [hD]; simp [ByteArray.data_extract]
          rw [List.drop_left' (Tm.dsl_len n k j), List.take_of_length_le (by rw [Tm.dstr_len]; omega)]
        have z1 : ((⟨(Tm.dstr n c).toArray⟩ : ByteArray).extract 0 j).size = j := by rw [X1.out, tArr_size, Tm.dsl_len]
        have z2 : ((⟨(Tm.dstr n c).toArray⟩ : ByteArray).extract j c).size = k := by rw [X2.out, tArr_size, Tm.dstr_len]
        have HJ : Hid (max (Tm.cnt n) (k + 1) - k = j) := by unfold Hid; omega
        have HC : Hid (c = j + k) := hj
        clear hD hj hc3 hmc q1 hc2 hlt
        go_wp2_with fail
        go_quiet (fail)
        go_wp2_with fail
        go_ret
        refine ⟨?_, below_drewN hB1 _⟩
        show Ending.returned (Value.string (((⟨(Tm.dstr n c).toArray⟩ : ByteArray).extract 0 j) ++ ⟨#[46]⟩ ++ ((⟨(Tm.dstr n c).toArray⟩ : ByteArray).extract j c))) = _
        rw [X1.out, X2.out, show (⟨#[46]⟩ : ByteArray) = ⟨[46].toArray⟩ from rfl, tArr_append, tArr_append, HF.out, HJ.out, List.append_assoc]; rfl

set_option maxHeartbeats 1000000 in
theorem l1Text_any (m x : Int) (w : World) (m1 : -99999999 ≤ m) (m2 : m ≤ 99999999) (x1 : -8 ≤ x) (x2 : x ≤ 8) :
    Calls Try.prog 42 #[.agg #[.int .i64 m, .int .i64 x]] w fun e w' => e = .returned (.string ⟨(Tm.text m x).toArray⟩) ∧ Below w.heap.size w w' := by
  by_cases h : m < 0
  · obtain ⟨n, hn⟩ : ∃ n : Nat, n = m.natAbs := ⟨_, rfl⟩
    have hmn : -m = (n : Int) := by omega
    have HT : Hid (Tm.text m x = [45] ++ Tm.body n x) := by unfold Hid; rw [Tm.text, if_pos h, hn]
    have P : ∀ w : World, Calls Try.prog 42 #[.agg #[.int .i64 (-m), .int .i64 x]] w fun e w' => e = .returned (.string ⟨(Tm.body n x).toArray⟩) ∧ Below w.heap.size w w' := by
      intro w; rw [hmn]; exact l1Text_pos n x w (by omega) x1 x2
    clear hmn hn
    have hbl := Tm.body_len n x x1 x2
    have hsz := tArr_size (Tm.body n x)
    go_enter Try.func42, Try.ntmps42
    go_wp2_with fail
    refine (l1Neg_any _ _ _ (by omega) (by omega)).mono ?_
    rintro e w1 ⟨rfl, hb1⟩
    have hB1 : Below w.heap.size w w1 := Below.trans (by (repeat' (first | assumption | exact Below.refl _ _ | refine Below.alloc ?_ ?_ _ | refine Below.setCell ?_ ?_ _ | refine Below.drew ?_ | refine below_drewN ?_ _)) <;> (first | omega | (simp <;> omega))) (hb1.mono (by simp))
    clear hb1
    go_wp2_with fail
    refine (P _).mono ?_
    rintro e w2 ⟨rfl, hb2⟩
    have hB2 : Below w.heap.size w w2 := hB1.trans (hb2.mono hB1.size)
    have HA : Hid ((⟨#[45]⟩ : ByteArray) ++ ⟨(Tm.body n x).toArray⟩ = ⟨(Tm.text m x).toArray⟩) := by
      unfold Hid; rw [show (⟨#[45]⟩ : ByteArray) = ⟨[45].toArray⟩ from rfl, tArr_append, HT.out]
    generalize (⟨(Tm.body n x).toArray⟩ : ByteArray) = D at *
    go_wp2_with fail
    go_ret
    exact ⟨by rw [← HA.out]; rfl, hB2⟩
  · obtain ⟨n, rfl⟩ := Int.eq_ofNat_of_zero_le (show 0 ≤ m by omega)
    have e : Tm.text (n : Int) x = Tm.body n x := by rw [Tm.text, if_neg h]; rfl
    rw [e]
    exact l1Text_pos n x w (by omega) x1 x2

/-- the text of a decimal; empty, if it is not in its form -/
def textOf (m x : Int) : List UInt8 := if Dm.ok m x = true then Tm.text m x else []
end Go.Proofs.Ytpgpkdeiapeoiaa
/- Contracts: figureCount, figureAt, figures. -/
namespace Go.Proofs.Ytpgpkdeiapeoiaa
open Go.RowKit
attribute [local go_sem] cell_alloc_is frozen_alloc_is

set_option maxHeartbeats 1000000 in
theorem figureCount_any (m : Int) (w : World) (m1 : -99999999 ≤ m) (m2 : m ≤ 99999999) :
    Calls Try.prog 77 #[.int .i64 m] w fun e w' => e = .returned (.int .i64 (Tm.cnt m.natAbs)) ∧ w' = w := by
  have HC : Hid (Tm.cnt m.natAbs = 1 + Tm.nd 8 (m.tdiv 10).natAbs) := by unfold Hid; rw [Tm.cnt, Tm.digs_nd, Int.natAbs_tdiv]; rfl
  have hb0 : (m.tdiv 10).natAbs < 10 ^ 8 := by rw [Int.natAbs_tdiv]; show m.natAbs / 10 < _; omega
  go_enter Try.func77, Try.ntmps77
  go_wp2_with fail
  go_loop [0, 3] (fun v c => ∃ (u : Int) (k f : Nat), v = .int .i64 u ∧ c = .int .i64 k ∧ Tm.cnt m.natAbs = k + Tm.nd f u.natAbs ∧ u.natAbs < 10 ^ f ∧ k ≤ 100 - f ∧ f ≤ 8) (fun v _ => (intOf v).natAbs)
  case atStart => exact ⟨_, 1, 8, rfl, rfl, HC.out, hb0, by omega, by omega⟩
  case round =>
    obtain ⟨u, k, f, rfl, rfl, h1, h2, h3, h4⟩ := hrel
    have H1 : Hid (Tm.cnt m.natAbs = k + Tm.nd f u.natAbs) := h1
    clear h1 HC
    by_cases hu : u = 0
    · subst hu
      go_wp2_with fail
      go_ret
      exact ⟨ret_int (by rw [H1.out]; simp [Tm.nd_zero]), rfl⟩
    · have hu' : (u != 0) = true := by simp [hu]
      obtain ⟨f', rfl⟩ : ∃ f', f = f' + 1 := ⟨f - 1, by
        by_cases hf : f = 0
        · subst hf; simp at h2; omega
        · omega⟩
      have hub : u.natAbs < 100000000 := Nat.lt_of_lt_of_le h2 (Nat.pow_le_pow_right (by omega) h4)
      have u1 : -100000000 ≤ u := by omega
      have u2 : u ≤ 100000000 := by omega
      have H2 : Hid (Tm.nd (f' + 1) u.natAbs = 1 + Tm.nd f' (u.tdiv 10).natAbs) := by unfold Hid; rw [Tm.nd_succ _ _ (by omega), Int.natAbs_tdiv]; rfl
      have H3 : Hid ((u.tdiv 10).natAbs < 10 ^ f') := by unfold Hid; rw [Int.natAbs_tdiv]; show u.natAbs / 10 < _; rw [Nat.pow_succ] at h2; omega
      clear h2
      go_wp2_with fail
      go_round
      case rel => exact ⟨_, k + 1, f', rfl, by go_num, by rw [H1.out, H2.out]; omega, H3.out, by omega, by omega⟩
      case measure => exact Dm.tdiv_lt u hu

set_option maxHeartbeats 1000000 in
theorem figureAt_any (m x p : Int) (w : World) (m1 : -99999999 ≤ m) (m2 : m ≤ 99999999) (_x1 : -8 ≤ x) (_x2 : x ≤ 8) (_p1 : -8 ≤ p) (_p2 : p ≤ 20) (hpx : p - x ≤ 18) :
    Calls Try.prog 78 #[.agg #[.int .i64 m, .int .i64 x], .int .i64 p] w fun e w' => e = .returned (.int .u8 (Tm.figAt m.natAbs x p)) ∧ Below w.heap.size w w' := by
  by_cases h : p < x
  · have HF : Hid (Tm.figAt m.natAbs x p = 48) := by unfold Hid; rw [Tm.figAt, if_pos h]
    go_enter Try.func78, Try.ntmps78
    go_wp2_with fail
    go_ret
    exact ⟨by rw [HF.out]; rfl, (by (repeat' (first | assumption | exact Below.refl _ _ | refine Below.alloc ?_ ?_ _ | refine Below.setCell ?_ ?_ _ | refine Below.drew ?_ | refine below_drewN ?_ _)) <;> (first | omega | (simp <;> omega)))⟩
  · have hp := Dm.p10_pos (p - x)
    have HP : Hid (Dm.p10 (p - x) = ((10 ^ (p - x).toNat : Nat) : Int)) := by unfold Hid Dm.p10; exact (Int.natCast_pow 10 _).symm
    have HF : Hid (Tm.figAt m.natAbs x p = 48 + (m.natAbs : Int) / Dm.p10 (p - x) % 10) := by
      unfold Hid; rw [Tm.figAt, if_neg h, HP.out]; rfl
    have T := fun w => tenTo_any (p - x) w (by omega) hpx
    go_enter Try.func78, Try.ntmps78
    go_wp2_with fail
    have ht2 : Dm.p10 (p - x) ≤ 1000000000000000000 := by have := Dm.p10_mono (j := p - x) (k := 18) (by omega); have e : Dm.p10 18 = 1000000000000000000 := rfl; omega
    generalize Dm.p10 (p - x) = t at *
    have hz : (t == 0) = false := by simp; omega
    have hw : IntKind.i64.wrap (p - x) = p - x := by rw [IntKind.wrap_i64]; omega
    have hw2 : IntKind.i64.wrap (-m) = -m := by rw [IntKind.wrap_i64]; omega
    go_quiet ((go_at_call 85; exact Calls.quiet_of_same (T _)))
    go_wp2_with fail
    all_goals
      go_ret
      refine ⟨ret_int ?_, below_drewN (by (repeat' (first | assumption | exact Below.refl _ _ | refine Below.alloc ?_ ?_ _ | refine Below.setCell ?_ ?_ _ | refine Below.drew ?_ | refine below_drewN ?_ _)) <;> (first | omega | (simp <;> omega))) _⟩
      rw [HF.out]
    · have e : (m.natAbs : Int) = -m := by omega
      have q : 0 ≤ -m / t := Int.ediv_nonneg (by omega) (by omega)
      rw [e, Int.tmod_eq_emod_of_nonneg q]; omega
    · have e : (m.natAbs : Int) = m := by omega
      have q : 0 ≤ m / t := Int.ediv_nonneg (by omega) (by omega)
      rw [e, Int.tmod_eq_emod_of_nonneg q]; omega

set_option maxHeartbeats 400000 in
theorem figures_any (m x : Int) (w : World) :
    Calls Try.prog 69 #[.agg #[.int .i64 m, .int .i64 x]] w fun e w' => e = .returned (.func (.func 76) #[] #[.pointer (some ⟨w.heap.size, 0, none⟩)]) ∧ w' = w.alloc (.cells #[.int .i64 m, .int .i64 x] 30) := by
  go_enter Try.func69, Try.ntmps69
  go_wp2_with fail
  go_ret
  exact ⟨rfl, rfl⟩
end Go.Proofs.Ytpgpkdeiapeoiaa
/- The iterator of the figures. -/
namespace Go.Proofs.Ytpgpkdeiapeoiaa
open Go.RowKit Go.Shelf
attribute [local go_sem] Oper.semAt_some

/-- a round has left the block of the decimal as it was -/
def KpD (Bd : Nat) (W W' : World) : Prop := W.heap.size ≤ W'.heap.size ∧ W'.heap[Bd]? = W.heap[Bd]?
theorem KpD.cell {Bd o : Nat} {W W' : World} (h : KpD Bd W W') : W'.cell? ⟨Bd, o, none⟩ = W.cell? ⟨Bd, o, none⟩ := World.cell?_of_block h.2
abbrev fenc (y : Int × UInt8) : Array Value := #[.int .i64 y.1, .int .u8 y.2.toNat]
theorem grown_of_below {W W' : World} (h : Below W.heap.size W W') : W.grownBy W' none := ⟨h.os, h.tape, h.output, h.size, fun k hk _ => h.block k hk⟩

set_option maxRecDepth 100000 in
set_option maxHeartbeats 2000000 in
/-- the places of a decimal and their figures, for every loop body that keeps the decimal's block -/
theorem figures_stops (n : Nat) (hn : 1 ≤ n) (Bd : Nat) (m x hi lo : Int) (w : World) (hhi : hi = Tm.hi m.natAbs x) (hlo : lo = Tm.lo x) (m1 : -99999999 ≤ m) (m2 : m ≤ 99999999) (x1 : -8 ≤ x) (x2 : x ≤ 8)
    (hBd : Bd < w.heap.size) (c0 : w.cell? ⟨Bd, 0, none⟩ = some (.int .i64 m)) (c1 : w.cell? ⟨Bd, 1, none⟩ = some (.int .i64 x)) :
    SeqStopsK Fence.wide n Try.prog 76 #[.pointer (some ⟨Bd, 0, none⟩)] fenc (KpD Bd) (fun ys => ys = Tm.fl8 m.natAbs x hi (hi - lo + 1).toNat) (fun _ => True) 100 w := fun l J Jx W hW hJ hJx hY h0 => by
  have hcp := Tm.cnt_pos m.natAbs
  have hcl := Tm.cnt_le m.natAbs
  have C0 : W.cell? ⟨Bd, 0, none⟩ = some (.int .i64 m) := (hW.cell (p := ⟨Bd, 0, none⟩) (by show Bd < _; omega)).trans c0
  have C1 : W.cell? ⟨Bd, 1, none⟩ = some (.int .i64 x) := (hW.cell (p := ⟨Bd, 1, none⟩) (by show Bd < _; omega)).trans c1
  have hWz := hW.size
  have hW' := hW
  refine callsIn_of_wp Try.func76 rfl trivial ?_ rfl
  simp only [Try.ntmps76, List.size_toArray, List.length_cons, List.length_nil, Nat.reduceAdd, Nat.reduceSub, Array.replicate_succ, Array.replicate_zero, List.push_toArray, List.append_toArray, List.nil_append, List.cons_append]
  have hmx : Try.prog.follows .mixedOrders = true := by kernel_rfl
  have hd1 : 1 ≤ n := hn
  have hwr : IntKind.i64.wrap (x + (Tm.cnt m.natAbs : Int)) = x + (Tm.cnt m.natAbs : Int) := by rw [IntKind.wrap_i64]; omega
  gi_wp2
  gi_region_with_o (refine ⟨trivial, ?_⟩; gi_at_call 77; refine (callsIn_wide.2 (figureCount_any m _ m1 m2)).mono ?_; rintro e w' ⟨rfl, hw⟩; subst w')
  all_goals gi_wp2
  all_goals
    have hh := hhi
    have hl := hlo
    unfold Tm.hi at hh
    unfold Tm.lo at hl
    have b1 : 0 ≤ hi := by omega
    have b2 : hi ≤ 16 := by omega
    have b3 : -8 ≤ lo := by omega
    have b4 : lo ≤ 0 := by omega
    have b5 : hi - x ≤ 18 := by omega
    have HH : Hid (hi = max (x + (Tm.cnt m.natAbs : Int) - 1) 0) := hh
    have HL : Hid (lo = min x 0) := hl
    clear hh hl hhi hlo hwr hW C0 C1
    have C0 : W.cell? ⟨Bd, 0, none⟩ = some (.int .i64 m) := (hW'.cell (p := ⟨Bd, 0, none⟩) (by show Bd < _; omega)).trans c0
    have C1 : W.cell? ⟨Bd, 1, none⟩ = some (.int .i64 x) := (hW'.cell (p := ⟨Bd, 1, none⟩) (by show Bd < _; omega)).trans c1
    gi_loopw [5] (fun p wr => ∃ k : Nat, p = .int .i64 (hi - k) ∧ (k : Int) ≤ hi - lo + 1 ∧ J (Tm.fl8 m.natAbs x hi k) wr ∧ wr.cell? ⟨Bd, 0, none⟩ = some (.int .i64 m) ∧ wr.cell? ⟨Bd, 1, none⟩ = some (.int .i64 x) ∧ Bd < wr.heap.size) (fun p _ => (intOf p - lo + 1).toNat)
    case atStart =>
      have hD : Below W.heap.size W W.drew := (Below.refl _ W).drew
      have hDz := hD.size
      refine ⟨0, ?_, by omega, hJ _ _ _ none h0 (grown_of_below hD) (fun r e => by cases e), (hD.cell (p := ⟨Bd, 0, none⟩) (by show Bd < _; omega)).trans C0, (hD.cell (p := ⟨Bd, 1, none⟩) (by show Bd < _; omega)).trans C1, by omega⟩
      have := HH.out
      congr 1
      omega
    case round =>
      obtain ⟨k, rfl, hk, hJs, d0, d1, hz⟩ := hrel
      have e1 := HH.out
      have e2 := HL.out
      by_cases hlt : (k : Int) < hi - lo + 1
      · have g' : lo ≤ hi - (k : Int) := by omega
        have hfx : hi - (k : Int) - x ≤ 18 := by omega
        first
          | have g : x ≤ hi - (k : Int) := by omega
          | have g : 0 ≤ hi - (k : Int) := by omega
        clear e1 e2
        have hfig := Tm.fig8_val m.natAbs x (hi - k)
        have hlen : (Tm.fl8 m.natAbs x hi k).length < 100 := by rw [Tm.fl8_len]; omega
        gi_wp2_with (refine ⟨trivial, ?_⟩; gi_at_call 78; refine (callsIn_wide.2 (figureAt_any m x (hi - k) _ m1 m2 x1 x2 (by omega) (by omega) hfx)).mono ?_; rintro e W2 ⟨rfl, hb2⟩; obtain ⟨fn, tmps, assign, body, hy, hR⟩ := hY (Tm.fl8 m.natAbs x hi k) (hi - k, Tm.fig8 m.natAbs x (hi - k)) W2 (hJ _ _ _ none hJs (grown_of_below hb2) (fun r e => by cases e)) hlen; dsimp only [fenc] at hy; rw [hfig] at hy)
        have a0 := (hb2.cell (p := ⟨Bd, 0, none⟩) (by show Bd < _; omega)).trans d0
        have a1 := (hb2.cell (p := ⟨Bd, 1, none⟩) (by show Bd < _; omega)).trans d1
        have hz2 := hb2.size
        refine hR.mono ?_
        rintro e W3 (⟨rfl, hJ3, hk3⟩ | ⟨rfl, hJx3⟩)
        · have t0 := (hk3.cell (o := 0)).trans a0
          have t1 := (hk3.cell (o := 1)).trans a1
          have hz3 := hk3.1
          have HS : Hid (Tm.fl8 m.natAbs x hi (k + 1) = Tm.fl8 m.natAbs x hi k ++ [(hi - k, Tm.fig8 m.natAbs x (hi - k))]) := Tm.fl8_snoc _ _ _ _
          gi_wp2
          go_roundw
          case rel => exact ⟨k + 1, by congr 1; omega, by omega, by rw [HS.out]; exact hJ3, t0, t1, by omega⟩
          case measure => simp [intOf]; omega
        · gi_wp2
          refine bodyPost_ret (results_none rfl _ _ _) rfl ?_
          exact ⟨⟨_, rfl⟩, .inr ⟨_, trivial, hJx3⟩⟩
      · have hkk : (hi - lo + 1).toNat = k := by omega
        have g' : hi - (k : Int) < lo := by omega
        first
          | have g : hi - (k : Int) < x ∧ x ≤ 0 := by omega
          | have g : hi - (k : Int) < 0 ∧ 0 < x := by omega
        obtain ⟨ga, gb⟩ := g
        have HK : Hid ((hi - lo + 1).toNat = k) := hkk
        clear hkk e1 e2
        gi_wp2
        go_end0
        exact ⟨⟨_, rfl⟩, .inl (by rw [HK.out]; exact hJs)⟩
end Go.Proofs.Ytpgpkdeiapeoiaa
/- The library's contracts on strings.Builder: in one text (what a dump has not is left out there). -/
namespace Go.Proofs.Ytpgpkdeiapeoiaa
end Go.Proofs.Ytpgpkdeiapeoiaa
/- A builder that holds bytes: WriteByte. -/
namespace Go.Proofs.Ytpgpkdeiapeoiaa
open Go.RowKit

/-- the builder in block k holds these bytes -/
abbrev THolds (B k : Nat) (acc : List UInt8) (w : World) : Prop := Lib.IsBuilderF 48 5 B k (Lib.byteCells acc) w
theorem tByte (B k : Nat) (acc : List UInt8) (c : UInt8) (n : Int) (hn : n = c.toNat) (w : World) (h : THolds B k acc w) (hlen : acc.length ≤ 100000000) (hBw : B ≤ w.heap.size) :
    Calls Try.prog 68 #[.pointer (some ⟨k, 0, none⟩), .int .u8 n] w fun e w' => e = .returned .nilIface ∧ THolds B k (acc ++ [c]) w' ∧ Below B w w' ∧ Lib.OthersKept 5 (some k) w w' := by
  refine (bWriteByte B k _ n w h (by rw [Lib.byteCells_length]; omega) hBw).mono fun _ _ ⟨e, h1, h2, h3⟩ => ⟨e, ?_, h2, h3⟩
  subst hn
  unfold THolds
  rw [Lib.byteCells_append]; exact h1
theorem tHolds_own {B k : Nat} {acc : List UInt8} {W W' : World} {row : Option Nat} (h : THolds B k acc W) (hg : W.grownBy W' row) (hr : ∀ r, row = some r → ∃ o : Obj, W.heap[r]? = some o ∧ o.isCells = false) : THolds B k acc W' := by
  have stay : ∀ (j : Nat) (c : Array Value) (T : TypeId) (fz : Nat × Nat), W.heap[j]? = some (.cells c T fz) → W'.heap[j]? = some (.cells c T fz) := by
    intro j c T fz hj
    rw [hg.block j (Array.getElem?_eq_some_iff.1 hj).1 ?_]
    · exact hj
    · intro e
      obtain ⟨o, ho, hc⟩ := hr j e.symm
      rw [hj] at ho
      cases ho
      simp [Obj.isCells] at hc
  have key : ∀ p, Lib.BuilderAtF 48 5 B k p (Lib.byteCells acc) W → Lib.BuilderAtF 48 5 B k p (Lib.byteCells acc) W' := by
    rintro p ⟨h1, v, h2, ⟨h3, h4⟩, h5⟩
    refine ⟨h1, v, stay _ _ _ _ h2, ⟨h3, ?_⟩, h5⟩
    rcases h4 with h4 | ⟨g, cap, cur, fz, e1, e2, e3, e4⟩
    · exact .inl h4
    · exact .inr ⟨g, cap, cur, fz, e1, e2, stay _ _ _ _ e3, e4⟩
  rcases h with h | h
  · exact .inl (key _ h)
  · exact .inr (key _ h)
end Go.Proofs.Ytpgpkdeiapeoiaa
/- Contract: DecText of the program. -/
namespace Go.Proofs.Ytpgpkdeiapeoiaa
open Go.RowKit Go.Shelf
attribute [local go_sem] Oper.semAt_some cell_alloc_is frozen_alloc_is

theorem builder_block {B k : Nat} {acc : List UInt8} {W : World} (h : THolds B k acc W) : ∃ od : Obj, W.heap[k]? = some od ∧ od.isCells = true := by
  rcases h with ⟨_, v, h, _⟩ | ⟨_, v, h, _⟩
  · exact ⟨_, h, rfl⟩
  · exact ⟨_, h, rfl⟩
theorem keeps_of_others {B k : Nat} {acc : List UInt8} {W W' : World} (hH : THolds B k acc W) (hz : W.heap.size ≤ W'.heap.size) (h : Lib.OthersKept 5 (some k) W W') : KeepsOthers W W' := by
  obtain ⟨od, hk, hc⟩ := builder_block hH
  exact ⟨hz, fun j o ho hcc => h j o ho (by intro e; cases e; rw [hk] at ho; cases ho; rw [hc] at hcc; cases hcc) (by intro c fz e; subst e; simp [Obj.isCells] at hcc)⟩
theorem dec_stays {k Bd : Nat} {m x : Int} {W W' : World} (h : W.heap[Bd]? = some (.cells #[.int .i64 m, .int .i64 x] 30)) (hne : Bd ≠ k) (hk : Lib.OthersKept 5 (some k) W W') : W'.heap[Bd]? = some (.cells #[.int .i64 m, .int .i64 x] 30) :=
  hk Bd _ h (by intro e; cases e; exact hne rfl) (by intro c fz e; cases e)

set_option maxRecDepth 100000 in
set_option maxHeartbeats 4000000 in
theorem iDecText_neg (m x : Int) (w : World) (ho : Dm.ok m x = true) (hneg : m < 0) :
    Calls Try.prog 48 #[.agg #[.int .i64 m, .int .i64 x]] w fun e w' => e = .returned (.string ⟨(Tm.text m x).toArray⟩) ∧ Below w.heap.size w w' := by
  obtain ⟨m1, m2, x1, x2⟩ := Dm.ok_bd ho
  have HT : Hid (Tm.text m x = [45] ++ Tm.txt8 (Tm.fl8 m.natAbs x (Tm.hi m.natAbs x) (Tm.hi m.natAbs x - Tm.lo x + 1).toNat)) := by unfold Hid; rw [Tm.text, if_pos hneg, Tm.txt8_eq, Tm.txt_body]
  refine (callsIn_wide (n := 5)).1 ?_
  refine callsIn_of_wp_marks Try.func48 rfl trivial ?_ rfl
  simp only [Try.ntmps48, List.size_toArray, List.length_cons, List.length_nil, Nat.reduceAdd, Nat.reduceSub, Array.replicate_succ, Array.replicate_zero, List.push_toArray, List.append_toArray, List.nil_append, List.cons_append]
  gi_wp2_with (refine ⟨trivial, ?_⟩; gi_at_call 67; refine (callsIn_wide.2 (iDecOk_any m x _)).mono ?_; rintro e w1 ⟨rfl, hb1⟩; have hcc := (Two.new w m x 30).below hb1 (by simp); obtain ⟨c0, c1, f0, f1⟩ := hcc; have hB1 : Below w.heap.size w w1 := (((Below.refl _ w).alloc (Nat.le_refl _) _).trans (hb1.mono (by simp))))
  have hz1 : w.heap.size < w1.heap.size := by have := hb1.size; simp at this; omega
  clear hb1
  have hI0 : THolds w1.heap.size w1.heap.size [] (w1.alloc (.cells #[.pointer none, .slice none 0 0] 48)) := Lib.IsBuilderF.of (Lib.fresh_isBuilder 48 5 w1)
  have hcc2 := Two.alloc ⟨c0, c1, f0, f1⟩ hz1 (.cells #[.pointer none, .slice none 0 0] 48)
  have hB2 : Below w.heap.size w (w1.alloc (.cells #[.pointer none, .slice none 0 0] 48)) := hB1.alloc (by omega) _
  refine ⟨trivial, (callsIn_wide.2 (tByte w1.heap.size w1.heap.size [] 45 45 rfl _ hI0 (by simp) (by simp))).mono ?_⟩
  rintro e w2 ⟨rfl, h2, b2, k2⟩
  clear c0 c1 f0 f1
  obtain ⟨c0, c1, f0, f1⟩ := hcc2.below b2 hz1
  have hB3 : Below w.heap.size w w2 := hB2.trans (b2.mono (by omega))
  have hz2 : w1.heap.size < w2.heap.size := by have := b2.size; simp at this; omega
  clear hcc2 hI0 hB1 hB2 b2 k2
  gi_wp2_with fail
  refine ⟨trivial, (callsIn_wide.2 (figures_any m x _)).mono ?_⟩
  rintro e w3 ⟨rfl, hw⟩
  subst w3
  gi_wp2_with fail
  have hcd := Two.new w2 m x 30
  have hod : (w2.alloc (.cells #[.int .i64 m, .int .i64 x] 30)).heap[w2.heap.size]? = some (.cells #[.int .i64 m, .int .i64 x] 30) := World.alloc_heap_new w2 _
  refine wpIn_rangeFunc_ownF rfl (by omega) (gf := 76) (lb := #[.pointer (some ⟨w2.heap.size, 0, none⟩)]) rfl trivial (enters_of Try.func76 (by kernel_rfl) rfl)
    (figures_stops 4 (by omega) w2.heap.size m x _ _ (w2.alloc (.cells #[.int .i64 m, .int .i64 x] 30)) rfl rfl m1 m2 x1 x2 (by simp) hcd.1 hcd.2.1)
    (fun h k => ⟨Nat.le_trans h.1 k.1, k.2.trans h.2⟩)
    (fun W l o o' hl h _ _ => ⟨(grownBy_putObj' W l o').size, (grownBy_putObj' W l o').block w2.heap.size (by have := (Array.getElem?_eq_some_iff.1 h).1; simp at hl; omega) (by intro e; cases e; simp at hl; omega)⟩)
    (Below.refl _ _) (fun _ => rfl)
    (fun pre W => (THolds w1.heap.size w1.heap.size ([45] ++ Tm.txt8 pre) W ∧ W.heap[w2.heap.size]? = some (.cells #[.int .i64 m, .int .i64 x] 30)) ∧ Below w.heap.size w W)
    (fun _ _ _ => False)
    (OwnFrom.and (fun s W W' row hs hg hr => ⟨tHolds_own hs.1 hg (fun r e => (hr r e).2), (hg.block w2.heap.size (Array.getElem?_eq_some_iff.1 hs.2).1 (by intro e; have := (hr _ e.symm).1; simp at this; omega)).trans hs.2⟩) (ownFrom_below (Nat.le_refl _) (by simp; omega)))
    (fun _ _ _ _ _ hs _ _ => hs)
    ⟨⟨by simpa [Tm.txt8] using h2.alloc _, hod⟩, hB3.alloc (by omega) _⟩
    (fun y => { tmps := #[.agg #[.int .i64 m, .int .i64 x], .pointer (some ⟨w.heap.size, 0, none⟩), .string ⟨#[]⟩, .pointer (some ⟨w1.heap.size, 0, none⟩), .int .i64 y.1, .int .u8 y.2.toNat, .agg #[.int .i64 m, .int .i64 x], .bool true, .bool false, .pointer (some ⟨w.heap.size, 0, none⟩), .int .i64 m, .bool true, .nilIface, .agg #[.int .i64 m, .int .i64 x], .func (.func 76) #[] #[.pointer (some ⟨w2.heap.size, 0, none⟩)], .int .i64 y.1, .int .u8 y.2.toNat, undef, undef, undef, undef, undef, undef], defers := [] }) ?assign ?body ?done ?stop
  case assign =>
    intro l y W K hK
    gi_wp2
    exact hK
  case body =>
    rintro l pre ⟨py, c⟩ W ⟨⟨hH, hD⟩, hB⟩ hlen
    have hsz := hB.size
    have hlt2 := (Array.getElem?_eq_some_iff.1 hD).1
    have htl := Tm.txt8_len pre
    by_cases hy : py = -1
    · subst hy
      have HS : Hid (Tm.txt8 (pre ++ [((-1 : Int), c)]) = Tm.txt8 pre ++ [46, c]) := by unfold Hid; rw [Tm.txt8_snoc]; rfl
      gi_wp2_with fail
      refine ⟨trivial, (CallsIn.inRound l (callsIn_wide.2 (tByte w1.heap.size w1.heap.size _ 46 46 rfl _ hH (by simp; omega) (by omega)))).mono ?_⟩
      rintro e W1 ⟨rfl, g1, b1, k1⟩
      have hz3 := b1.size
      have hD1 := dec_stays hD (by omega) k1
      gi_wp2_with fail
      refine ⟨trivial, (CallsIn.inRound l (callsIn_wide.2 (tByte w1.heap.size w1.heap.size _ c _ rfl _ g1 (by simp; omega) (by omega)))).mono ?_⟩
      rintro e W2 ⟨rfl, g2, b2, k2⟩
      have hz4 := b2.size
      have hD2 := dec_stays hD1 (by omega) k2
      gi_wp2_with fail
      exact ⟨(keeps_of_others hH hz3 k1).trans (keeps_of_others g1 hz4 k2), ⟨by omega, hD2.trans hD.symm⟩, ⟨by rw [HS.out]; simpa using g2, hD2⟩, hB.trans ((b1.trans b2).mono (by omega))⟩
    · have hy' : (py == -1) = false := by simp [hy]
      have HS : Hid (Tm.txt8 (pre ++ [(py, c)]) = Tm.txt8 pre ++ [c]) := by unfold Hid; rw [Tm.txt8_snoc, Tm.one8, if_neg hy]; rfl
      gi_wp2_with fail
      refine ⟨trivial, (CallsIn.inRound l (callsIn_wide.2 (tByte w1.heap.size w1.heap.size _ c _ rfl _ hH (by simp; omega) (by omega)))).mono ?_⟩
      rintro e W2 ⟨rfl, g2, b2, k2⟩
      have hz4 := b2.size
      have hD2 := dec_stays hD (by omega) k2
      gi_wp2_with fail
      exact ⟨keeps_of_others hH hz4 k2, ⟨hz4, hD2.trans hD.symm⟩, ⟨by rw [HS.out]; simpa using g2, hD2⟩, hB.trans (b2.mono (by omega))⟩
  case done =>
    rintro D ys W hD rfl ⟨⟨hH, hd⟩, hB⟩ hK
    have hlt2 := (Array.getElem?_eq_some_iff.1 hd).1
    simp at hD
    gi_wp2_with fail
    refine ⟨trivial, (callsIn_wide.2 (bString w1.heap.size w1.heap.size _ _ hH (by omega))).mono ?_⟩
    rintro e w5 ⟨rfl, g5, b5, k5⟩
    have hK5 : w5.heap[D]? = some (.deferred (some [])) := k5 D _ hK (by intro e; cases e; omega) (by intro c fz e; cases e)
    have hB5 := hB.trans (b5.mono (by omega))
    gi_wp2_with fail
    refine ⟨by simp, .inl ⟨_, _, rfl, run_takeDeferred hK5, ?_⟩⟩
    exact ⟨_, results_tmp rfl _ _ _, by rw [HT.out]; rfl, hB5.trans (belowK_b (w := w) (Nat.le_refl _) w5 D _ _ (by omega) hK5 rfl rfl)⟩
  case stop =>
    rintro D c pre W _ _ h _
    exact h.elim

set_option maxRecDepth 100000 in
set_option maxHeartbeats 4000000 in
theorem iDecText_pos (m x : Int) (w : World) (ho : Dm.ok m x = true) (hneg : ¬ m < 0) :
    Calls Try.prog 48 #[.agg #[.int .i64 m, .int .i64 x]] w fun e w' => e = .returned (.string ⟨(Tm.text m x).toArray⟩) ∧ Below w.heap.size w w' := by
  obtain ⟨m1, m2, x1, x2⟩ := Dm.ok_bd ho
  have HT : Hid (Tm.text m x = [] ++ Tm.txt8 (Tm.fl8 m.natAbs x (Tm.hi m.natAbs x) (Tm.hi m.natAbs x - Tm.lo x + 1).toNat)) := by unfold Hid; rw [Tm.text, if_neg hneg, Tm.txt8_eq, Tm.txt_body]
  refine (callsIn_wide (n := 5)).1 ?_
  refine callsIn_of_wp_marks Try.func48 rfl trivial ?_ rfl
  simp only [Try.ntmps48, List.size_toArray, List.length_cons, List.length_nil, Nat.reduceAdd, Nat.reduceSub, Array.replicate_succ, Array.replicate_zero, List.push_toArray, List.append_toArray, List.nil_append, List.cons_append]
  gi_wp2_with (refine ⟨trivial, ?_⟩; gi_at_call 67; refine (callsIn_wide.2 (iDecOk_any m x _)).mono ?_; rintro e w1 ⟨rfl, hb1⟩; have hcc := (Two.new w m x 30).below hb1 (by simp); obtain ⟨c0, c1, f0, f1⟩ := hcc; have hB1 : Below w.heap.size w w1 := (((Below.refl _ w).alloc (Nat.le_refl _) _).trans (hb1.mono (by simp))))
  have hz1 : w.heap.size < w1.heap.size := by have := hb1.size; simp at this; omega
  clear hb1
  have hI0 : THolds w1.heap.size w1.heap.size [] (w1.alloc (.cells #[.pointer none, .slice none 0 0] 48)) := Lib.IsBuilderF.of (Lib.fresh_isBuilder 48 5 w1)
  have hcc2 := Two.alloc ⟨c0, c1, f0, f1⟩ hz1 (.cells #[.pointer none, .slice none 0 0] 48)
  have hB2 : Below w.heap.size w (w1.alloc (.cells #[.pointer none, .slice none 0 0] 48)) := hB1.alloc (by omega) _
  obtain ⟨w2, hw2⟩ : ∃ w2, w2 = w1.alloc (.cells #[.pointer none, .slice none 0 0] 48) := ⟨_, rfl⟩
  rw [← hw2] at hI0 hcc2 hB2 ⊢
  have hz2 : w1.heap.size < w2.heap.size := by rw [hw2]; simp
  have h2 := hI0
  have hB3 := hB2
  clear hw2 c0 c1 f0 f1 hB1 hI0 hB2
  obtain ⟨c0, c1, f0, f1⟩ := hcc2
  refine ⟨trivial, (callsIn_wide.2 (figures_any m x _)).mono ?_⟩
  rintro e w3 ⟨rfl, hw⟩
  subst w3
  gi_wp2_with fail
  have hcd := Two.new w2 m x 30
  have hod : (w2.alloc (.cells #[.int .i64 m, .int .i64 x] 30)).heap[w2.heap.size]? = some (.cells #[.int .i64 m, .int .i64 x] 30) := World.alloc_heap_new w2 _
  refine wpIn_rangeFunc_ownF rfl (by omega) (gf := 76) (lb := #[.pointer (some ⟨w2.heap.size, 0, none⟩)]) rfl trivial (enters_of Try.func76 (by kernel_rfl) rfl)
    (figures_stops 4 (by omega) w2.heap.size m x _ _ (w2.alloc (.cells #[.int .i64 m, .int .i64 x] 30)) rfl rfl m1 m2 x1 x2 (by simp) hcd.1 hcd.2.1)
    (fun h k => ⟨Nat.le_trans h.1 k.1, k.2.trans h.2⟩)
    (fun W l o o' hl h _ _ => ⟨(grownBy_putObj' W l o').size, (grownBy_putObj' W l o').block w2.heap.size (by have := (Array.getElem?_eq_some_iff.1 h).1; simp at hl; omega) (by intro e; cases e; simp at hl; omega)⟩)
    (Below.refl _ _) (fun _ => rfl)
    (fun pre W => (THolds w1.heap.size w1.heap.size ([] ++ Tm.txt8 pre) W ∧ W.heap[w2.heap.size]? = some (.cells #[.int .i64 m, .int .i64 x] 30)) ∧ Below w.heap.size w W)
    (fun _ _ _ => False)
    (OwnFrom.and (fun s W W' row hs hg hr => ⟨tHolds_own hs.1 hg (fun r e => (hr r e).2), (hg.block w2.heap.size (Array.getElem?_eq_some_iff.1 hs.2).1 (by intro e; have := (hr _ e.symm).1; simp at this; omega)).trans hs.2⟩) (ownFrom_below (Nat.le_refl _) (by simp; omega)))
    (fun _ _ _ _ _ hs _ _ => hs)
    ⟨⟨by simpa [Tm.txt8] using h2.alloc _, hod⟩, hB3.alloc (by omega) _⟩
    (fun y => { tmps := #[.agg #[.int .i64 m, .int .i64 x], .pointer (some ⟨w.heap.size, 0, none⟩), .string ⟨#[]⟩, .pointer (some ⟨w1.heap.size, 0, none⟩), .int .i64 y.1, .int .u8 y.2.toNat, .agg #[.int .i64 m, .int .i64 x], .bool true, .bool false, .pointer (some ⟨w.heap.size, 0, none⟩), .int .i64 m, .bool (decide (m < 0)), undef, .agg #[.int .i64 m, .int .i64 x], .func (.func 76) #[] #[.pointer (some ⟨w2.heap.size, 0, none⟩)], .int .i64 y.1, .int .u8 y.2.toNat, undef, undef, undef, undef, undef, undef], defers := [] }) ?assign ?body ?done ?stop
  case assign =>
    intro l y W K hK
    gi_wp2
    exact hK
  case body =>
    rintro l pre ⟨py, c⟩ W ⟨⟨hH, hD⟩, hB⟩ hlen
    have hsz := hB.size
    have hlt2 := (Array.getElem?_eq_some_iff.1 hD).1
    have htl := Tm.txt8_len pre
    by_cases hy : py = -1
    · subst hy
      have HS : Hid (Tm.txt8 (pre ++ [((-1 : Int), c)]) = Tm.txt8 pre ++ [46, c]) := by unfold Hid; rw [Tm.txt8_snoc]; rfl
      gi_wp2_with fail
      refine ⟨trivial, (CallsIn.inRound l (callsIn_wide.2 (tByte w1.heap.size w1.heap.size _ 46 46 rfl _ hH (by simp; omega) (by omega)))).mono ?_⟩
      rintro e W1 ⟨rfl, g1, b1, k1⟩
      have hz3 := b1.size
      have hD1 := dec_stays hD (by omega) k1
      gi_wp2_with fail
      refine ⟨trivial, (CallsIn.inRound l (callsIn_wide.2 (tByte w1.heap.size w1.heap.size _ c _ rfl _ g1 (by simp; omega) (by omega)))).mono ?_⟩
      rintro e W2 ⟨rfl, g2, b2, k2⟩
      have hz4 := b2.size
      have hD2 := dec_stays hD1 (by omega) k2
      gi_wp2_with fail
      exact ⟨(keeps_of_others hH hz3 k1).trans (keeps_of_others g1 hz4 k2), ⟨by omega, hD2.trans hD.symm⟩, ⟨by rw [HS.out]; simpa using g2, hD2⟩, hB.trans ((b1.trans b2).mono (by omega))⟩
    · have hy' : (py == -1) = false := by simp [hy]
      have HS : Hid (Tm.txt8 (pre ++ [(py, c)]) = Tm.txt8 pre ++ [c]) := by unfold Hid; rw [Tm.txt8_snoc, Tm.one8, if_neg hy]; rfl
      gi_wp2_with fail
      refine ⟨trivial, (CallsIn.inRound l (callsIn_wide.2 (tByte w1.heap.size w1.heap.size _ c _ rfl _ hH (by simp; omega) (by omega)))).mono ?_⟩
      rintro e W2 ⟨rfl, g2, b2, k2⟩
      have hz4 := b2.size
      have hD2 := dec_stays hD (by omega) k2
      gi_wp2_with fail
      exact ⟨keeps_of_others hH hz4 k2, ⟨hz4, hD2.trans hD.symm⟩, ⟨by rw [HS.out]; simpa using g2, hD2⟩, hB.trans (b2.mono (by omega))⟩
  case done =>
    rintro D ys W hD rfl ⟨⟨hH, hd⟩, hB⟩ hK
    have hlt2 := (Array.getElem?_eq_some_iff.1 hd).1
    simp at hD
    gi_wp2_with fail
    refine ⟨trivial, (callsIn_wide.2 (bString w1.heap.size w1.heap.size _ _ hH (by omega))).mono ?_⟩
    rintro e w5 ⟨rfl, g5, b5, k5⟩
    have hK5 : w5.heap[D]? = some (.deferred (some [])) := k5 D _ hK (by intro e; cases e; omega) (by intro c fz e; cases e)
    have hB5 := hB.trans (b5.mono (by omega))
    gi_wp2_with fail
    refine ⟨by simp, .inl ⟨_, _, rfl, run_takeDeferred hK5, ?_⟩⟩
    exact ⟨_, results_tmp rfl _ _ _, by rw [HT.out]; rfl, hB5.trans (belowK_b (w := w) (Nat.le_refl _) w5 D _ _ (by omega) hK5 rfl rfl)⟩
  case stop =>
    rintro D c pre W _ _ h _
    exact h.elim

set_option maxHeartbeats 1000000 in
theorem iDecText_any (m x : Int) (w : World) :
    Calls Try.prog 48 #[.agg #[.int .i64 m, .int .i64 x]] w fun e w' => e = .returned (.string ⟨(textOf m x).toArray⟩) ∧ Below w.heap.size w w' := by
  cases ho : Dm.ok m x
  · have HT : Hid (textOf m x = []) := by unfold Hid textOf; rw [ho]; rfl
    rw [HT.out]
    clear HT
    refine (callsIn_wide (n := 5)).1 ?_
    refine callsIn_of_wp_marks Try.func48 rfl trivial ?_ rfl
    simp only [Try.ntmps48, List.size_toArray, List.length_cons, List.length_nil, Nat.reduceAdd, Nat.reduceSub, Array.replicate_succ, Array.replicate_zero, List.push_toArray, List.append_toArray, List.nil_append, List.cons_append]
    gi_wp2_with (refine ⟨trivial, ?_⟩; gi_at_call 67; refine (callsIn_wide.2 (iDecOk_any m x _)).mono ?_; rintro e w1 ⟨rfl, hb1⟩; have hB1 : Below w.heap.size w w1 := (((Below.refl _ w).alloc (Nat.le_refl _) _).trans (hb1.mono (by simp))))
    exact ⟨_, results_tmp rfl _ _ _, rfl, hB1⟩
  · have e : textOf m x = Tm.text m x := by unfold textOf; rw [ho]; rfl
    rw [e]
    by_cases h : m < 0
    · exact iDecText_neg m x w ho h
    · exact iDecText_pos m x w ho h
end Go.Proofs.Ytpgpkdeiapeoiaa
/- Values as JSON, by the program: boxes beside a builder; where a text is written. -/
namespace Go.Proofs.Ytpgpkdeiapeoiaa
open Go.RowKit
/-- block b has just these cells -/
def Box (W : World) (b : Nat) (T : TypeId) (cs : List Value) : Prop := W.heap[b]? = some (.cells cs.toArray T (0, 0))
theorem Box.new (w : World) (T : TypeId) (cs : List Value) : Box (w.alloc (.cells cs.toArray T)) w.heap.size T cs := by
  show (w.heap.push _)[w.heap.size]? = _
  rw [Array.getElem?_push, if_pos rfl]
theorem Box.lt {W : World} {b : Nat} {T : TypeId} {cs : List Value} (h : Box W b T cs) : b < W.heap.size := (Array.getElem?_eq_some_iff.1 h).1
theorem Box.below {B : Nat} {W W' : World} {b : Nat} {T : TypeId} {cs : List Value} (h : Box W b T cs) (hb : Below B W W') (hB : b < B) : Box W' b T cs := (hb.block _ hB).trans h
theorem Box.kept {W W' : World} {b k : Nat} {T : TypeId} {cs : List Value} (h : Box W b T cs) (hk : Lib.OthersKept 5 (some k) W W') (hne : b ≠ k) (hT : T ≠ 5) : Box W' b T cs :=
  hk b _ h (fun e => hne (Option.some.inj e)) (fun c fz e => by cases e; exact hT rfl)
theorem Box.cell {W : World} {b : Nat} {T : TypeId} {cs : List Value} (h : Box W b T cs) {i : Nat} {v : Value} (hi : cs[i]? = some v) : W.cell? ⟨b, i, none⟩ = some v := by
  unfold Box at h
  simp [World.cell?, h, hi]
theorem kept_of_below {e : TypeId} {b : Option Nat} {w w' : World} (hb : Below w.heap.size w w') : Lib.OthersKept e b w w' := fun k _ h _ _ =>
  (hb.block k (Array.getElem?_eq_some_iff.1 h).1).trans h
theorem rowF_belowJ {W W' : World} {base : Nat} {e : TypeId} {size : Nat} {v : Value} {n : Nat} {xs : List Value} (h : W.ownsRowF base e size v n xs) (hb : Below W.heap.size W W') : W'.ownsRowF base e size v n xs := by
  obtain ⟨h1, h2⟩ := h
  rcases h2 with h2 | ⟨g, cap, cur, fz, e1, e2, e3, e4⟩
  · exact ⟨h1, .inl h2⟩
  · exact ⟨h1, .inr ⟨g, cap, cur, fz, e1, e2, (hb.block g (Array.getElem?_eq_some_iff.1 e3).1).trans e3, e4⟩⟩
theorem holds_belowJ {B k : Nat} {acc : List UInt8} {W W' : World} (h : Holds B k acc W) (hb : Below W.heap.size W W') : Holds B k acc W' := by
  have hlt := holds_lt h
  rcases h with ⟨hB, v, hv, hown, hne⟩ | ⟨hB, v, hv, hown, hne⟩
  · exact .inl ⟨hB, v, (hb.block k hlt).trans hv, rowF_belowJ hown hb, hne⟩
  · exact .inr ⟨hB, v, (hb.block k hlt).trans hv, rowF_belowJ hown hb, hne⟩
/-- what was written since w0: the builder's box is kb, its memory lies from B on -/
def Wr (B kb : Nat) (w0 : World) (acc : List UInt8) (W : World) : Prop := (Holds B kb acc W ∧ B ≤ W.heap.size) ∧ Below B w0 W ∧ Lib.OthersKept 5 (some kb) w0 W
theorem Wr.start {B kb : Nat} {acc : List UInt8} {w : World} (h : Holds B kb acc w) (hB : B ≤ w.heap.size) : Wr B kb w acc w := ⟨⟨h, hB⟩, Below.refl _ _, Lib.OthersKept.refl _ _ _⟩
theorem Wr.below {B kb : Nat} {acc : List UInt8} {w0 W W' : World} (h : Wr B kb w0 acc W) (hb : Below W.heap.size W W') : Wr B kb w0 acc W' :=
  ⟨⟨holds_belowJ h.1.1 hb, Nat.le_trans h.1.2 hb.size⟩, h.2.1.trans (hb.mono h.1.2), kept_trans h.2.2 (kept_of_below hb)⟩
theorem Wr.alloc {B kb : Nat} {acc : List UInt8} {w0 W : World} (h : Wr B kb w0 acc W) (o : Obj) : Wr B kb w0 acc (W.alloc o) := h.below ((Below.refl _ W).alloc (Nat.le_refl _) o)
theorem Wr.wrote {B kb : Nat} {acc acc' : List UInt8} {w0 W W' : World} (h : Wr B kb w0 acc W) (h1 : Holds B kb acc' W') (h2 : Below B W W') (h3 : Lib.OthersKept 5 (some kb) W W') : Wr B kb w0 acc' W' :=
  ⟨⟨h1, Nat.le_trans h.1.2 h2.size⟩, h.2.1.trans h2, kept_trans h.2.2 h3⟩
/-- a writer -/
abbrev wrV (kb : Nat) (step gap : ByteArray) : Value := .agg #[.pointer (some ⟨kb, 0, none⟩), .string ⟨#[92, 117, 48, 48]⟩, .string ⟨#[34, 92, 47, 98, 102, 110, 114, 116]⟩, .string ⟨#[34, 92, 47, 8, 12, 10, 13, 9]⟩, .int .i64 2, .string step, .string gap]
def wrCells (kb : Nat) (step gap : ByteArray) : List Value := [.pointer (some ⟨kb, 0, none⟩), .string ⟨#[92, 117, 48, 48]⟩, .string ⟨#[34, 92, 47, 98, 102, 110, 114, 116]⟩, .string ⟨#[34, 92, 47, 8, 12, 10, 13, 9]⟩, .int .i64 2, .string step, .string gap]
def vCells (h : Hd) (a : Option Addr) (n c : Nat) : List Value := [.int .i64 h.k, .int .i64 h.m, .int .i64 h.e, .string h.t, .slice a n c, .slice h.na h.ns.length h.nc]
theorem write_method (v : Value) (W : World) : (method 233 45 v "WriteString").run Try.prog W = .ok (81, v) W := by kernel_rfl
/-- a text is written -/
theorem Wr.text {B kb : Nat} {acc l : List UInt8} {w0 W : World} (h : Wr B kb w0 acc W) (s : ByteArray) (hs : s.data.toList = l) (hlen : acc.length + l.length ≤ 100000000) :
    Calls Try.prog 81 #[.pointer (some ⟨kb, 0, none⟩), .string s] W fun e w' => e = .returned (.tuple #[.int .i64 s.size, .nilIface]) ∧ Wr B kb w0 (acc ++ l) w' ∧ Lib.OthersKept 5 (some kb) W w' ∧ Below B W w' := by
  have hl : l.length = s.size := by rw [← hs, Qm.len_eq]
  refine (wText B kb acc l s hs W h.1.1 (by omega) h.1.2).mono ?_
  rintro e w' ⟨rfl, h1, h2, h3⟩
  exact ⟨rfl, h.wrote h1 h2 h3, h3, h2⟩
end Go.Proofs.Ytpgpkdeiapeoiaa
/- Values as JSON, by the program: the regions of a writer that draw. -/
namespace Go.Proofs.Ytpgpkdeiapeoiaa
open Go.RowKit
set_option maxRecDepth 100000 in
set_option maxHeartbeats 1000000 in
theorem jv12 {Q : Exit → Act → World → Prop} {t0 t1 t2 t4 t5 t6 t7 t9 t10 t11 t12 t13 t14 t15 t16 t17 t18 t19 t20 t21 t22 t23 t24 t25 t26 t27 t28 t29 t30 t31 t32 t33 t34 t35 t36 t37 t38 t39 t40 t41 t42 t43 t44 t45 t46 t47 t48 t49 t50 t51 t52 t53 t54 t55 t56 t57 t58 t59 t60 t61 t62 t63 t64 t65 t66 t67 t68 t69 t70 t71 t72 t73 t74 t75 t76 t77 t78 t79 t80 t81 t82 t83 t84 t85 : Value} {W w0 : World} {B kb b3 : Nat} {acc : List UInt8} {step gap : ByteArray} {b8 : Nat} {m e : Int}
    (h0 : Box W b3 52 (wrCells kb step gap)) (hW : Wr B kb w0 acc W) (hne : b3 ≠ kb) (h8 : Box W b8 79 [.int .i64 m, .int .i64 e]) (hne8 : b8 ≠ kb) (hlen : acc.length + (textOf m e).length ≤ 100000000)
    (hp : ∀ p d v a w, Q (.panic p) (Act.put a d v) w → Q (.panic p) a w) (h_ : ∀ ws v36 v37 v38 v39 v40 v41, Wr B kb w0 (acc ++ textOf m e) ws → Lib.OthersKept 5 (some kb) W ws → Q .normal { tmps := (t0 :: t1 :: t2 :: (.pointer (some ⟨b3, 0, none⟩)) :: t4 :: t5 :: t6 :: t7 :: (.pointer (some ⟨b8, 0, none⟩)) :: t9 :: t10 :: t11 :: t12 :: t13 :: t14 :: t15 :: t16 :: t17 :: t18 :: t19 :: t20 :: t21 :: t22 :: t23 :: t24 :: t25 :: t26 :: t27 :: t28 :: t29 :: t30 :: t31 :: t32 :: t33 :: t34 :: t35 :: v36 :: v37 :: v38 :: v39 :: v40 :: v41 :: t42 :: t43 :: t44 :: t45 :: t46 :: t47 :: t48 :: t49 :: t50 :: t51 :: t52 :: t53 :: t54 :: t55 :: t56 :: t57 :: t58 :: t59 :: t60 :: t61 :: t62 :: t63 :: t64 :: t65 :: t66 :: t67 :: t68 :: t69 :: t70 :: t71 :: t72 :: t73 :: t74 :: t75 :: t76 :: t77 :: t78 :: t79 :: t80 :: t81 :: t82 :: t83 :: t84 :: t85 :: []).toArray, defers := [] } ws) :
    Code.wp Try.prog (Code.region 12 #[{ dst := some 36, op := Op.fieldAddr 52 (Operand.tmp 3) 0, type := 0, pos := "l7_value.go:266", after := #[], guard := none }, { dst := some 37, op := Op.load 45 (Operand.tmp 36), type := 45, pos := "l7_value.go:266", after := #[{ on := 0, ground := Ground.data }], guard := none }, { dst := some 38, op := Op.makeInterface 45 (Operand.tmp 37), type := 20, pos := "l7_value.go:266", after := #[{ on := 1, ground := Ground.data }], guard := none }, { dst := some 39, op := Op.load 79 (Operand.tmp 8), type := 79, pos := "l7_value.go:266", after := #[], guard := none }, { dst := some 40, op := Op.call { callee := Callee.value (Operand.func 48), args := #[Operand.tmp 39], argTypes := #[30] }, type := 9, pos := "l7_value.go:266", after := #[{ on := 3, ground := Ground.data }], guard := none }, { dst := some 41, op := Op.call { callee := Callee.invoke (Operand.tmp 38) "WriteString", args := #[Operand.tmp 40], argTypes := #[9] }, type := 76, pos := "l7_value.go:266", after := #[{ on := 2, ground := Ground.data }, { on := 4, ground := Ground.data }, { on := 4, ground := Ground.chain }], guard := none }] true) Q { tmps := (t0 :: t1 :: t2 :: (.pointer (some ⟨b3, 0, none⟩)) :: t4 :: t5 :: t6 :: t7 :: (.pointer (some ⟨b8, 0, none⟩)) :: t9 :: t10 :: t11 :: t12 :: t13 :: t14 :: t15 :: t16 :: t17 :: t18 :: t19 :: t20 :: t21 :: t22 :: t23 :: t24 :: t25 :: t26 :: t27 :: t28 :: t29 :: t30 :: t31 :: t32 :: t33 :: t34 :: t35 :: t36 :: t37 :: t38 :: t39 :: t40 :: t41 :: t42 :: t43 :: t44 :: t45 :: t46 :: t47 :: t48 :: t49 :: t50 :: t51 :: t52 :: t53 :: t54 :: t55 :: t56 :: t57 :: t58 :: t59 :: t60 :: t61 :: t62 :: t63 :: t64 :: t65 :: t66 :: t67 :: t68 :: t69 :: t70 :: t71 :: t72 :: t73 :: t74 :: t75 :: t76 :: t77 :: t78 :: t79 :: t80 :: t81 :: t82 :: t83 :: t84 :: t85 :: []).toArray, defers := [] } W := by
  have hmeth := write_method
  have HB0x : Hid (∀ w', Below W.heap.size W w' → Box w' b3 52 (wrCells kb step gap)) := fun w' h => h0.below h h0.lt
  have HSof : Hid (∀ w', Below W.heap.size W w' → (w'.cell? ⟨b3, 0, none⟩ = some (.pointer (some ⟨kb, 0, none⟩)) ∧ w'.cell? ⟨b8, 0, none⟩ = some (.int .i64 m) ∧ w'.cell? ⟨b8, 1, none⟩ = some (.int .i64 e))) := fun w' h => ⟨(h0.below h h0.lt).cell (i := 0) rfl, (h8.below h h8.lt).cell (i := 0) rfl, (h8.below h h8.lt).cell (i := 1) rfl⟩
  have HW : Hid (∀ w', Below W.heap.size W w' → Wr B kb w0 acc w') := fun w' h => hW.below h
  have hB0 := (Below.refl W.heap.size W).drew
  have hS0 := HSof.out _ hB0
  have HL := hideIt hlen
  have HN := hideIt hne
  have H8 : Hid (∀ w', Below W.heap.size W w' → Box w' b8 79 [.int .i64 m, .int .i64 e]) := fun w' h => h8.below h h8.lt
  have HN8 := hideIt hne8
  clear h0 hW hlen hne h8 hne8
  refine wp_region_held_drew (S := fun w' => w'.cell? ⟨b3, 0, none⟩ = some (.pointer (some ⟨kb, 0, none⟩)) ∧ w'.cell? ⟨b8, 0, none⟩ = some (.int .i64 m) ∧ w'.cell? ⟨b8, 1, none⟩ = some (.int .i64 e)) (by kernel_rfl) hS0 (fun hHeld => ?_)
  refine wpAnyH_take (i := 0) (v := .pointer (some ⟨b3, 0, none⟩)) rfl (by kernel_rfl) (by kernel_rfl) (by kernel_rfl) (fun _ _ _ h => hp _ _ _ _ _ h) (Or.inl ⟨by rfl, ?_⟩) (by assumption) ?_
  · intro w hSw
    (try dsimp only at hSw)
    go_simp
  (try simp only [Act.put, List.getElem_toArray, List.getElem_cons_zero, List.setIfInBounds_toArray, List.set_cons_zero, List.set_cons_succ])
  refine wpAnyH_take (i := 1) (v := .pointer (some ⟨kb, 0, none⟩)) rfl (by kernel_rfl) (by kernel_rfl) (by kernel_rfl) (fun _ _ _ h => hp _ _ _ _ _ h) (Or.inl ⟨by rfl, ?_⟩) (by assumption) ?_
  · intro w hSw
    (try dsimp only at hSw)
    go_simp
  (try simp only [Act.put, List.getElem_toArray, List.getElem_cons_zero, List.getElem_cons_succ, List.setIfInBounds_toArray, List.set_cons_zero, List.set_cons_succ])
  refine wpAnyH_take (i := 2) (v := .iface 45 (.pointer (some ⟨kb, 0, none⟩))) rfl (by kernel_rfl) (by kernel_rfl) (by kernel_rfl) (fun _ _ _ h => hp _ _ _ _ _ h) (Or.inl ⟨by rfl, ?_⟩) (by assumption) ?_
  · intro w hSw
    (try dsimp only at hSw)
    go_simp
  (try simp only [Act.put, List.getElem_toArray, List.getElem_cons_zero, List.getElem_cons_succ, List.setIfInBounds_toArray, List.set_cons_zero, List.set_cons_succ])
  refine wpAnyH_take (i := 3) (v := .agg #[.int .i64 m, .int .i64 e]) rfl (by kernel_rfl) (by kernel_rfl) (by kernel_rfl) (fun _ _ _ h => hp _ _ _ _ _ h) (Or.inl ⟨by rfl, ?_⟩) (by assumption) ?_
  · intro w hSw
    (try dsimp only at hSw)
    go_simp
  (try simp only [Act.put, List.getElem_toArray, List.getElem_cons_zero, List.getElem_cons_succ, List.setIfInBounds_toArray, List.set_cons_zero, List.set_cons_succ])
  refine wpAnyH_ready (rs := [4]) (by kernel_rfl) (by simp) ?_
  refine AllReadyH.cons rfl (fun K hK => ?_) AllReadyH.nil
  go_simp
  refine (iDecText_any m e _).mono ?_
  rintro r w1 ⟨rfl, hb1⟩
  have hB1 := hB0.trans (hb1.mono hB0.size)
  go_wp2_with fail
  refine hK.out _ _ (HSof.out _ hB1) (fun hHeld => ?_)
  clear hK K hb1 hB0
  refine wpAnyH_ready (rs := [5]) (by kernel_rfl) (by simp) ?_
  refine AllReadyH.cons rfl (fun K hK => ?_) AllReadyH.nil
  go_simp
  refine (Wr.text (HW.out _ hB1) _ (l := textOf m e) (rfl) (by have := HL.out; omega)).mono ?_
  rintro r w2 ⟨rfl, hw2, hk2, hbB⟩
  have HW2 := hideIt hw2
  have HK2 := hideIt (kept_trans (kept_of_below hB1) hk2)
  have hS2 := hideIt ((⟨((HB0x.out _ hB1).kept hk2 HN.out (by decide)).cell (i := 0) rfl, ((H8.out _ hB1).kept hk2 HN8.out (by decide)).cell (i := 0) rfl, ((H8.out _ hB1).kept hk2 HN8.out (by decide)).cell (i := 1) rfl⟩ : (fun w' => w'.cell? ⟨b3, 0, none⟩ = some (.pointer (some ⟨kb, 0, none⟩)) ∧ w'.cell? ⟨b8, 0, none⟩ = some (.int .i64 m) ∧ w'.cell? ⟨b8, 1, none⟩ = some (.int .i64 e)) w2))
  clear hw2 hk2 hbB
  go_wp2_with fail
  refine hK.out _ _ hS2.out (fun hHeld => ?_)
  clear hK K
  refine wpAnyH_done (by kernel_rfl) ?_ _
  exact h_ _ _ _ _ _ _ _ HW2.out HK2.out
set_option maxRecDepth 100000 in
set_option maxHeartbeats 1000000 in
theorem jv15 {Q : Exit → Act → World → Prop} {t0 t1 t2 t4 t5 t6 t7 t8 t10 t11 t12 t13 t14 t15 t16 t17 t18 t19 t20 t21 t22 t23 t24 t25 t26 t27 t28 t29 t30 t31 t32 t33 t34 t35 t36 t37 t38 t39 t40 t41 t42 t43 t44 t45 t46 t47 t48 t49 t50 t51 t52 t53 t54 t55 t56 t57 t58 t59 t60 t61 t62 t63 t64 t65 t66 t67 t68 t69 t70 t71 t72 t73 t74 t75 t76 t77 t78 t79 t80 t81 t82 t83 t84 t85 : Value} {W w0 : World} {B kb b3 : Nat} {acc : List UInt8} {step gap : ByteArray} {t : ByteArray}
    (h0 : Box W b3 52 (wrCells kb step gap)) (hW : Wr B kb w0 acc W) (hne : b3 ≠ kb) (ht : t.size ≤ 10000000) (hlen : acc.length + (Qm.jquote t.data.toList).length ≤ 100000000)
    (hp : ∀ p d v a w, Q (.panic p) (Act.put a d v) w → Q (.panic p) a w) (h_ : ∀ ws v45 v46 v47 v48 v49 v50 v51 v52, Wr B kb w0 (acc ++ Qm.jquote t.data.toList) ws → Lib.OthersKept 5 (some kb) W ws → Q .normal { tmps := (t0 :: t1 :: t2 :: (.pointer (some ⟨b3, 0, none⟩)) :: t4 :: t5 :: t6 :: t7 :: t8 :: (.string t) :: t10 :: t11 :: t12 :: t13 :: t14 :: t15 :: t16 :: t17 :: t18 :: t19 :: t20 :: t21 :: t22 :: t23 :: t24 :: t25 :: t26 :: t27 :: t28 :: t29 :: t30 :: t31 :: t32 :: t33 :: t34 :: t35 :: t36 :: t37 :: t38 :: t39 :: t40 :: t41 :: t42 :: t43 :: t44 :: v45 :: v46 :: v47 :: v48 :: v49 :: v50 :: v51 :: v52 :: t53 :: t54 :: t55 :: t56 :: t57 :: t58 :: t59 :: t60 :: t61 :: t62 :: t63 :: t64 :: t65 :: t66 :: t67 :: t68 :: t69 :: t70 :: t71 :: t72 :: t73 :: t74 :: t75 :: t76 :: t77 :: t78 :: t79 :: t80 :: t81 :: t82 :: t83 :: t84 :: t85 :: []).toArray, defers := [] } ws) :
    Code.wp Try.prog (Code.region 15 #[{ dst := some 45, op := Op.fieldAddr 52 (Operand.tmp 3) 0, type := 0, pos := "l7_value.go:268", after := #[], guard := none }, { dst := some 46, op := Op.load 45 (Operand.tmp 45), type := 45, pos := "l7_value.go:268", after := #[{ on := 0, ground := Ground.data }], guard := none }, { dst := some 47, op := Op.makeInterface 45 (Operand.tmp 46), type := 20, pos := "l7_value.go:268", after := #[{ on := 1, ground := Ground.data }], guard := none }, { dst := some 48, op := Op.fieldAddr 52 (Operand.tmp 3) 1, type := 0, pos := "l7_value.go:268", after := #[], guard := none }, { dst := some 49, op := Op.load 50 (Operand.tmp 48), type := 50, pos := "l7_value.go:268", after := #[{ on := 3, ground := Ground.data }], guard := none }, { dst := some 50, op := Op.move (Operand.tmp 9), type := 80, pos := "l7_value.go:268", after := #[], guard := none }, { dst := some 51, op := Op.call { callee := Callee.value (Operand.func 49), args := #[Operand.tmp 49, Operand.tmp 50], argTypes := #[50, 9] }, type := 9, pos := "l7_value.go:268", after := #[{ on := 4, ground := Ground.data }, { on := 5, ground := Ground.data }], guard := none }, { dst := some 52, op := Op.call { callee := Callee.invoke (Operand.tmp 47) "WriteString", args := #[Operand.tmp 51], argTypes := #[9] }, type := 76, pos := "l7_value.go:268", after := #[{ on := 2, ground := Ground.data }, { on := 6, ground := Ground.data }, { on := 6, ground := Ground.chain }], guard := none }] true) Q { tmps := (t0 :: t1 :: t2 :: (.pointer (some ⟨b3, 0, none⟩)) :: t4 :: t5 :: t6 :: t7 :: t8 :: (.string t) :: t10 :: t11 :: t12 :: t13 :: t14 :: t15 :: t16 :: t17 :: t18 :: t19 :: t20 :: t21 :: t22 :: t23 :: t24 :: t25 :: t26 :: t27 :: t28 :: t29 :: t30 :: t31 :: t32 :: t33 :: t34 :: t35 :: t36 :: t37 :: t38 :: t39 :: t40 :: t41 :: t42 :: t43 :: t44 :: t45 :: t46 :: t47 :: t48 :: t49 :: t50 :: t51 :: t52 :: t53 :: t54 :: t55 :: t56 :: t57 :: t58 :: t59 :: t60 :: t61 :: t62 :: t63 :: t64 :: t65 :: t66 :: t67 :: t68 :: t69 :: t70 :: t71 :: t72 :: t73 :: t74 :: t75 :: t76 :: t77 :: t78 :: t79 :: t80 :: t81 :: t82 :: t83 :: t84 :: t85 :: []).toArray, defers := [] } W := by
  have hmeth := write_method
  have HB0x : Hid (∀ w', Below W.heap.size W w' → Box w' b3 52 (wrCells kb step gap)) := fun w' h => h0.below h h0.lt
  have HSof : Hid (∀ w', Below W.heap.size W w' → (w'.cell? ⟨b3, 0, none⟩ = some (.pointer (some ⟨kb, 0, none⟩)) ∧ w'.cell? ⟨b3, 1, none⟩ = some (.string ⟨#[92, 117, 48, 48]⟩) ∧ w'.cell? ⟨b3, 2, none⟩ = some (.string ⟨#[34, 92, 47, 98, 102, 110, 114, 116]⟩) ∧ w'.cell? ⟨b3, 3, none⟩ = some (.string ⟨#[34, 92, 47, 8, 12, 10, 13, 9]⟩) ∧ w'.cell? ⟨b3, 4, none⟩ = some (.int .i64 2))) := fun w' h => ⟨(h0.below h h0.lt).cell (i := 0) rfl, (h0.below h h0.lt).cell (i := 1) rfl, (h0.below h h0.lt).cell (i := 2) rfl, (h0.below h h0.lt).cell (i := 3) rfl, (h0.below h h0.lt).cell (i := 4) rfl⟩
  have HW : Hid (∀ w', Below W.heap.size W w' → Wr B kb w0 acc w') := fun w' h => hW.below h
  have hB0 := (Below.refl W.heap.size W).drew
  have hS0 := HSof.out _ hB0
  have HL := hideIt hlen
  have HN := hideIt hne
  clear h0 hW hlen hne
  refine wp_region_held_drew (S := fun w' => w'.cell? ⟨b3, 0, none⟩ = some (.pointer (some ⟨kb, 0, none⟩)) ∧ w'.cell? ⟨b3, 1, none⟩ = some (.string ⟨#[92, 117, 48, 48]⟩) ∧ w'.cell? ⟨b3, 2, none⟩ = some (.string ⟨#[34, 92, 47, 98, 102, 110, 114, 116]⟩) ∧ w'.cell? ⟨b3, 3, none⟩ = some (.string ⟨#[34, 92, 47, 8, 12, 10, 13, 9]⟩) ∧ w'.cell? ⟨b3, 4, none⟩ = some (.int .i64 2)) (by kernel_rfl) hS0 (fun hHeld => ?_)
  refine wpAnyH_take (i := 0) (v := .pointer (some ⟨b3, 0, none⟩)) rfl (by kernel_rfl) (by kernel_rfl) (by kernel_rfl) (fun _ _ _ h => hp _ _ _ _ _ h) (Or.inl ⟨by rfl, ?_⟩) (by assumption) ?_
  · intro w hSw
    (try dsimp only at hSw)
    go_simp
  (try simp only [Act.put, List.getElem_toArray, List.getElem_cons_zero, List.setIfInBounds_toArray, List.set_cons_zero, List.set_cons_succ])
  refine wpAnyH_take (i := 1) (v := .pointer (some ⟨kb, 0, none⟩)) rfl (by kernel_rfl) (by kernel_rfl) (by kernel_rfl) (fun _ _ _ h => hp _ _ _ _ _ h) (Or.inl ⟨by rfl, ?_⟩) (by assumption) ?_
  · intro w hSw
    (try dsimp only at hSw)
    go_simp
  (try simp only [Act.put, List.getElem_toArray, List.getElem_cons_zero, List.getElem_cons_succ, List.setIfInBounds_toArray, List.set_cons_zero, List.set_cons_succ])
  refine wpAnyH_take (i := 2) (v := .iface 45 (.pointer (some ⟨kb, 0, none⟩))) rfl (by kernel_rfl) (by kernel_rfl) (by kernel_rfl) (fun _ _ _ h => hp _ _ _ _ _ h) (Or.inl ⟨by rfl, ?_⟩) (by assumption) ?_
  · intro w hSw
    (try dsimp only at hSw)
    go_simp
  (try simp only [Act.put, List.getElem_toArray, List.getElem_cons_zero, List.getElem_cons_succ, List.setIfInBounds_toArray, List.set_cons_zero, List.set_cons_succ])
  refine wpAnyH_take (i := 3) (v := .pointer (some ⟨b3, 1, none⟩)) rfl (by kernel_rfl) (by kernel_rfl) (by kernel_rfl) (fun _ _ _ h => hp _ _ _ _ _ h) (Or.inl ⟨by rfl, ?_⟩) (by assumption) ?_
  · intro w hSw
    (try dsimp only at hSw)
    go_simp
  (try simp only [Act.put, List.getElem_toArray, List.getElem_cons_zero, List.getElem_cons_succ, List.setIfInBounds_toArray, List.set_cons_zero, List.set_cons_succ])
  refine wpAnyH_take (i := 4) (v := jpq) rfl (by kernel_rfl) (by kernel_rfl) (by kernel_rfl) (fun _ _ _ h => hp _ _ _ _ _ h) (Or.inl ⟨by rfl, ?_⟩) (by assumption) ?_
  · intro w hSw
    (try dsimp only at hSw)
    go_simp
  (try simp only [Act.put, List.getElem_toArray, List.getElem_cons_zero, List.getElem_cons_succ, List.setIfInBounds_toArray, List.set_cons_zero, List.set_cons_succ])
  refine wpAnyH_take (i := 5) (v := .string t) rfl (by kernel_rfl) (by kernel_rfl) (by kernel_rfl) (fun _ _ _ h => hp _ _ _ _ _ h) (Or.inl ⟨by rfl, ?_⟩) (by assumption) ?_
  · intro w hSw
    (try dsimp only at hSw)
    go_simp
  (try simp only [Act.put, List.getElem_toArray, List.getElem_cons_zero, List.getElem_cons_succ, List.setIfInBounds_toArray, List.set_cons_zero, List.set_cons_succ])
  refine wpAnyH_ready (rs := [6]) (by kernel_rfl) (by simp) ?_
  refine AllReadyH.cons rfl (fun K hK => ?_) AllReadyH.nil
  go_simp
  refine (jput_any t _ ht).mono ?_
  rintro r w1 ⟨rfl, hb1⟩
  have hB1 := hB0.trans (hb1.mono hB0.size)
  go_wp2_with fail
  refine hK.out _ _ (HSof.out _ hB1) (fun hHeld => ?_)
  clear hK K hb1 hB0
  refine wpAnyH_ready (rs := [7]) (by kernel_rfl) (by simp) ?_
  refine AllReadyH.cons rfl (fun K hK => ?_) AllReadyH.nil
  go_simp
  refine (Wr.text (HW.out _ hB1) _ (l := Qm.jquote t.data.toList) (rfl) (by have := HL.out; omega)).mono ?_
  rintro r w2 ⟨rfl, hw2, hk2, hbB⟩
  have HW2 := hideIt hw2
  have HK2 := hideIt (kept_trans (kept_of_below hB1) hk2)
  have hS2 := hideIt ((⟨((HB0x.out _ hB1).kept hk2 HN.out (by decide)).cell (i := 0) rfl, ((HB0x.out _ hB1).kept hk2 HN.out (by decide)).cell (i := 1) rfl, ((HB0x.out _ hB1).kept hk2 HN.out (by decide)).cell (i := 2) rfl, ((HB0x.out _ hB1).kept hk2 HN.out (by decide)).cell (i := 3) rfl, ((HB0x.out _ hB1).kept hk2 HN.out (by decide)).cell (i := 4) rfl⟩ : (fun w' => w'.cell? ⟨b3, 0, none⟩ = some (.pointer (some ⟨kb, 0, none⟩)) ∧ w'.cell? ⟨b3, 1, none⟩ = some (.string ⟨#[92, 117, 48, 48]⟩) ∧ w'.cell? ⟨b3, 2, none⟩ = some (.string ⟨#[34, 92, 47, 98, 102, 110, 114, 116]⟩) ∧ w'.cell? ⟨b3, 3, none⟩ = some (.string ⟨#[34, 92, 47, 8, 12, 10, 13, 9]⟩) ∧ w'.cell? ⟨b3, 4, none⟩ = some (.int .i64 2)) w2))
  clear hw2 hk2 hbB
  go_wp2_with fail
  refine hK.out _ _ hS2.out (fun hHeld => ?_)
  clear hK K
  refine wpAnyH_done (by kernel_rfl) ?_ _
  exact h_ _ _ _ _ _ _ _ _ _ HW2.out HK2.out
set_option maxRecDepth 100000 in
set_option maxHeartbeats 1000000 in
theorem ji9 {Q : Exit → Act → World → Prop} {t0 t1 t3 t5 t6 t7 t8 t10 t11 t12 t13 t14 t15 t16 t17 t18 t19 t20 t21 t22 t23 t24 t25 t26 t27 t28 t29 t30 t31 t32 t33 t34 t35 t36 t37 t38 t39 t40 t41 t42 t43 t44 t45 t46 t47 t48 t49 t50 t51 t52 t53 t54 t55 t56 t57 t58 t59 t60 t61 t62 : Value} {W w0 : World} {B kb b4 : Nat} {acc : List UInt8} {step gap : ByteArray} {nb no n nc j : Nat} {s : ByteArray}
    (h0 : Box W b4 52 (wrCells kb step gap)) (hW : Wr B kb w0 acc W) (hne : b4 ≠ kb) (hj : (j : Int) < (n : Int)) (hnb : nb < B) (hs : W.cell? ⟨nb, no + j, none⟩ = some (.string s)) (hsz : s.size ≤ 10000000) (hg : gap.size ≤ 2) (hlen : acc.length + (Qm.jquote s.data.toList ++ ([58] ++ gap.data.toList)).length ≤ 100000000)
    (hp : ∀ p d v a w, Q (.panic p) (Act.put a d v) w → Q (.panic p) a w) (h_ : ∀ ws v35 v36 v37 v38 v39 v40 v41 v42 v43 v44 v45 v46 v47 v48 v49, Wr B kb w0 (acc ++ (Qm.jquote s.data.toList ++ ([58] ++ gap.data.toList))) ws → Lib.OthersKept 5 (some kb) W ws → Q .normal { tmps := (t0 :: t1 :: (.slice (some ⟨nb, no, none⟩) n nc) :: t3 :: (.pointer (some ⟨b4, 0, none⟩)) :: t5 :: t6 :: t7 :: t8 :: (.int .i64 (j : Nat)) :: t10 :: t11 :: t12 :: t13 :: t14 :: t15 :: t16 :: t17 :: t18 :: t19 :: t20 :: t21 :: t22 :: t23 :: t24 :: t25 :: t26 :: t27 :: t28 :: t29 :: t30 :: t31 :: t32 :: t33 :: t34 :: v35 :: v36 :: v37 :: v38 :: v39 :: v40 :: v41 :: v42 :: v43 :: v44 :: v45 :: v46 :: v47 :: v48 :: v49 :: t50 :: t51 :: t52 :: t53 :: t54 :: t55 :: t56 :: t57 :: t58 :: t59 :: t60 :: t61 :: t62 :: []).toArray, defers := [] } ws) :
    Code.wp Try.prog (Code.region 9 #[{ dst := some 35, op := Op.fieldAddr 52 (Operand.tmp 4) 0, type := 0, pos := "l7_value.go:290", after := #[], guard := none }, { dst := some 36, op := Op.load 45 (Operand.tmp 35), type := 45, pos := "l7_value.go:290", after := #[{ on := 0, ground := Ground.data }], guard := none }, { dst := some 37, op := Op.makeInterface 45 (Operand.tmp 36), type := 20, pos := "l7_value.go:290", after := #[{ on := 1, ground := Ground.data }], guard := none }, { dst := some 38, op := Op.fieldAddr 52 (Operand.tmp 4) 1, type := 0, pos := "l7_value.go:290", after := #[], guard := none }, { dst := some 39, op := Op.load 50 (Operand.tmp 38), type := 50, pos := "l7_value.go:290", after := #[{ on := 3, ground := Ground.data }], guard := none }, { dst := some 40, op := Op.move (Operand.tmp 2), type := 25, pos := "l7_value.go:290", after := #[], guard := none }, { dst := some 41, op := Op.move (Operand.tmp 9), type := 3, pos := "l7_value.go:290", after := #[], guard := none }, { dst := some 42, op := Op.indexAddr 25 (Operand.tmp 40) (Operand.tmp 41), type := 0, pos := "l7_value.go:290", after := #[{ on := 5, ground := Ground.data }, { on := 6, ground := Ground.data }], guard := none }, { dst := some 43, op := Op.load 9 (Operand.tmp 42), type := 9, pos := "l7_value.go:290", after := #[{ on := 7, ground := Ground.data }], guard := none }, { dst := some 44, op := Op.call { callee := Callee.value (Operand.func 49), args := #[Operand.tmp 39, Operand.tmp 43], argTypes := #[50, 9] }, type := 9, pos := "l7_value.go:290", after := #[{ on := 4, ground := Ground.data }, { on := 8, ground := Ground.data }], guard := none }, { dst := some 45, op := Op.binOp BinOp.add 9 (Operand.tmp 44) (Operand.const (Value.string { data := #[58] })) 9, type := 9, pos := "l7_value.go:290", after := #[{ on := 9, ground := Ground.data }], guard := none }, { dst := some 46, op := Op.fieldAddr 52 (Operand.tmp 4) 3, type := 0, pos := "l7_value.go:290", after := #[], guard := none }, { dst := some 47, op := Op.load 9 (Operand.tmp 46), type := 9, pos := "l7_value.go:290", after := #[{ on := 11, ground := Ground.data }], guard := none }, { dst := some 48, op := Op.binOp BinOp.add 9 (Operand.tmp 45) (Operand.tmp 47) 9, type := 9, pos := "l7_value.go:290", after := #[{ on := 10, ground := Ground.data }, { on := 12, ground := Ground.data }], guard := none }, { dst := some 49, op := Op.call { callee := Callee.invoke (Operand.tmp 37) "WriteString", args := #[Operand.tmp 48], argTypes := #[9] }, type := 76, pos := "l7_value.go:290", after := #[{ on := 2, ground := Ground.data }, { on := 13, ground := Ground.data }, { on := 9, ground := Ground.chain }], guard := none }] true) Q { tmps := (t0 :: t1 :: (.slice (some ⟨nb, no, none⟩) n nc) :: t3 :: (.pointer (some ⟨b4, 0, none⟩)) :: t5 :: t6 :: t7 :: t8 :: (.int .i64 (j : Nat)) :: t10 :: t11 :: t12 :: t13 :: t14 :: t15 :: t16 :: t17 :: t18 :: t19 :: t20 :: t21 :: t22 :: t23 :: t24 :: t25 :: t26 :: t27 :: t28 :: t29 :: t30 :: t31 :: t32 :: t33 :: t34 :: t35 :: t36 :: t37 :: t38 :: t39 :: t40 :: t41 :: t42 :: t43 :: t44 :: t45 :: t46 :: t47 :: t48 :: t49 :: t50 :: t51 :: t52 :: t53 :: t54 :: t55 :: t56 :: t57 :: t58 :: t59 :: t60 :: t61 :: t62 :: []).toArray, defers := [] } W := by
  have hmeth := write_method
  have HB0x : Hid (∀ w', Below W.heap.size W w' → Box w' b4 52 (wrCells kb step gap)) := fun w' h => h0.below h h0.lt
  have HSof : Hid (∀ w', Below W.heap.size W w' → (w'.cell? ⟨b4, 0, none⟩ = some (.pointer (some ⟨kb, 0, none⟩)) ∧ w'.cell? ⟨b4, 1, none⟩ = some (.string ⟨#[92, 117, 48, 48]⟩) ∧ w'.cell? ⟨b4, 2, none⟩ = some (.string ⟨#[34, 92, 47, 98, 102, 110, 114, 116]⟩) ∧ w'.cell? ⟨b4, 3, none⟩ = some (.string ⟨#[34, 92, 47, 8, 12, 10, 13, 9]⟩) ∧ w'.cell? ⟨b4, 4, none⟩ = some (.int .i64 2) ∧ w'.cell? ⟨b4, 6, none⟩ = some (.string gap) ∧ w'.cell? ⟨nb, no + j, none⟩ = some (.string s))) := fun w' h => ⟨(h0.below h h0.lt).cell (i := 0) rfl, (h0.below h h0.lt).cell (i := 1) rfl, (h0.below h h0.lt).cell (i := 2) rfl, (h0.below h h0.lt).cell (i := 3) rfl, (h0.below h h0.lt).cell (i := 4) rfl, (h0.below h h0.lt).cell (i := 6) rfl, (h.cell (p := ⟨nb, no + j, none⟩) (World.block_lt_of_cell? _ _ hs)).trans hs⟩
  have HW : Hid (∀ w', Below W.heap.size W w' → Wr B kb w0 acc w') := fun w' h => hW.below h
  have hB0 := (Below.refl W.heap.size W).drew
  have hS0 := HSof.out _ hB0
  have HL := hideIt hlen
  have HN := hideIt hne
  have hq1 := arr_size (Qm.jquote s.data.toList)
  have hq2 := Qm.jquote_length s.data.toList
  rw [Qm.len_eq] at hq2
  have HNb := hideIt (And.intro hnb (World.block_lt_of_cell? _ _ hs))
  have HNc := hideIt hs
  clear h0 hW hlen hne hs hnb
  refine wp_region_held_drew (S := fun w' => w'.cell? ⟨b4, 0, none⟩ = some (.pointer (some ⟨kb, 0, none⟩)) ∧ w'.cell? ⟨b4, 1, none⟩ = some (.string ⟨#[92, 117, 48, 48]⟩) ∧ w'.cell? ⟨b4, 2, none⟩ = some (.string ⟨#[34, 92, 47, 98, 102, 110, 114, 116]⟩) ∧ w'.cell? ⟨b4, 3, none⟩ = some (.string ⟨#[34, 92, 47, 8, 12, 10, 13, 9]⟩) ∧ w'.cell? ⟨b4, 4, none⟩ = some (.int .i64 2) ∧ w'.cell? ⟨b4, 6, none⟩ = some (.string gap) ∧ w'.cell? ⟨nb, no + j, none⟩ = some (.string s)) (by kernel_rfl) hS0 (fun hHeld => ?_)
  refine wpAnyH_take (i := 0) (v := .pointer (some ⟨b4, 0, none⟩)) rfl (by kernel_rfl) (by kernel_rfl) (by kernel_rfl) (fun _ _ _ h => hp _ _ _ _ _ h) (Or.inl ⟨by rfl, ?_⟩) (by assumption) ?_
  · intro w hSw
    (try dsimp only at hSw)
    go_simp
  (try simp only [Act.put, List.getElem_toArray, List.getElem_cons_zero, List.setIfInBounds_toArray, List.set_cons_zero, List.set_cons_succ])
  refine wpAnyH_take (i := 1) (v := .pointer (some ⟨kb, 0, none⟩)) rfl (by kernel_rfl) (by kernel_rfl) (by kernel_rfl) (fun _ _ _ h => hp _ _ _ _ _ h) (Or.inl ⟨by rfl, ?_⟩) (by assumption) ?_
  · intro w hSw
    (try dsimp only at hSw)
    go_simp
  (try simp only [Act.put, List.getElem_toArray, List.getElem_cons_zero, List.getElem_cons_succ, List.setIfInBounds_toArray, List.set_cons_zero, List.set_cons_succ])
  refine wpAnyH_take (i := 2) (v := .iface 45 (.pointer (some ⟨kb, 0, none⟩))) rfl (by kernel_rfl) (by kernel_rfl) (by kernel_rfl) (fun _ _ _ h => hp _ _ _ _ _ h) (Or.inl ⟨by rfl, ?_⟩) (by assumption) ?_
  · intro w hSw
    (try dsimp only at hSw)
    go_simp
  (try simp only [Act.put, List.getElem_toArray, List.getElem_cons_zero, List.getElem_cons_succ, List.setIfInBounds_toArray, List.set_cons_zero, List.set_cons_succ])
  refine wpAnyH_take (i := 3) (v := .pointer (some ⟨b4, 1, none⟩)) rfl (by kernel_rfl) (by kernel_rfl) (by kernel_rfl) (fun _ _ _ h => hp _ _ _ _ _ h) (Or.inl ⟨by rfl, ?_⟩) (by assumption) ?_
  · intro w hSw
    (try dsimp only at hSw)
    go_simp
  (try simp only [Act.put, List.getElem_toArray, List.getElem_cons_zero, List.getElem_cons_succ, List.setIfInBounds_toArray, List.set_cons_zero, List.set_cons_succ])
  refine wpAnyH_take (i := 4) (v := jpq) rfl (by kernel_rfl) (by kernel_rfl) (by kernel_rfl) (fun _ _ _ h => hp _ _ _ _ _ h) (Or.inl ⟨by rfl, ?_⟩) (by assumption) ?_
  · intro w hSw
    (try dsimp only at hSw)
    go_simp
  (try simp only [Act.put, List.getElem_toArray, List.getElem_cons_zero, List.getElem_cons_succ, List.setIfInBounds_toArray, List.set_cons_zero, List.set_cons_succ])
  refine wpAnyH_take (i := 5) (v := .slice (some ⟨nb, no, none⟩) n nc) rfl (by kernel_rfl) (by kernel_rfl) (by kernel_rfl) (fun _ _ _ h => hp _ _ _ _ _ h) (Or.inl ⟨by rfl, ?_⟩) (by assumption) ?_
  · intro w hSw
    (try dsimp only at hSw)
    go_simp
  (try simp only [Act.put, List.getElem_toArray, List.getElem_cons_zero, List.getElem_cons_succ, List.setIfInBounds_toArray, List.set_cons_zero, List.set_cons_succ])
  refine wpAnyH_take (i := 6) (v := .int .i64 (j : Nat)) rfl (by kernel_rfl) (by kernel_rfl) (by kernel_rfl) (fun _ _ _ h => hp _ _ _ _ _ h) (Or.inl ⟨by rfl, ?_⟩) (by assumption) ?_
  · intro w hSw
    (try dsimp only at hSw)
    go_simp
  (try simp only [Act.put, List.getElem_toArray, List.getElem_cons_zero, List.getElem_cons_succ, List.setIfInBounds_toArray, List.set_cons_zero, List.set_cons_succ])
  refine wpAnyH_take (i := 7) (v := .pointer (some ⟨nb, no + j, none⟩)) rfl (by kernel_rfl) (by kernel_rfl) (by kernel_rfl) (fun _ _ _ h => hp _ _ _ _ _ h) (Or.inl ⟨by rfl, ?_⟩) (by assumption) ?_
  · intro w hSw
    (try dsimp only at hSw)
    go_simp
  (try simp only [Act.put, List.getElem_toArray, List.getElem_cons_zero, List.getElem_cons_succ, List.setIfInBounds_toArray, List.set_cons_zero, List.set_cons_succ])
  refine wpAnyH_take (i := 8) (v := .string s) rfl (by kernel_rfl) (by kernel_rfl) (by kernel_rfl) (fun _ _ _ h => hp _ _ _ _ _ h) (Or.inl ⟨by rfl, ?_⟩) (by assumption) ?_
  · intro w hSw
    (try dsimp only at hSw)
    go_simp
  (try simp only [Act.put, List.getElem_toArray, List.getElem_cons_zero, List.getElem_cons_succ, List.setIfInBounds_toArray, List.set_cons_zero, List.set_cons_succ])
  refine wpAnyH_take (i := 11) (v := .pointer (some ⟨b4, 6, none⟩)) rfl (by kernel_rfl) (by kernel_rfl) (by kernel_rfl) (fun _ _ _ h => hp _ _ _ _ _ h) (Or.inl ⟨by rfl, ?_⟩) (by assumption) ?_
  · intro w hSw
    (try dsimp only at hSw)
    go_simp
  (try simp only [Act.put, List.getElem_toArray, List.getElem_cons_zero, List.getElem_cons_succ, List.setIfInBounds_toArray, List.set_cons_zero, List.set_cons_succ])
  refine wpAnyH_take (i := 12) (v := .string gap) rfl (by kernel_rfl) (by kernel_rfl) (by kernel_rfl) (fun _ _ _ h => hp _ _ _ _ _ h) (Or.inl ⟨by rfl, ?_⟩) (by assumption) ?_
  · intro w hSw
    (try dsimp only at hSw)
    go_simp
  (try simp only [Act.put, List.getElem_toArray, List.getElem_cons_zero, List.getElem_cons_succ, List.setIfInBounds_toArray, List.set_cons_zero, List.set_cons_succ])
  refine wpAnyH_ready (rs := [9]) (by kernel_rfl) (by simp) ?_
  refine AllReadyH.cons rfl (fun K hK => ?_) AllReadyH.nil
  go_simp
  refine (jput_any s _ hsz).mono ?_
  rintro r w1 ⟨rfl, hb1⟩
  have hB1 := hB0.trans (hb1.mono hB0.size)
  go_wp2_with fail
  refine hK.out _ _ (HSof.out _ hB1) (fun hHeld => ?_)
  clear hK K hb1 hB0
  refine wpAnyH_take (i := 10) (v := .string (⟨(Qm.jquote s.data.toList).toArray⟩ ++ ⟨#[58]⟩)) rfl (by kernel_rfl) (by kernel_rfl) (by kernel_rfl) (fun _ _ _ h => hp _ _ _ _ _ h) (Or.inl ⟨by rfl, ?_⟩) (by assumption) ?_
  · intro w hSw
    (try dsimp only at hSw)
    (go_simp; omega)
  (try simp only [Act.put, List.getElem_toArray, List.getElem_cons_zero, List.getElem_cons_succ, List.setIfInBounds_toArray, List.set_cons_zero, List.set_cons_succ])
  refine wpAnyH_take (i := 13) (v := .string (⟨(Qm.jquote s.data.toList).toArray⟩ ++ ⟨#[58]⟩ ++ gap)) rfl (by kernel_rfl) (by kernel_rfl) (by kernel_rfl) (fun _ _ _ h => hp _ _ _ _ _ h) (Or.inl ⟨by rfl, ?_⟩) (by assumption) ?_
  · intro w hSw
    (try dsimp only at hSw)
    (go_simp; omega)
  (try simp only [Act.put, List.getElem_toArray, List.getElem_cons_zero, List.getElem_cons_succ, List.setIfInBounds_toArray, List.set_cons_zero, List.set_cons_succ])
  refine wpAnyH_ready (rs := [14]) (by kernel_rfl) (by simp) ?_
  refine AllReadyH.cons rfl (fun K hK => ?_) AllReadyH.nil
  go_simp
  refine (Wr.text (HW.out _ hB1) _ (l := (Qm.jquote s.data.toList ++ ([58] ++ gap.data.toList))) (by simp [ByteArray.data_append]) (by have := HL.out; omega)).mono ?_
  rintro r w2 ⟨rfl, hw2, hk2, hbB⟩
  have HW2 := hideIt hw2
  have HK2 := hideIt (kept_trans (kept_of_below hB1) hk2)
  have hS2 := hideIt ((⟨((HB0x.out _ hB1).kept hk2 HN.out (by decide)).cell (i := 0) rfl, ((HB0x.out _ hB1).kept hk2 HN.out (by decide)).cell (i := 1) rfl, ((HB0x.out _ hB1).kept hk2 HN.out (by decide)).cell (i := 2) rfl, ((HB0x.out _ hB1).kept hk2 HN.out (by decide)).cell (i := 3) rfl, ((HB0x.out _ hB1).kept hk2 HN.out (by decide)).cell (i := 4) rfl, ((HB0x.out _ hB1).kept hk2 HN.out (by decide)).cell (i := 6) rfl, (hbB.cell (p := ⟨nb, no + j, none⟩) HNb.out.1).trans ((hB1.cell (p := ⟨nb, no + j, none⟩) HNb.out.2).trans HNc.out)⟩ : (fun w' => w'.cell? ⟨b4, 0, none⟩ = some (.pointer (some ⟨kb, 0, none⟩)) ∧ w'.cell? ⟨b4, 1, none⟩ = some (.string ⟨#[92, 117, 48, 48]⟩) ∧ w'.cell? ⟨b4, 2, none⟩ = some (.string ⟨#[34, 92, 47, 98, 102, 110, 114, 116]⟩) ∧ w'.cell? ⟨b4, 3, none⟩ = some (.string ⟨#[34, 92, 47, 8, 12, 10, 13, 9]⟩) ∧ w'.cell? ⟨b4, 4, none⟩ = some (.int .i64 2) ∧ w'.cell? ⟨b4, 6, none⟩ = some (.string gap) ∧ w'.cell? ⟨nb, no + j, none⟩ = some (.string s)) w2))
  clear hw2 hk2 hbB
  go_wp2_with fail
  refine hK.out _ _ hS2.out (fun hHeld => ?_)
  clear hK K
  refine wpAnyH_done (by kernel_rfl) ?_ _
  exact h_ _ _ _ _ _ _ _ _ _ _ _ _ _ _ _ _ HW2.out HK2.out
end Go.Proofs.Ytpgpkdeiapeoiaa
