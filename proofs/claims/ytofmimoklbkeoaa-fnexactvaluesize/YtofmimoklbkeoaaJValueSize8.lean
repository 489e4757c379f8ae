/- My own texts, joined: Xh Xi Ym Yn FoO Vg LawVSize. -/
import Derived.Test.YtofmimoklbkeoaaJValueSize7
import Derived.Test.YtofmimoklbkeoaaJValueSize4
import Derived.Test.YtofmimoklbkeoaaJValueSize6
import Derived.Test.YtofmimoklbkeoaaJValueSize0
import Derived.Deep.Slices
import Derived.OpenShut
import Derived.Test.YtofmimoklbkeoaaJValueSize1
/- Values that are ok: whether a value has just what its kind has, by the specification. -/
namespace Go.Proofs.Ytofmimoklbkeoaa
open Go.RowKit
theorem text_nil {t : ByteArray} (h : t.toList = []) : t = ⟨#[]⟩ := text_ext (h.trans (by simp [ByteArray.toList_eq]))
set_option maxRecDepth 100000 in
set_option maxHeartbeats 1000000 in
theorem l7One_0 (m e : Int) (t : ByteArray) (na : Option Addr) (nc : Nat) (ns : List ByteArray) (a : Option Addr) (n c nl : Nat) (w : World) (hlen : Hid (ns.length = nl)) (hI : Hd.In w ⟨0, m, e, t, na, nc, ns⟩) :
    Calls Try.prog 73 #[.agg #[.int .i64 0, .int .i64 m, .int .i64 e, .string t, .slice a n c, .slice na nl nc]] w fun r w' => SaysT (one ⟨0, m, e, t, na, nc, ns⟩ n) r ∧ Below w.heap.size w w' := by
  by_cases h_m : m = 0
  · subst h_m
    by_cases h_e : e = 0
    · subst h_e
      by_cases h_t : t = ⟨#[]⟩
      · subst h_t
        by_cases h_n : n = 0
        · subst h_n
          by_cases h_nl : nl = 0
          · subst h_nl
            have HS : Hid (one ⟨0, 0, 0, ⟨#[]⟩, na, nc, ns⟩ 0) := by have h0 : ns = [] := List.eq_nil_of_length_eq_zero hlen.out; subst h0; unfold Hid; simp [one]
            clear hI
            go_enter Try.func73, Try.ntmps73
            go_wp2_with fail
            go_ret
            exact ⟨⟨true, rfl, fun _ => HS.out, fun _ => rfl⟩, (by (repeat' (first | assumption | exact Below.refl _ _ | refine Below.alloc ?_ ?_ _ | refine Below.setCell ?_ ?_ _ | refine Below.drew ?_ | refine below_drewN ?_ _)) <;> (first | omega | (simp <;> omega)))⟩
          · have h_nl' : ((nl : Int) == 0) = false := by simp; omega
            have HS : Hid (¬ one ⟨0, 0, 0, ⟨#[]⟩, na, nc, ns⟩ 0) := fun x => h_nl (by have := hlen.out; simp [one] at x; rw [← this]; simp [x])
            clear hI
            go_enter Try.func73, Try.ntmps73
            go_wp2_with fail
            go_ret
            exact ⟨⟨false, rfl, fun h => (by cases h), fun h => absurd h HS.out⟩, (by (repeat' (first | assumption | exact Below.refl _ _ | refine Below.alloc ?_ ?_ _ | refine Below.setCell ?_ ?_ _ | refine Below.drew ?_ | refine below_drewN ?_ _)) <;> (first | omega | (simp <;> omega)))⟩
        · have h_n' : ((n : Int) == 0) = false := by simp; omega
          have HS : Hid (¬ one ⟨0, 0, 0, ⟨#[]⟩, na, nc, ns⟩ n) := fun x => by simp [one] at x; exact h_n (by simp [x])
          clear hI
          go_enter Try.func73, Try.ntmps73
          go_wp2_with fail
          go_ret
          exact ⟨⟨false, rfl, fun h => (by cases h), fun h => absurd h HS.out⟩, (by (repeat' (first | assumption | exact Below.refl _ _ | refine Below.alloc ?_ ?_ _ | refine Below.setCell ?_ ?_ _ | refine Below.drew ?_ | refine below_drewN ?_ _)) <;> (first | omega | (simp <;> omega)))⟩
      · have h_t' : (t.toList == []) = false := by rw [beq_eq_false_iff_ne]; exact fun e' => h_t (text_nil e')
        have HS : Hid (¬ one ⟨0, 0, 0, t, na, nc, ns⟩ n) := fun x => by simp [one] at x; exact h_t (by simp [x])
        clear hI
        go_enter Try.func73, Try.ntmps73
        go_wp2_with fail
        go_ret
        exact ⟨⟨false, rfl, fun h => (by cases h), fun h => absurd h HS.out⟩, (by (repeat' (first | assumption | exact Below.refl _ _ | refine Below.alloc ?_ ?_ _ | refine Below.setCell ?_ ?_ _ | refine Below.drew ?_ | refine below_drewN ?_ _)) <;> (first | omega | (simp <;> omega)))⟩
    · have h_e' : (e == 0) = false := by simp; omega
      have HS : Hid (¬ one ⟨0, 0, e, t, na, nc, ns⟩ n) := fun x => by simp [one] at x; exact h_e (by simp [x])
      clear hI
      go_enter Try.func73, Try.ntmps73
      go_wp2_with fail
      go_ret
      exact ⟨⟨false, rfl, fun h => (by cases h), fun h => absurd h HS.out⟩, (by (repeat' (first | assumption | exact Below.refl _ _ | refine Below.alloc ?_ ?_ _ | refine Below.setCell ?_ ?_ _ | refine Below.drew ?_ | refine below_drewN ?_ _)) <;> (first | omega | (simp <;> omega)))⟩
  · have h_m' : (m == 0) = false := by simp; omega
    have HS : Hid (¬ one ⟨0, m, e, t, na, nc, ns⟩ n) := fun x => by simp [one] at x; exact h_m (by simp [x])
    clear hI
    go_enter Try.func73, Try.ntmps73
    go_wp2_with fail
    go_ret
    exact ⟨⟨false, rfl, fun h => (by cases h), fun h => absurd h HS.out⟩, (by (repeat' (first | assumption | exact Below.refl _ _ | refine Below.alloc ?_ ?_ _ | refine Below.setCell ?_ ?_ _ | refine Below.drew ?_ | refine below_drewN ?_ _)) <;> (first | omega | (simp <;> omega)))⟩
set_option maxRecDepth 100000 in
set_option maxHeartbeats 1000000 in
theorem l7One_1 (m e : Int) (t : ByteArray) (na : Option Addr) (nc : Nat) (ns : List ByteArray) (a : Option Addr) (n c nl : Nat) (w : World) (hlen : Hid (ns.length = nl)) (hI : Hd.In w ⟨1, m, e, t, na, nc, ns⟩) :
    Calls Try.prog 73 #[.agg #[.int .i64 1, .int .i64 m, .int .i64 e, .string t, .slice a n c, .slice na nl nc]] w fun r w' => SaysT (one ⟨1, m, e, t, na, nc, ns⟩ n) r ∧ Below w.heap.size w w' := by
  by_cases h_m : m = 0
  · subst h_m
    by_cases h_e : e = 0
    · subst h_e
      by_cases h_t : t = ⟨#[]⟩
      · subst h_t
        by_cases h_n : n = 0
        · subst h_n
          by_cases h_nl : nl = 0
          · subst h_nl
            have HS : Hid (one ⟨1, 0, 0, ⟨#[]⟩, na, nc, ns⟩ 0) := by have h0 : ns = [] := List.eq_nil_of_length_eq_zero hlen.out; subst h0; unfold Hid; simp [one]
            clear hI
            go_enter Try.func73, Try.ntmps73
            go_wp2_with fail
            go_ret
            exact ⟨⟨true, rfl, fun _ => HS.out, fun _ => rfl⟩, (by (repeat' (first | assumption | exact Below.refl _ _ | refine Below.alloc ?_ ?_ _ | refine Below.setCell ?_ ?_ _ | refine Below.drew ?_ | refine below_drewN ?_ _)) <;> (first | omega | (simp <;> omega)))⟩
          · have h_nl' : ((nl : Int) == 0) = false := by simp; omega
            have HS : Hid (¬ one ⟨1, 0, 0, ⟨#[]⟩, na, nc, ns⟩ 0) := fun x => h_nl (by have := hlen.out; simp [one] at x; rw [← this]; simp [x])
            clear hI
            go_enter Try.func73, Try.ntmps73
            go_wp2_with fail
            go_ret
            exact ⟨⟨false, rfl, fun h => (by cases h), fun h => absurd h HS.out⟩, (by (repeat' (first | assumption | exact Below.refl _ _ | refine Below.alloc ?_ ?_ _ | refine Below.setCell ?_ ?_ _ | refine Below.drew ?_ | refine below_drewN ?_ _)) <;> (first | omega | (simp <;> omega)))⟩
        · have h_n' : ((n : Int) == 0) = false := by simp; omega
          have HS : Hid (¬ one ⟨1, 0, 0, ⟨#[]⟩, na, nc, ns⟩ n) := fun x => by simp [one] at x; exact h_n (by simp [x])
          clear hI
          go_enter Try.func73, Try.ntmps73
          go_wp2_with fail
          go_ret
          exact ⟨⟨false, rfl, fun h => (by cases h), fun h => absurd h HS.out⟩, (by (repeat' (first | assumption | exact Below.refl _ _ | refine Below.alloc ?_ ?_ _ | refine Below.setCell ?_ ?_ _ | refine Below.drew ?_ | refine below_drewN ?_ _)) <;> (first | omega | (simp <;> omega)))⟩
      · have h_t' : (t.toList == []) = false := by rw [beq_eq_false_iff_ne]; exact fun e' => h_t (text_nil e')
        have HS : Hid (¬ one ⟨1, 0, 0, t, na, nc, ns⟩ n) := fun x => by simp [one] at x; exact h_t (by simp [x])
        clear hI
        go_enter Try.func73, Try.ntmps73
        go_wp2_with fail
        go_ret
        exact ⟨⟨false, rfl, fun h => (by cases h), fun h => absurd h HS.out⟩, (by (repeat' (first | assumption | exact Below.refl _ _ | refine Below.alloc ?_ ?_ _ | refine Below.setCell ?_ ?_ _ | refine Below.drew ?_ | refine below_drewN ?_ _)) <;> (first | omega | (simp <;> omega)))⟩
    · have h_e' : (e == 0) = false := by simp; omega
      have HS : Hid (¬ one ⟨1, 0, e, t, na, nc, ns⟩ n) := fun x => by simp [one] at x; exact h_e (by simp [x])
      clear hI
      go_enter Try.func73, Try.ntmps73
      go_wp2_with fail
      go_ret
      exact ⟨⟨false, rfl, fun h => (by cases h), fun h => absurd h HS.out⟩, (by (repeat' (first | assumption | exact Below.refl _ _ | refine Below.alloc ?_ ?_ _ | refine Below.setCell ?_ ?_ _ | refine Below.drew ?_ | refine below_drewN ?_ _)) <;> (first | omega | (simp <;> omega)))⟩
  · have h_m' : (m == 0) = false := by simp; omega
    have HS : Hid (¬ one ⟨1, m, e, t, na, nc, ns⟩ n) := fun x => by simp [one] at x; exact h_m (by simp [x])
    clear hI
    go_enter Try.func73, Try.ntmps73
    go_wp2_with fail
    go_ret
    exact ⟨⟨false, rfl, fun h => (by cases h), fun h => absurd h HS.out⟩, (by (repeat' (first | assumption | exact Below.refl _ _ | refine Below.alloc ?_ ?_ _ | refine Below.setCell ?_ ?_ _ | refine Below.drew ?_ | refine below_drewN ?_ _)) <;> (first | omega | (simp <;> omega)))⟩
set_option maxRecDepth 100000 in
set_option maxHeartbeats 1000000 in
theorem l7One_2 (m e : Int) (t : ByteArray) (na : Option Addr) (nc : Nat) (ns : List ByteArray) (a : Option Addr) (n c nl : Nat) (w : World) (hlen : Hid (ns.length = nl)) (hI : Hd.In w ⟨2, m, e, t, na, nc, ns⟩) :
    Calls Try.prog 73 #[.agg #[.int .i64 2, .int .i64 m, .int .i64 e, .string t, .slice a n c, .slice na nl nc]] w fun r w' => SaysT (one ⟨2, m, e, t, na, nc, ns⟩ n) r ∧ Below w.heap.size w w' := by
  by_cases h_m : m = 0
  · subst h_m
    by_cases h_e : e = 0
    · subst h_e
      by_cases h_t : t = ⟨#[]⟩
      · subst h_t
        by_cases h_n : n = 0
        · subst h_n
          by_cases h_nl : nl = 0
          · subst h_nl
            have HS : Hid (one ⟨2, 0, 0, ⟨#[]⟩, na, nc, ns⟩ 0) := by have h0 : ns = [] := List.eq_nil_of_length_eq_zero hlen.out; subst h0; unfold Hid; simp [one]
            clear hI
            go_enter Try.func73, Try.ntmps73
            go_wp2_with fail
            go_ret
            exact ⟨⟨true, rfl, fun _ => HS.out, fun _ => rfl⟩, (by (repeat' (first | assumption | exact Below.refl _ _ | refine Below.alloc ?_ ?_ _ | refine Below.setCell ?_ ?_ _ | refine Below.drew ?_ | refine below_drewN ?_ _)) <;> (first | omega | (simp <;> omega)))⟩
          · have h_nl' : ((nl : Int) == 0) = false := by simp; omega
            have HS : Hid (¬ one ⟨2, 0, 0, ⟨#[]⟩, na, nc, ns⟩ 0) := fun x => h_nl (by have := hlen.out; simp [one] at x; rw [← this]; simp [x])
            clear hI
            go_enter Try.func73, Try.ntmps73
            go_wp2_with fail
            go_ret
            exact ⟨⟨false, rfl, fun h => (by cases h), fun h => absurd h HS.out⟩, (by (repeat' (first | assumption | exact Below.refl _ _ | refine Below.alloc ?_ ?_ _ | refine Below.setCell ?_ ?_ _ | refine Below.drew ?_ | refine below_drewN ?_ _)) <;> (first | omega | (simp <;> omega)))⟩
        · have h_n' : ((n : Int) == 0) = false := by simp; omega
          have HS : Hid (¬ one ⟨2, 0, 0, ⟨#[]⟩, na, nc, ns⟩ n) := fun x => by simp [one] at x; exact h_n (by simp [x])
          clear hI
          go_enter Try.func73, Try.ntmps73
          go_wp2_with fail
          go_ret
          exact ⟨⟨false, rfl, fun h => (by cases h), fun h => absurd h HS.out⟩, (by (repeat' (first | assumption | exact Below.refl _ _ | refine Below.alloc ?_ ?_ _ | refine Below.setCell ?_ ?_ _ | refine Below.drew ?_ | refine below_drewN ?_ _)) <;> (first | omega | (simp <;> omega)))⟩
      · have h_t' : (t.toList == []) = false := by rw [beq_eq_false_iff_ne]; exact fun e' => h_t (text_nil e')
        have HS : Hid (¬ one ⟨2, 0, 0, t, na, nc, ns⟩ n) := fun x => by simp [one] at x; exact h_t (by simp [x])
        clear hI
        go_enter Try.func73, Try.ntmps73
        go_wp2_with fail
        go_ret
        exact ⟨⟨false, rfl, fun h => (by cases h), fun h => absurd h HS.out⟩, (by (repeat' (first | assumption | exact Below.refl _ _ | refine Below.alloc ?_ ?_ _ | refine Below.setCell ?_ ?_ _ | refine Below.drew ?_ | refine below_drewN ?_ _)) <;> (first | omega | (simp <;> omega)))⟩
    · have h_e' : (e == 0) = false := by simp; omega
      have HS : Hid (¬ one ⟨2, 0, e, t, na, nc, ns⟩ n) := fun x => by simp [one] at x; exact h_e (by simp [x])
      clear hI
      go_enter Try.func73, Try.ntmps73
      go_wp2_with fail
      go_ret
      exact ⟨⟨false, rfl, fun h => (by cases h), fun h => absurd h HS.out⟩, (by (repeat' (first | assumption | exact Below.refl _ _ | refine Below.alloc ?_ ?_ _ | refine Below.setCell ?_ ?_ _ | refine Below.drew ?_ | refine below_drewN ?_ _)) <;> (first | omega | (simp <;> omega)))⟩
  · have h_m' : (m == 0) = false := by simp; omega
    have HS : Hid (¬ one ⟨2, m, e, t, na, nc, ns⟩ n) := fun x => by simp [one] at x; exact h_m (by simp [x])
    clear hI
    go_enter Try.func73, Try.ntmps73
    go_wp2_with fail
    go_ret
    exact ⟨⟨false, rfl, fun h => (by cases h), fun h => absurd h HS.out⟩, (by (repeat' (first | assumption | exact Below.refl _ _ | refine Below.alloc ?_ ?_ _ | refine Below.setCell ?_ ?_ _ | refine Below.drew ?_ | refine below_drewN ?_ _)) <;> (first | omega | (simp <;> omega)))⟩
set_option maxRecDepth 100000 in
set_option maxHeartbeats 1000000 in
theorem l7One_4 (m e : Int) (t : ByteArray) (na : Option Addr) (nc : Nat) (ns : List ByteArray) (a : Option Addr) (n c nl : Nat) (w : World) (hlen : Hid (ns.length = nl)) (hI : Hd.In w ⟨4, m, e, t, na, nc, ns⟩) :
    Calls Try.prog 73 #[.agg #[.int .i64 4, .int .i64 m, .int .i64 e, .string t, .slice a n c, .slice na nl nc]] w fun r w' => SaysT (one ⟨4, m, e, t, na, nc, ns⟩ n) r ∧ Below w.heap.size w w' := by
  have htm := hI.2.2
  unfold maxLen at htm
  by_cases h_m : m = 0
  · subst h_m
    by_cases h_e : e = 0
    · subst h_e
      by_cases h_sz : t.size ≤ 1500
      · have h_sz' : (t.size : Int) ≤ 1500 := by omega
        by_cases h_n : n = 0
        · subst h_n
          by_cases h_nl : nl = 0
          · subst h_nl
            have HS : Hid (one ⟨4, 0, 0, t, na, nc, ns⟩ 0) := by have h0 : ns = [] := List.eq_nil_of_length_eq_zero hlen.out; subst h0; unfold Hid; simp [one]; exact h_sz
            clear hI
            go_enter Try.func73, Try.ntmps73
            go_wp2_with fail
            go_ret
            exact ⟨⟨true, rfl, fun _ => HS.out, fun _ => rfl⟩, (by (repeat' (first | assumption | exact Below.refl _ _ | refine Below.alloc ?_ ?_ _ | refine Below.setCell ?_ ?_ _ | refine Below.drew ?_ | refine below_drewN ?_ _)) <;> (first | omega | (simp <;> omega)))⟩
          · have h_nl' : ((nl : Int) == 0) = false := by simp; omega
            have HS : Hid (¬ one ⟨4, 0, 0, t, na, nc, ns⟩ 0) := fun x => h_nl (by have := hlen.out; simp [one] at x; rw [← this]; simp [x])
            clear hI
            go_enter Try.func73, Try.ntmps73
            go_wp2_with fail
            go_ret
            exact ⟨⟨false, rfl, fun h => (by cases h), fun h => absurd h HS.out⟩, (by (repeat' (first | assumption | exact Below.refl _ _ | refine Below.alloc ?_ ?_ _ | refine Below.setCell ?_ ?_ _ | refine Below.drew ?_ | refine below_drewN ?_ _)) <;> (first | omega | (simp <;> omega)))⟩
        · have h_n' : ((n : Int) == 0) = false := by simp; omega
          have HS : Hid (¬ one ⟨4, 0, 0, t, na, nc, ns⟩ n) := fun x => by simp [one] at x; exact h_n (by simp [x])
          clear hI
          go_enter Try.func73, Try.ntmps73
          go_wp2_with fail
          go_ret
          exact ⟨⟨false, rfl, fun h => (by cases h), fun h => absurd h HS.out⟩, (by (repeat' (first | assumption | exact Below.refl _ _ | refine Below.alloc ?_ ?_ _ | refine Below.setCell ?_ ?_ _ | refine Below.drew ?_ | refine below_drewN ?_ _)) <;> (first | omega | (simp <;> omega)))⟩
      · have h_sz' : ¬ (t.size : Int) ≤ 1500 := by omega
        have HS : Hid (¬ one ⟨4, 0, 0, t, na, nc, ns⟩ n) := fun x => by simp [one] at x; exact h_sz x.1
        clear hI
        go_enter Try.func73, Try.ntmps73
        go_wp2_with fail
        go_ret
        exact ⟨⟨false, rfl, fun h => (by cases h), fun h => absurd h HS.out⟩, (by (repeat' (first | assumption | exact Below.refl _ _ | refine Below.alloc ?_ ?_ _ | refine Below.setCell ?_ ?_ _ | refine Below.drew ?_ | refine below_drewN ?_ _)) <;> (first | omega | (simp <;> omega)))⟩
    · have h_e' : (e == 0) = false := by simp; omega
      have HS : Hid (¬ one ⟨4, 0, e, t, na, nc, ns⟩ n) := fun x => by simp [one] at x; exact h_e (by simp [x])
      clear hI
      go_enter Try.func73, Try.ntmps73
      go_wp2_with fail
      go_ret
      exact ⟨⟨false, rfl, fun h => (by cases h), fun h => absurd h HS.out⟩, (by (repeat' (first | assumption | exact Below.refl _ _ | refine Below.alloc ?_ ?_ _ | refine Below.setCell ?_ ?_ _ | refine Below.drew ?_ | refine below_drewN ?_ _)) <;> (first | omega | (simp <;> omega)))⟩
  · have h_m' : (m == 0) = false := by simp; omega
    have HS : Hid (¬ one ⟨4, m, e, t, na, nc, ns⟩ n) := fun x => by simp [one] at x; exact h_m (by simp [x])
    clear hI
    go_enter Try.func73, Try.ntmps73
    go_wp2_with fail
    go_ret
    exact ⟨⟨false, rfl, fun h => (by cases h), fun h => absurd h HS.out⟩, (by (repeat' (first | assumption | exact Below.refl _ _ | refine Below.alloc ?_ ?_ _ | refine Below.setCell ?_ ?_ _ | refine Below.drew ?_ | refine below_drewN ?_ _)) <;> (first | omega | (simp <;> omega)))⟩
set_option maxRecDepth 100000 in
set_option maxHeartbeats 1000000 in
theorem l7One_5 (m e : Int) (t : ByteArray) (na : Option Addr) (nc : Nat) (ns : List ByteArray) (a : Option Addr) (n c nl : Nat) (w : World) (hlen : Hid (ns.length = nl)) (hI : Hd.In w ⟨5, m, e, t, na, nc, ns⟩) :
    Calls Try.prog 73 #[.agg #[.int .i64 5, .int .i64 m, .int .i64 e, .string t, .slice a n c, .slice na nl nc]] w fun r w' => SaysT (one ⟨5, m, e, t, na, nc, ns⟩ n) r ∧ Below w.heap.size w w' := by
  by_cases h_m : m = 0
  · subst h_m
    by_cases h_e : e = 0
    · subst h_e
      by_cases h_t : t = ⟨#[]⟩
      · subst h_t
        by_cases h_nl : nl = 0
        · subst h_nl
          have HS : Hid (one ⟨5, 0, 0, ⟨#[]⟩, na, nc, ns⟩ n) := by have h0 : ns = [] := List.eq_nil_of_length_eq_zero hlen.out; subst h0; unfold Hid; simp [one]
          clear hI
          go_enter Try.func73, Try.ntmps73
          go_wp2_with fail
          go_ret
          exact ⟨⟨true, rfl, fun _ => HS.out, fun _ => rfl⟩, (by (repeat' (first | assumption | exact Below.refl _ _ | refine Below.alloc ?_ ?_ _ | refine Below.setCell ?_ ?_ _ | refine Below.drew ?_ | refine below_drewN ?_ _)) <;> (first | omega | (simp <;> omega)))⟩
        · have h_nl' : ((nl : Int) == 0) = false := by simp; omega
          have HS : Hid (¬ one ⟨5, 0, 0, ⟨#[]⟩, na, nc, ns⟩ n) := fun x => h_nl (by have := hlen.out; simp [one] at x; rw [← this]; simp [x])
          clear hI
          go_enter Try.func73, Try.ntmps73
          go_wp2_with fail
          go_ret
          exact ⟨⟨false, rfl, fun h => (by cases h), fun h => absurd h HS.out⟩, (by (repeat' (first | assumption | exact Below.refl _ _ | refine Below.alloc ?_ ?_ _ | refine Below.setCell ?_ ?_ _ | refine Below.drew ?_ | refine below_drewN ?_ _)) <;> (first | omega | (simp <;> omega)))⟩
      · have h_t' : (t.toList == []) = false := by rw [beq_eq_false_iff_ne]; exact fun e' => h_t (text_nil e')
        have HS : Hid (¬ one ⟨5, 0, 0, t, na, nc, ns⟩ n) := fun x => by simp [one] at x; exact h_t (by simp [x])
        clear hI
        go_enter Try.func73, Try.ntmps73
        go_wp2_with fail
        go_ret
        exact ⟨⟨false, rfl, fun h => (by cases h), fun h => absurd h HS.out⟩, (by (repeat' (first | assumption | exact Below.refl _ _ | refine Below.alloc ?_ ?_ _ | refine Below.setCell ?_ ?_ _ | refine Below.drew ?_ | refine below_drewN ?_ _)) <;> (first | omega | (simp <;> omega)))⟩
    · have h_e' : (e == 0) = false := by simp; omega
      have HS : Hid (¬ one ⟨5, 0, e, t, na, nc, ns⟩ n) := fun x => by simp [one] at x; exact h_e (by simp [x])
      clear hI
      go_enter Try.func73, Try.ntmps73
      go_wp2_with fail
      go_ret
      exact ⟨⟨false, rfl, fun h => (by cases h), fun h => absurd h HS.out⟩, (by (repeat' (first | assumption | exact Below.refl _ _ | refine Below.alloc ?_ ?_ _ | refine Below.setCell ?_ ?_ _ | refine Below.drew ?_ | refine below_drewN ?_ _)) <;> (first | omega | (simp <;> omega)))⟩
  · have h_m' : (m == 0) = false := by simp; omega
    have HS : Hid (¬ one ⟨5, m, e, t, na, nc, ns⟩ n) := fun x => by simp [one] at x; exact h_m (by simp [x])
    clear hI
    go_enter Try.func73, Try.ntmps73
    go_wp2_with fail
    go_ret
    exact ⟨⟨false, rfl, fun h => (by cases h), fun h => absurd h HS.out⟩, (by (repeat' (first | assumption | exact Below.refl _ _ | refine Below.alloc ?_ ?_ _ | refine Below.setCell ?_ ?_ _ | refine Below.drew ?_ | refine below_drewN ?_ _)) <;> (first | omega | (simp <;> omega)))⟩
set_option maxRecDepth 100000 in
set_option maxHeartbeats 1000000 in
theorem l7One_3 (m e : Int) (t : ByteArray) (na : Option Addr) (nc : Nat) (ns : List ByteArray) (a : Option Addr) (n c nl : Nat) (w : World) (hlen : Hid (ns.length = nl)) (hI : Hd.In w ⟨3, m, e, t, na, nc, ns⟩) :
    Calls Try.prog 73 #[.agg #[.int .i64 3, .int .i64 m, .int .i64 e, .string t, .slice a n c, .slice na nl nc]] w fun r w' => SaysT (one ⟨3, m, e, t, na, nc, ns⟩ n) r ∧ Below w.heap.size w w' := by
  cases hd : Dm.ok m e
  · skip
    have HS : Hid (¬ one ⟨3, m, e, t, na, nc, ns⟩ n) := fun x => by simp [one, hd] at x
    clear hI
    have hB0 := (Below.refl _ w).alloc (Nat.le_refl _) (.cells #[.int .i64 3, .int .i64 m, .int .i64 e, .string t, .slice a n c, .slice na nl nc] 33)
    have R0 := Row.new w [.int .i64 3, .int .i64 m, .int .i64 e, .string t, .slice a n c, .slice na nl nc] 33
    go_enter Try.func73, Try.ntmps73
    go_wp2_with fail
    refine (sDecOk_any m e _).mono ?_
    rintro r w1 ⟨rfl, hb1⟩
    have hB1 := hB0.trans (hb1.mono hB0.size)
    have x3 := (R0.below hb1 R0.lt 3 _ rfl).1
    have x4 := (R0.below hb1 R0.lt 4 _ rfl).1
    have x5 := (R0.below hb1 R0.lt 5 _ rfl).1
    clear R0 hB0 hb1
    rw [hd]
    go_wp2_with fail
    go_ret
    exact ⟨⟨false, rfl, fun h => (by cases h), fun h => absurd h HS.out⟩, hB1⟩
  · by_cases h_t : t = ⟨#[]⟩
    · subst h_t
      by_cases h_n : n = 0
      · subst h_n
        by_cases h_nl : nl = 0
        · subst h_nl
          have HS : Hid (one ⟨3, m, e, ⟨#[]⟩, na, nc, ns⟩ 0) := by have h0 : ns = [] := List.eq_nil_of_length_eq_zero hlen.out; subst h0; unfold Hid; simp [one, hd]
          clear hI
          have hB0 := (Below.refl _ w).alloc (Nat.le_refl _) (.cells #[.int .i64 3, .int .i64 m, .int .i64 e, .string ⟨#[]⟩, .slice a 0 c, .slice na 0 nc] 33)
          have R0 := Row.new w [.int .i64 3, .int .i64 m, .int .i64 e, .string ⟨#[]⟩, .slice a 0 c, .slice na 0 nc] 33
          go_enter Try.func73, Try.ntmps73
          go_wp2_with fail
          refine (sDecOk_any m e _).mono ?_
          rintro r w1 ⟨rfl, hb1⟩
          have hB1 := hB0.trans (hb1.mono hB0.size)
          have x3 := (R0.below hb1 R0.lt 3 _ rfl).1
          have x4 := (R0.below hb1 R0.lt 4 _ rfl).1
          have x5 := (R0.below hb1 R0.lt 5 _ rfl).1
          clear R0 hB0 hb1
          rw [hd]
          go_wp2_with fail
          go_ret
          exact ⟨⟨true, rfl, fun _ => HS.out, fun _ => rfl⟩, hB1⟩
        · have h_nl' : ((nl : Int) == 0) = false := by simp; omega
          have HS : Hid (¬ one ⟨3, m, e, ⟨#[]⟩, na, nc, ns⟩ 0) := fun x => h_nl (by have := hlen.out; simp [one] at x; rw [← this]; simp [x])
          clear hI
          have hB0 := (Below.refl _ w).alloc (Nat.le_refl _) (.cells #[.int .i64 3, .int .i64 m, .int .i64 e, .string ⟨#[]⟩, .slice a 0 c, .slice na nl nc] 33)
          have R0 := Row.new w [.int .i64 3, .int .i64 m, .int .i64 e, .string ⟨#[]⟩, .slice a 0 c, .slice na nl nc] 33
          go_enter Try.func73, Try.ntmps73
          go_wp2_with fail
          refine (sDecOk_any m e _).mono ?_
          rintro r w1 ⟨rfl, hb1⟩
          have hB1 := hB0.trans (hb1.mono hB0.size)
          have x3 := (R0.below hb1 R0.lt 3 _ rfl).1
          have x4 := (R0.below hb1 R0.lt 4 _ rfl).1
          have x5 := (R0.below hb1 R0.lt 5 _ rfl).1
          clear R0 hB0 hb1
          rw [hd]
          go_wp2_with fail
          go_ret
          exact ⟨⟨false, rfl, fun h => (by cases h), fun h => absurd h HS.out⟩, hB1⟩
      · have h_n' : ((n : Int) == 0) = false := by simp; omega
        have HS : Hid (¬ one ⟨3, m, e, ⟨#[]⟩, na, nc, ns⟩ n) := fun x => by simp [one] at x; exact h_n (by simp [x])
        clear hI
        have hB0 := (Below.refl _ w).alloc (Nat.le_refl _) (.cells #[.int .i64 3, .int .i64 m, .int .i64 e, .string ⟨#[]⟩, .slice a n c, .slice na nl nc] 33)
        have R0 := Row.new w [.int .i64 3, .int .i64 m, .int .i64 e, .string ⟨#[]⟩, .slice a n c, .slice na nl nc] 33
        go_enter Try.func73, Try.ntmps73
        go_wp2_with fail
        refine (sDecOk_any m e _).mono ?_
        rintro r w1 ⟨rfl, hb1⟩
        have hB1 := hB0.trans (hb1.mono hB0.size)
        have x3 := (R0.below hb1 R0.lt 3 _ rfl).1
        have x4 := (R0.below hb1 R0.lt 4 _ rfl).1
        have x5 := (R0.below hb1 R0.lt 5 _ rfl).1
        clear R0 hB0 hb1
        rw [hd]
        go_wp2_with fail
        go_ret
        exact ⟨⟨false, rfl, fun h => (by cases h), fun h => absurd h HS.out⟩, hB1⟩
    · have h_t' : (t.toList == []) = false := by rw [beq_eq_false_iff_ne]; exact fun e' => h_t (text_nil e')
      have HS : Hid (¬ one ⟨3, m, e, t, na, nc, ns⟩ n) := fun x => by simp [one] at x; exact h_t (by simp [x])
      clear hI
      have hB0 := (Below.refl _ w).alloc (Nat.le_refl _) (.cells #[.int .i64 3, .int .i64 m, .int .i64 e, .string t, .slice a n c, .slice na nl nc] 33)
      have R0 := Row.new w [.int .i64 3, .int .i64 m, .int .i64 e, .string t, .slice a n c, .slice na nl nc] 33
      go_enter Try.func73, Try.ntmps73
      go_wp2_with fail
      refine (sDecOk_any m e _).mono ?_
      rintro r w1 ⟨rfl, hb1⟩
      have hB1 := hB0.trans (hb1.mono hB0.size)
      have x3 := (R0.below hb1 R0.lt 3 _ rfl).1
      have x4 := (R0.below hb1 R0.lt 4 _ rfl).1
      have x5 := (R0.below hb1 R0.lt 5 _ rfl).1
      clear R0 hB0 hb1
      rw [hd]
      go_wp2_with fail
      go_ret
      exact ⟨⟨false, rfl, fun h => (by cases h), fun h => absurd h HS.out⟩, hB1⟩
set_option maxRecDepth 100000 in
set_option maxHeartbeats 1000000 in
theorem l7One_6 (m e : Int) (t : ByteArray) (na : Option Addr) (nc : Nat) (ns : List ByteArray) (a : Option Addr) (n c nl : Nat) (w : World) (hlen : Hid (ns.length = nl)) (hI : Hd.In w ⟨6, m, e, t, na, nc, ns⟩) :
    Calls Try.prog 73 #[.agg #[.int .i64 6, .int .i64 m, .int .i64 e, .string t, .slice a n c, .slice na nl nc]] w fun r w' => SaysT (one ⟨6, m, e, t, na, nc, ns⟩ n) r ∧ Below w.heap.size w w' := by
  by_cases h_m : m = 0
  · subst h_m
    by_cases h_e : e = 0
    · subst h_e
      by_cases h_t : t = ⟨#[]⟩
      · subst h_t
        by_cases h_l : nl = n
        · subst h_l
          have hl := hI.2.1.1
          have hc := hI.2.1.2
          dsimp only at hl hc
          have HI : Hid (SIn w ns na) := hI.1
          have hB0 := (Below.refl _ w).alloc (Nat.le_refl _) (.cells #[.int .i64 6, .int .i64 0, .int .i64 0, .string ⟨#[]⟩, .slice a nl c, .slice na nl nc] 33)
          have HN := fun W (hW : SIn W ns na) => l7Names_any ns na nc W hW hl hc
          rw [hlen.out] at HN
          have HO : Hid (one ⟨6, 0, 0, ⟨#[]⟩, na, nc, ns⟩ nl ↔ nmAsc ns nl) := by have := hlen.out; unfold Hid; simp [one, this]
          clear hI
          go_enter Try.func73, Try.ntmps73
          go_wp2_with fail
          refine (HN _ (HI.out.grow hB0)).mono ?_
          rintro r w1 ⟨⟨q, rfl, hq⟩, hb1⟩
          have hB1 := hB0.trans (hb1.mono hB0.size)
          have HQ : Hid (q = true ↔ nmAsc ns nl) := hq
          clear hq
          go_wp2_with fail
          go_ret
          exact ⟨⟨q, rfl, HQ.out.trans HO.out.symm⟩, hB1⟩
        · have h_l' : ((nl : Int) == (n : Int)) = false := by simp; omega
          have HS : Hid (¬ one ⟨6, 0, 0, ⟨#[]⟩, na, nc, ns⟩ n) := fun x => h_l (by have := hlen.out; simp [one] at x; rw [← this]; exact x.1)
          clear hI
          go_enter Try.func73, Try.ntmps73
          go_wp2_with fail
          go_ret
          exact ⟨⟨false, rfl, fun h => (by cases h), fun h => absurd h HS.out⟩, (by (repeat' (first | assumption | exact Below.refl _ _ | refine Below.alloc ?_ ?_ _ | refine Below.setCell ?_ ?_ _ | refine Below.drew ?_ | refine below_drewN ?_ _)) <;> (first | omega | (simp <;> omega)))⟩
      · have h_t' : (t.toList == []) = false := by rw [beq_eq_false_iff_ne]; exact fun e' => h_t (text_nil e')
        have HS : Hid (¬ one ⟨6, 0, 0, t, na, nc, ns⟩ n) := fun x => by simp [one] at x; exact h_t (by simp [x])
        clear hI
        go_enter Try.func73, Try.ntmps73
        go_wp2_with fail
        go_ret
        exact ⟨⟨false, rfl, fun h => (by cases h), fun h => absurd h HS.out⟩, (by (repeat' (first | assumption | exact Below.refl _ _ | refine Below.alloc ?_ ?_ _ | refine Below.setCell ?_ ?_ _ | refine Below.drew ?_ | refine below_drewN ?_ _)) <;> (first | omega | (simp <;> omega)))⟩
    · have h_e' : (e == 0) = false := by simp; omega
      have HS : Hid (¬ one ⟨6, 0, e, t, na, nc, ns⟩ n) := fun x => by simp [one] at x; exact h_e (by simp [x])
      clear hI
      go_enter Try.func73, Try.ntmps73
      go_wp2_with fail
      go_ret
      exact ⟨⟨false, rfl, fun h => (by cases h), fun h => absurd h HS.out⟩, (by (repeat' (first | assumption | exact Below.refl _ _ | refine Below.alloc ?_ ?_ _ | refine Below.setCell ?_ ?_ _ | refine Below.drew ?_ | refine below_drewN ?_ _)) <;> (first | omega | (simp <;> omega)))⟩
  · have h_m' : (m == 0) = false := by simp; omega
    have HS : Hid (¬ one ⟨6, m, e, t, na, nc, ns⟩ n) := fun x => by simp [one] at x; exact h_m (by simp [x])
    clear hI
    go_enter Try.func73, Try.ntmps73
    go_wp2_with fail
    go_ret
    exact ⟨⟨false, rfl, fun h => (by cases h), fun h => absurd h HS.out⟩, (by (repeat' (first | assumption | exact Below.refl _ _ | refine Below.alloc ?_ ?_ _ | refine Below.setCell ?_ ?_ _ | refine Below.drew ?_ | refine below_drewN ?_ _)) <;> (first | omega | (simp <;> omega)))⟩
set_option maxRecDepth 100000 in
set_option maxHeartbeats 1000000 in
theorem l7One_any (h : Hd) (a : Option Addr) (n c : Nat) (w : World) (hh : h.In w) :
    Calls Try.prog 73 #[valV h a n c] w fun r w' => SaysT (one h n) r ∧ Below w.heap.size w w' := by
  obtain ⟨k, m, e, t, na, nc, ns⟩ := h
  dsimp only [valV]
  obtain ⟨nl, hnl⟩ : ∃ nl, ns.length = nl := ⟨_, rfl⟩
  rw [hnl]
  by_cases hk : 0 ≤ k ∧ k ≤ 6
  · have hc : k = 0 ∨ k = 1 ∨ k = 2 ∨ k = 3 ∨ k = 4 ∨ k = 5 ∨ k = 6 := by omega
    clear hk
    rcases hc with rfl | rfl | rfl | rfl | rfl | rfl | rfl
    · exact l7One_0 m e t na nc ns a n c nl w hnl hh
    · exact l7One_1 m e t na nc ns a n c nl w hnl hh
    · exact l7One_2 m e t na nc ns a n c nl w hnl hh
    · exact l7One_3 m e t na nc ns a n c nl w hnl hh
    · exact l7One_4 m e t na nc ns a n c nl w hnl hh
    · exact l7One_5 m e t na nc ns a n c nl w hnl hh
    · exact l7One_6 m e t na nc ns a n c nl w hnl hh
  · have HNO : Hid (¬ one ⟨k, m, e, t, na, nc, ns⟩ n) := by
      unfold Hid one
      dsimp only
      intro h
      rcases h with ⟨h, _⟩ | ⟨h, _⟩ | ⟨h, _⟩ | ⟨h, _⟩ | ⟨h, _⟩ <;> omega
    have h0 : (k == 0) = false := by simp; omega
    have h1 : (k == 1) = false := by simp; omega
    have h2 : (k == 2) = false := by simp; omega
    have h3 : (k == 3) = false := by simp; omega
    have h4 : (k == 4) = false := by simp; omega
    have h5 : (k == 5) = false := by simp; omega
    have h6 : (k == 6) = false := by simp; omega
    clear hh hk
    go_enter Try.func73, Try.ntmps73
    go_wp2_with fail
    go_ret
    exact ⟨⟨false, rfl, fun h => (by cases h), fun h => absurd h HNO.out⟩, (Below.refl _ w).alloc (Nat.le_refl _) _⟩
end Go.Proofs.Ytofmimoklbkeoaa
/- Contract: ValueOk of the specification; both say the same. -/
namespace Go.Proofs.Ytofmimoklbkeoaa
open Go.RowKit
theorem Vo.deep_le (F : Vo) : F.deep ≤ F.size := by
  induction F with
  | nil => exact Nat.le_refl _
  | cons h a c kids next ih1 ih2 => show max (kids.deep + 1) next.deep ≤ kids.size + 1 + next.size; omega
set_option maxHeartbeats 1000000 in
theorem sValueSize_any (N : Nat) : ∀ (h : Hd) (a : Option Addr) (c : Nat) (F : Vo) (w : World), F.size < N → N ≤ 2000000 → F.In w a → F.len ≤ c → c ≤ maxLen →
    Calls Try.prog 8 #[valV h a F.len c] w fun e w' => e = .returned (.int .i64 (F.size + 1 : Nat)) ∧ Below w.heap.size w w' := by
  induction N with
  | zero => intro h a c F w hF; omega
  | succ N ih =>
    intro h a c F w hF hN hin hl hc
    unfold maxLen at hc
    have hll := F.len_le
    go_enter Try.func8, Try.ntmps8
    go_wp2_with fail
    go_loopw [3, 4] (fun o i wr => ∃ (j s : Nat) (G : Vo), i = .int .i64 j ∧ o = .int .i64 s ∧ j + G.len = F.len ∧ s + G.size = F.size + 1 ∧ 1 ≤ s ∧ (G = .nil ∨ ∃ b o', a = some ⟨b, o', none⟩ ∧ G.From wr b (o' + j * 6)) ∧ wr.cell? ⟨w.heap.size, 4, none⟩ = some (.slice a F.len c) ∧ Below w.heap.size w wr) (fun _ i _ => F.len - (intOf i).toNat)
    case atStart =>
      refine ⟨0, 1, F, rfl, rfl, by omega, by omega, Nat.le_refl _, ?_, by simp, (Below.refl _ _).alloc (Nat.le_refl _) _⟩
      rcases hin with h | ⟨b, o', e1, e2⟩
      · exact .inl h
      · exact .inr ⟨b, o', e1, by simpa using Vo.from_grow ((Below.refl _ w).alloc (Nat.le_refl _) _) F b o' e2⟩
    case round =>
      obtain ⟨j, s, G, rfl, rfl, hj, hs, hs1, hG, hcell, hb⟩ := hrel
      cases G with
      | nil =>
        have hj' : j = F.len := by simpa [Vo.len] using hj
        have hs' : s = F.size + 1 := by simpa [Vo.size] using hs
        subst hj' hs'
        clear hG hj hs
        go_wp2_with fail
        go_ret
        exact ⟨rfl, hb⟩
      | cons h' a' c' kids next =>
        rcases hG with hG | ⟨b, o', rfl, ⟨h1, h2, h3, h4, h5, h6⟩, hk, ⟨hc1, hc2⟩, _, hn⟩
        · cases hG
        · have hlt : (j : Int) < (F.len : Int) := by have : j + (next.len + 1) = F.len := hj; omega
          have hjl : j < F.len := by omega
          have hsz : s + (kids.size + 1 + next.size) = F.size + 1 := hs
          have hln : j + (next.len + 1) = F.len := hj
          clear hj hs hin
          go_wp2_with fail
          refine (ih h' a' c' kids wr (by omega) (by omega) hk hc1 hc2).mono ?_
          rintro e w1 ⟨rfl, hb1⟩
          have hn1 := Vo.from_grow hb1 next b _ hn
          have hz := hb.size
          have hlw := World.block_lt_of_cell? wr _ hcell
          have hcell1 : w1.cell? ⟨w.heap.size, 4, none⟩ = some (.slice (some ⟨b, o', none⟩) F.len c) := (hb1.cell (p := ⟨w.heap.size, 4, none⟩) hlw).trans hcell
          have hb2 := hb.trans (hb1.mono hz)
          clear h1 h2 h3 h4 h5 h6 hk hn hcell hb1 hb ih
          go_wp2_with fail
          go_round
          case rel =>
            refine ⟨j + 1, s + (kids.size + 1), next, by go_num, by go_num, by omega, by omega, by omega, .inr ⟨b, o', rfl, ?_⟩, hcell1, hb2⟩
            rw [show o' + (j + 1) * 6 = o' + j * 6 + 6 by omega]; exact hn1
          case measure => simp [intOf]; omega
set_option maxHeartbeats 1000000 in
theorem sDeepV_any (N : Nat) : ∀ (h : Hd) (a : Option Addr) (c : Nat) (F : Vo) (w : World), F.size < N → N ≤ 2000000 → F.In w a → F.len ≤ c → c ≤ maxLen →
    Calls Try.prog 46 #[valV h a F.len c] w fun e w' => e = .returned (.int .i64 (F.deep + 1 : Nat)) ∧ Below w.heap.size w w' := by
  induction N with
  | zero => intro h a c F w hF; omega
  | succ N ih =>
    intro h a c F w hF hN hin hl hc
    unfold maxLen at hc
    have hll := F.len_le
    have hdd := F.deep_le
    go_enter Try.func46, Try.ntmps46
    go_wp2_with fail
    go_loopw [3, 4] (fun o i wr => ∃ (j s : Nat) (G : Vo), i = .int .i64 j ∧ o = .int .i64 s ∧ j + G.len = F.len ∧ max s G.deep = F.deep ∧ G.size ≤ F.size ∧ (G = .nil ∨ ∃ b o', a = some ⟨b, o', none⟩ ∧ G.From wr b (o' + j * 6)) ∧ wr.cell? ⟨w.heap.size, 4, none⟩ = some (.slice a F.len c) ∧ Below w.heap.size w wr) (fun _ i _ => F.len - (intOf i).toNat)
    case atStart =>
      refine ⟨0, 0, F, rfl, rfl, by omega, by omega, Nat.le_refl _, ?_, by simp, (Below.refl _ _).alloc (Nat.le_refl _) _⟩
      rcases hin with h | ⟨b, o', e1, e2⟩
      · exact .inl h
      · exact .inr ⟨b, o', e1, by simpa using Vo.from_grow ((Below.refl _ w).alloc (Nat.le_refl _) _) F b o' e2⟩
    case round =>
      obtain ⟨j, s, G, rfl, rfl, hj, hs, hs1, hG, hcell, hb⟩ := hrel
      cases G with
      | nil =>
        have hj' : j = F.len := by simpa [Vo.len] using hj
        have hs' : s = F.deep := by simpa [Vo.deep] using hs
        subst hj' hs'
        clear hG hj hs
        go_wp2_with fail
        go_ret
        exact ⟨rfl, hb⟩
      | cons h' a' c' kids next =>
        rcases hG with hG | ⟨b, o', rfl, ⟨h1, h2, h3, h4, h5, h6⟩, hk, ⟨hc1, hc2⟩, _, hn⟩
        · cases hG
        · have hlt : (j : Int) < (F.len : Int) := by have : j + (next.len + 1) = F.len := hj; omega
          have hjl : j < F.len := by omega
          have hsz : kids.size + 1 + next.size ≤ F.size := hs1
          have hds : max s (max (kids.deep + 1) next.deep) = F.deep := hs
          have hln : j + (next.len + 1) = F.len := hj
          clear hj hs hin hs1
          go_wp2_with fail
          refine (ih h' a' c' kids wr (by omega) (by omega) hk hc1 hc2).mono ?_
          rintro e w1 ⟨rfl, hb1⟩
          have hn1 := Vo.from_grow hb1 next b _ hn
          have hz := hb.size
          have hlw := World.block_lt_of_cell? wr _ hcell
          have hcell1 : w1.cell? ⟨w.heap.size, 4, none⟩ = some (.slice (some ⟨b, o', none⟩) F.len c) := (hb1.cell (p := ⟨w.heap.size, 4, none⟩) hlw).trans hcell
          have hb2 := hb.trans (hb1.mono hz)
          have hkd : kids.deep + 1 ≤ F.deep := by omega
          clear h1 h2 h3 h4 h5 h6 hk hn hcell hb1 hb ih
          have HD : Hid (max s (max (kids.deep + 1) next.deep) = F.deep) := hds
          clear hds
          by_cases hd : s < kids.deep + 1
          · have hd' : (s : Int) < (kids.deep : Int) + 1 := by omega
            go_wp2_with fail
            go_round
            case rel =>
              refine ⟨j + 1, kids.deep + 1, next, by go_num, by go_num, by omega, ?_, by omega, .inr ⟨b, o', rfl, ?_⟩, hcell1, hb2⟩
              · have := HD.out; omega
              · rw [show o' + (j + 1) * 6 = o' + j * 6 + 6 by omega]; exact hn1
            case measure => simp [intOf]; omega
          · have hd' : ¬ (s : Int) < (kids.deep : Int) + 1 := by omega
            go_wp2_with fail
            go_round
            case rel =>
              refine ⟨j + 1, s, next, by go_num, by go_num, by omega, ?_, by omega, .inr ⟨b, o', rfl, ?_⟩, hcell1, hb2⟩
              · have := HD.out; omega
              · rw [show o' + (j + 1) * 6 = o' + j * 6 + 6 by omega]; exact hn1
            case measure => simp [intOf]; omega
/-- all in a list, and all in these, have just what their kinds have -/
def Vo.allOne : Vo → Prop
  | .nil => True
  | .cons h _ _ kids next => one h kids.len ∧ kids.allOne ∧ next.allOne
set_option maxRecDepth 100000 in
set_option maxHeartbeats 1000000 in
theorem l7All_any (N : Nat) : ∀ (h : Hd) (a : Option Addr) (c : Nat) (F : Vo) (w : World), F.size < N → N ≤ 2000000 → F.In w a → F.len ≤ c → c ≤ maxLen → h.In w →
    Calls Try.prog 47 #[valV h a F.len c] w fun r w' => SaysT (one h F.len ∧ F.allOne) r ∧ Below w.heap.size w w' := by
  induction N with
  | zero => intro h a c F w hF; omega
  | succ N ih =>
    intro h a c F w hF hN hin hl hc hh
    unfold maxLen at hc
    have hll := F.len_le
    have hB0 := (Below.refl _ w).alloc (Nat.le_refl _) (.cells #[.int .i64 h.k, .int .i64 h.m, .int .i64 h.e, .string h.t, .slice a F.len c, .slice h.na h.ns.length h.nc] 33)
    have R0 := Row.new w [.int .i64 h.k, .int .i64 h.m, .int .i64 h.e, .string h.t, .slice a F.len c, .slice h.na h.ns.length h.nc] 33
    have HO := fun W (hW : h.In W) => l7One_any h a F.len c W hW
    go_enter Try.func47, Try.ntmps47
    go_wp2_with fail
    refine (HO _ (hh.grow hB0)).mono ?_
    rintro r w1 ⟨⟨q, rfl, hq⟩, hb1⟩
    have hB1 := hB0.trans (hb1.mono hB0.size)
    have hcell0 := (R0.below hb1 R0.lt 4 _ rfl).1
    have HQ : Hid (q = true ↔ one h F.len) := hq
    clear hq R0 hB0 hb1 HO
    cases q
    · have HN : Hid (¬ (one h F.len ∧ F.allOne)) := fun x => by have := HQ.out.2 x.1; cases this
      clear ih hin
      go_wp2_with fail
      go_ret
      exact ⟨⟨false, rfl, fun h => (by cases h), fun h => absurd h HN.out⟩, hB1⟩
    · have HY : Hid (one h F.len) := HQ.out.1 rfl
      clear HQ
      go_wp2_with fail
      go_loopw [3] (fun i wr => ∃ (j : Nat) (G : Vo), i = .int .i64 j ∧ j + G.len = F.len ∧ (F.allOne ↔ G.allOne) ∧ G.size ≤ F.size ∧ (G = .nil ∨ ∃ b o', a = some ⟨b, o', none⟩ ∧ G.From wr b (o' + j * 6)) ∧ wr.cell? ⟨w.heap.size, 4, none⟩ = some (.slice a F.len c) ∧ Below w.heap.size w wr) (fun i _ => F.len - (intOf i).toNat)
      case atStart =>
        refine ⟨0, F, rfl, by omega, Iff.rfl, Nat.le_refl _, ?_, hcell0, hB1⟩
        rcases hin with h | ⟨b, o', e1, e2⟩
        · exact .inl h
        · exact .inr ⟨b, o', e1, by simpa using Vo.from_grow hB1 F b o' e2⟩
      case round =>
        obtain ⟨j, G, rfl, hj, hs, hs1, hG, hcell, hb⟩ := hrel
        have HA : Hid (F.allOne ↔ G.allOne) := hs
        clear hs hcell0
        cases G with
        | nil =>
          have hj' : j = F.len := by simpa [Vo.len] using hj
          have HR : Hid (one h F.len ∧ F.allOne) := ⟨HY.out, HA.out.2 trivial⟩
          subst hj'
          clear hG hj HA ih
          go_wp2_with fail
          go_ret
          exact ⟨⟨true, rfl, fun _ => HR.out, fun _ => rfl⟩, hb⟩
        | cons h' a' c' kids next =>
          rcases hG with hG | ⟨b, o', rfl, ⟨h1, h2, h3, h4, h5, h6⟩, hk, ⟨hc1, hc2⟩, hh', hn⟩
          · cases hG
          · have hln : j + (next.len + 1) = F.len := hj
            have hlt : (j : Int) < (F.len : Int) := by omega
            have hjl : j < F.len := by omega
            have hsz : kids.size + 1 + next.size ≤ F.size := hs1
            clear hj hs1 hin
            go_wp2_with fail
            refine (ih h' a' c' kids wr (by omega) (by omega) hk hc1 hc2 hh').mono ?_
            rintro r w2 ⟨⟨q, rfl, hq⟩, hb2⟩
            have HQ : Hid (q = true ↔ (one h' kids.len ∧ kids.allOne)) := hq
            have hn2 := Vo.from_grow hb2 next b _ hn
            have hcell2 : w2.cell? ⟨w.heap.size, 4, none⟩ = some (.slice (some ⟨b, o', none⟩) F.len c) := (hb2.cell (p := ⟨w.heap.size, 4, none⟩) (World.block_lt_of_cell? wr _ hcell)).trans hcell
            have hb3 := hb.trans (hb2.mono hb.size)
            clear h1 h2 h3 h4 h5 h6 hk hn hcell hb2 hb ih hq hh'
            cases q
            · have HN : Hid (¬ (one h F.len ∧ F.allOne)) := fun x => by
                have hx := HA.out.1 x.2
                have := HQ.out.2 ⟨hx.1, hx.2.1⟩
                cases this
              go_wp2_with fail
              go_ret
              exact ⟨⟨false, rfl, fun h => (by cases h), fun h => absurd h HN.out⟩, hb3⟩
            · have HA2 : Hid (F.allOne ↔ next.allOne) := HA.out.trans ⟨fun x => x.2.2, fun x => ⟨(HQ.out.1 rfl).1, (HQ.out.1 rfl).2, x⟩⟩
              clear HQ HA
              go_wp2_with fail
              go_round
              case rel =>
                refine ⟨j + 1, next, by go_num, by omega, HA2.out, by omega, .inr ⟨b, o', rfl, ?_⟩, hcell2, hb3⟩
                rw [show o' + (j + 1) * 6 = o' + j * 6 + 6 by omega]; exact hn2
              case measure => simp [intOf]; omega
/-- a value that is ok, as the specification has it -/
def ValOk (h : Hd) (F : Vo) : Prop := F.size + 1 ≤ 200 ∧ F.deep + 1 ≤ 20 ∧ one h F.len ∧ F.allOne
set_option maxRecDepth 100000 in
set_option maxHeartbeats 1000000 in
theorem sValueOk_any (h : Hd) (a : Option Addr) (c : Nat) (F : Vo) (w : World) (hF : F.size ≤ 1900000) (hin : F.In w a) (hl : F.len ≤ c) (hc : c ≤ maxLen) (hh : h.In w) :
    Calls Try.prog 29 #[valV h a F.len c] w fun r w' => SaysT (ValOk h F) r ∧ Below w.heap.size w w' := by
  have hdd := F.deep_le
  have hB0 := (Below.refl _ w).alloc (Nat.le_refl _) (.cells #[.int .i64 h.k, .int .i64 h.m, .int .i64 h.e, .string h.t, .slice a F.len c, .slice h.na h.ns.length h.nc] 33)
  have X0 := BxV.new w h (.slice a F.len c) 33
  have HI : Hid (∀ W, Below w.heap.size w W → F.In W a ∧ h.In W) := fun W h' => ⟨hin.grow h', hh.grow h'⟩
  clear hin hh
  go_enter Try.func29, Try.ntmps29
  go_wp2_with fail
  refine (sValueSize_any (F.size + 1) h a c F _ (Nat.lt_succ_self _) (by omega) (HI.out _ hB0).1 hl hc).mono ?_
  rintro r w1 ⟨rfl, hb1⟩
  have hB1 := hB0.trans (hb1.mono hB0.size)
  have X1 := X0.below hb1
  clear X0 hB0 hb1
  by_cases h1 : F.size + 1 ≤ 200
  · have h1' : (F.size : Int) + 1 ≤ 200 := by omega
    obtain ⟨x0, x1, x2, x3, x4, x5⟩ := id X1
    go_wp2_with fail
    refine (sDeepV_any (F.size + 1) h a c F _ (Nat.lt_succ_self _) (by omega) (HI.out _ hB1).1 hl hc).mono ?_
    rintro r w2 ⟨rfl, hb2⟩
    have hB2 := hB1.trans (hb2.mono hB1.size)
    have X2 := X1.below hb2
    clear X1 hB1 hb2 x0 x1 x2 x3 x4 x5
    by_cases h2 : F.deep + 1 ≤ 20
    · have h2' : (F.deep : Int) + 1 ≤ 20 := by omega
      obtain ⟨x0, x1, x2, x3, x4, x5⟩ := id X2
      go_wp2_with fail
      refine (l7All_any (F.size + 1) h a c F _ (Nat.lt_succ_self _) (by omega) (HI.out _ hB2).1 hl hc (HI.out _ hB2).2).mono ?_
      rintro r w3 ⟨⟨q, rfl, hq⟩, hb3⟩
      have hB3 := hB2.trans (hb3.mono hB2.size)
      have HQ : Hid (q = true ↔ ValOk h F) := hq.trans ⟨fun x => ⟨h1, h2, x.1, x.2⟩, fun x => ⟨x.2.2.1, x.2.2.2⟩⟩
      clear hq X2 x0 x1 x2 x3 x4 x5
      go_wp2_with fail
      go_ret
      exact ⟨⟨q, rfl, HQ.out⟩, hB3⟩
    · have h2' : ¬ (F.deep : Int) + 1 ≤ 20 := by omega
      have HN : Hid (¬ ValOk h F) := fun x => h2 x.2.1
      go_wp2_with fail
      go_ret
      exact ⟨⟨false, rfl, fun h => (by cases h), fun h => absurd h HN.out⟩, hB2⟩
  · have h1' : ¬ (F.size : Int) + 1 ≤ 200 := by omega
    have HN : Hid (¬ ValOk h F) := fun x => h1 x.1
    go_wp2_with fail
    go_ret
    exact ⟨⟨false, rfl, fun h => (by cases h), fun h => absurd h HN.out⟩, hB1⟩
theorem all_flat (B : Nat) : ∀ (F : Vo) (d : Nat), (∀ x ∈ F.flat d, x.1 ≤ B ∧ one x.2.1 x.2.2.len) ↔ ((F.deep = 0 ∨ d + F.deep ≤ B + 1) ∧ F.allOne) := by
  intro F
  induction F with
  | nil => intro d; exact ⟨fun _ => ⟨.inl rfl, trivial⟩, fun _ x hx => absurd hx List.not_mem_nil⟩
  | cons h a c kids next ih1 ih2 =>
    intro d
    have e : (Vo.cons h a c kids next).deep = max (kids.deep + 1) next.deep := rfl
    have i1 := ih1 (d + 1)
    have i2 := ih2 d
    constructor
    · intro hx
      have x0 := hx (d, h, kids) (List.mem_cons_self)
      have x1 := i1.1 fun x m => hx x (List.mem_cons_of_mem _ (List.mem_append_left _ m))
      have x2 := i2.1 fun x m => hx x (List.mem_cons_of_mem _ (List.mem_append_right _ m))
      refine ⟨.inr ?_, x0.2, x1.2, x2.2⟩
      have := x0.1
      rw [e]
      dsimp only at this
      omega
    · rintro ⟨hd, h1, h2, h3⟩ x hx
      rw [e] at hd
      rcases List.mem_cons.1 hx with rfl | hx
      · exact ⟨by show d ≤ B; omega, h1⟩
      · rcases List.mem_append.1 hx with hx | hx
        · exact i1.2 ⟨by omega, h2⟩ x hx
        · exact i2.2 ⟨by omega, h3⟩ x hx
/-- both say the same -/
theorem good_ok (h : Hd) (F : Vo) : ValGood h F ↔ ValOk h F := by
  unfold ValGood ValOk
  have hl : ((1, h, F) :: F.flat 2).length = F.size + 1 := by rw [List.length_cons, F.flat_len]
  rw [hl]
  have ha := all_flat 20 F 2
  constructor
  · rintro ⟨h1, h2⟩
    have x0 := h2 (1, h, F) List.mem_cons_self
    have x1 := ha.1 fun x m => h2 x (List.mem_cons_of_mem _ m)
    exact ⟨h1, by omega, x0.2, x1.2⟩
  · rintro ⟨h1, h2, h3, h4⟩
    refine ⟨h1, fun x hx => ?_⟩
    rcases List.mem_cons.1 hx with rfl | hx
    · exact ⟨by show 1 ≤ 20; omega, h3⟩
    · exact ha.2 ⟨by omega, h4⟩ x hx
theorem Vo.alike_deep : ∀ {G F : Vo}, F.alike G → F.deep = G.deep := by
  intro G
  induction G with
  | nil => intro F h; rw [Vo.alike_nil h]
  | cons h a c kids next ih1 ih2 =>
    intro F x
    obtain ⟨h', a', c', kids', next', rfl, _, h1, h2⟩ := Vo.alike_cons x
    show max (kids'.deep + 1) next'.deep = max (kids.deep + 1) next.deep
    rw [ih1 h1, ih2 h2]
theorem one_same {h g : Hd} (x : h.same g) (n : Nat) : one h n ↔ one g n := by
  obtain ⟨⟨e1, e2, e3, e4⟩, e5⟩ := x
  unfold one
  rw [e1, e2, e3, e4, e5]
theorem Vo.alike_one : ∀ {G F : Vo}, F.alike G → (F.allOne ↔ G.allOne) := by
  intro G
  induction G with
  | nil => intro F h; rw [Vo.alike_nil h]
  | cons h a c kids next ih1 ih2 =>
    intro F x
    obtain ⟨h', a', c', kids', next', rfl, h0, h1, h2⟩ := Vo.alike_cons x
    show (one h' kids'.len ∧ kids'.allOne ∧ next'.allOne) ↔ (one h kids.len ∧ kids.allOne ∧ next.allOne)
    rw [Vo.alike_len h1, one_same h0, ih1 h1, ih2 h2]
/-- a copy is ok just if what it was made of is -/
theorem ok_copy {h : Hd} {m : Nat} {F F1 : Vo} (x : F1.alike F) : ValOk (h.to m) F1 ↔ ValOk h F := by
  unfold ValOk
  rw [Vo.alike_size x, Vo.alike_deep x, Vo.alike_len x, one_same (h.to_same m), Vo.alike_one x]
end Go.Proofs.Ytofmimoklbkeoaa
/- How many values a value has and how deep it is, by the program. -/
namespace Go.Proofs.Ytofmimoklbkeoaa
open Go.RowKit Go.Shelf
attribute [local go_sem] Oper.semAt_some
/-- what the range keeps: N where its memory begins -/
structure EI (w : World) (N kd : Nat) (vs : List Value) (pre : List Li) (W : World) : Prop where
  res : Row W (kd + 1) [.int .i64 0, .int .i64 0]
  node : Row W kd vs
  box : W.cell? ⟨kd + 3, 0, none⟩ = some (.map (some (kd + 2)))
  map : plKeysV.Is W (kd + 2) (exts pre)
  oks : ∀ y ∈ pre, y.Ok w
  bel : Below w.heap.size w W
  sz : N ≤ W.heap.size
theorem EI.low {w : World} {N kd : Nat} {vs : List Value} (hw : w.heap.size ≤ kd) (hN : kd + 4 < N) : Low N (EI w N kd vs) := fun pre A A' h hb => by
  refine ⟨h.res.below hb (by omega), h.node.below hb (by omega), (hb.cell (p := ⟨kd + 3, 0, none⟩) (by show kd + 3 < N; omega)).trans h.box, h.map.grown _ (hb.block _ (by omega)), h.oks, h.bel.trans (hb.mono (by omega)), Nat.le_trans h.sz hb.size⟩
theorem Row.grownR {w w' : World} {b : Nat} {vs : List Value} {r : Option Nat} (h : Row w b vs) (hg : w.grownBy w' r) (hb : b < w.heap.size) (hn : some b ≠ r) : Row w' b vs := fun i v hi => by
  have hk := hg.block b hb hn
  have h1 := h i v hi
  refine ⟨(grown_cell hg i hb hn).trans h1.1, ?_⟩
  have h2 := h1.2
  unfold World.frozen? at h2 ⊢
  rw [hk]
  exact h2
theorem upTo_mono (F : Vo) {i j : Nat} (h : i ≤ j) : F.upTo i ≤ F.upTo j := by
  induction j with
  | zero => have : i = 0 := by omega
            subst this; exact Nat.le_refl _
  | succ j ih =>
    by_cases e : i = j + 1
    · subst e; exact Nat.le_refl _
    · have h1 := ih (by omega)
      have h2 : F.upTo (j + 1) = F.upTo j + ((F.kidsAt j).size + 1) := rfl
      omega
theorem upTo_le (F : Vo) {j : Nat} (h : j < F.len) : F.upTo (j + 1) ≤ F.size := by
  have h1 := upTo_mono F (i := j + 1) (j := F.len) h
  rw [upTo_lenV] at h1
  exact h1
theorem EI.low' {w : World} {N kd : Nat} {vs : List Value} {pre : List Li} {W W' : World} (h : EI w N kd vs pre W) (hb : Below W.heap.size W W') : W'.cell? ⟨kd + 3, 0, none⟩ = some (.map (some (kd + 2))) ∧ plKeysV.Is W' (kd + 2) (exts pre) ∧ Below w.heap.size w W' := by
  have h1 := World.block_lt_of_cell? _ _ h.box
  have h2 : kd + 2 < W.heap.size := by obtain ⟨es, clock, h, _⟩ := h.map; exact (Array.getElem?_eq_some_iff.1 h).1
  exact ⟨(hb.cell (p := ⟨kd + 3, 0, none⟩) h1).trans h.box, h.map.grown _ (hb.block _ h2), h.bel.trans (hb.mono h.bel.size)⟩
/-- a post that lets no panic through -/
def NoP (Q : Exit → Act → World → Prop) : Exit → Act → World → Prop := fun e a w => (∀ p, e ≠ .panic p) ∧ Q e a w
theorem wpIn_noP {P : Program} {c : Code} {F : Fence} {n : Nat} {Q : Exit → Act → World → Prop} {a : Act} {w : World} (h : c.wpIn F n P (NoP Q) a w) : c.wpIn F n P Q a w := wpIn_mono h (fun _ _ _ h => h.2)
theorem noP_hp {Q : Exit → Act → World → Prop} : ∀ p d v a w, NoP Q (.panic p) (Act.put a d v) w → NoP Q (.panic p) a w := fun p _ _ _ _ h => absurd rfl (h.1 p)
set_option maxRecDepth 100000 in
set_option maxHeartbeats 4000000 in
theorem extentOf_any (hd : Hd) (a : Option Addr) (F : Vo) (c : Nat) (w : World) (hok : Li.Ok w ⟨a, F, c⟩) :
    Calls Try.prog 25 #[valV hd a F.len c] w fun r w' => r = .returned (.agg #[.int .i64 (F.size + 1 : Nat), .int .i64 (F.deep + 1 : Nat)]) ∧ Below w.heap.size w w' := by
  have hmm : ∀ W, (Instr.makeMap 58 none).run Try.prog W = .ok (.map (some W.heap.size)) (W.alloc (.map #[] 0)) := fun W => run_makeMap _ _
  refine (callsIn_wide (n := 5)).1 ?_
  refine callsIn_of_wp_marks Try.func25 rfl trivial ?_ rfl
  simp only [Try.ntmps25, List.size_toArray, List.length_cons, List.length_nil, Nat.reduceAdd, Nat.reduceSub, Array.replicate_succ, Array.replicate_zero, List.push_toArray, List.append_toArray, List.nil_append, List.cons_append]
  gi_wp2_with fail
  refine ⟨trivial, (callsIn_wide.2 (listsOf_any hd a F.len c _)).mono ?_⟩
  rintro r W0' ⟨rfl, rfl⟩
  obtain ⟨A1, hA1⟩ : ∃ A1, w.alloc (.cells #[.int .i64 hd.k, .int .i64 hd.m, .int .i64 hd.e, .string hd.t, .slice a F.len c, .slice hd.na hd.ns.length hd.nc] 33) = A1 := ⟨_, rfl⟩
  have R1 : Row A1 w.heap.size [.int .i64 hd.k, .int .i64 hd.m, .int .i64 hd.e, .string hd.t, .slice a F.len c, .slice hd.na hd.ns.length hd.nc] := by rw [← hA1]; exact Row.new w [.int .i64 hd.k, .int .i64 hd.m, .int .i64 hd.e, .string hd.t, .slice a F.len c, .slice hd.na hd.ns.length hd.nc] 33
  have s1 : A1.heap.size = w.heap.size + 1 := by rw [← hA1]; simp
  have b1 : Below w.heap.size w A1 := by rw [← hA1]; exact (Below.refl _ w).alloc (Nat.le_refl _) _
  rw [hA1]
  clear hA1
  obtain ⟨A2, hA2⟩ : ∃ A2, A1.alloc (.cells #[.int .i64 0, .int .i64 0] 49) = A2 := ⟨_, rfl⟩
  have R2 : Row A2 A1.heap.size [.int .i64 0, .int .i64 0] := by rw [← hA2]; exact Row.new A1 [.int .i64 0, .int .i64 0] 49
  have s2 : A2.heap.size = A1.heap.size + 1 := by rw [← hA2]; simp
  have b2 : Below A1.heap.size A1 A2 := by rw [← hA2]; exact (Below.refl _ A1).alloc (Nat.le_refl _) _
  rw [hA2]
  clear hA2
  obtain ⟨A3, hA3⟩ : ∃ A3, A2.alloc (.map #[] 0) = A3 := ⟨_, rfl⟩
  have M3 : plKeysV.Has A3 A2.heap.size [] := by rw [← hA3]; exact plKeysV.has_new _ _ (heap_alloc_new _ _)
  have s3 : A3.heap.size = A2.heap.size + 1 := by rw [← hA3]; simp
  have b3 : Below A2.heap.size A2 A3 := by rw [← hA3]; exact (Below.refl _ A2).alloc (Nat.le_refl _) _
  rw [hA3]
  clear hA3
  obtain ⟨A4, hA4⟩ : ∃ A4, A3.alloc (.cells #[.map (some (w.heap.size + 1 + 1))] 58) = A4 := ⟨_, rfl⟩
  have R4 : Row A4 A3.heap.size [.map (some (w.heap.size + 1 + 1))] := by rw [← hA4]; exact Row.new A3 [.map (some (w.heap.size + 1 + 1))] 58
  have s4 : A4.heap.size = A3.heap.size + 1 := by rw [← hA4]; simp
  have b4 : Below A3.heap.size A3 A4 := by rw [← hA4]; exact (Below.refl _ A3).alloc (Nat.le_refl _) _
  rw [hA4]
  clear hA4
  obtain ⟨A5, hA5⟩ : ∃ A5, A4.alloc (.cells #[.int .i64 hd.k, .int .i64 hd.m, .int .i64 hd.e, .string hd.t, .slice a F.len c, .slice hd.na hd.ns.length hd.nc] 33) = A5 := ⟨_, rfl⟩
  have R5 : Row A5 A4.heap.size [.int .i64 hd.k, .int .i64 hd.m, .int .i64 hd.e, .string hd.t, .slice a F.len c, .slice hd.na hd.ns.length hd.nc] := by rw [← hA5]; exact Row.new A4 [.int .i64 hd.k, .int .i64 hd.m, .int .i64 hd.e, .string hd.t, .slice a F.len c, .slice hd.na hd.ns.length hd.nc] 33
  have s5 : A5.heap.size = A4.heap.size + 1 := by rw [← hA5]; simp
  have b5 : Below A4.heap.size A4 A5 := by rw [← hA5]; exact (Below.refl _ A4).alloc (Nat.le_refl _) _
  rw [hA5]
  clear hA5
  have b45 := b4.trans (b5.mono (by omega))
  have b35 := b3.trans (b45.mono (by omega))
  have b25 := b2.trans (b35.mono (by omega))
  have b15 := b1.trans (b25.mono (by omega))
  have E4 : A4.heap.size = w.heap.size + 4 := by omega
  have E3 : A3.heap.size = w.heap.size + 3 := by omega
  have E2 : A2.heap.size = w.heap.size + 2 := by omega
  rw [E4]
  have HEI : Hid (EI w A5.heap.size w.heap.size [.int .i64 hd.k, .int .i64 hd.m, .int .i64 hd.e, .string hd.t, .slice a F.len c, .slice hd.na hd.ns.length hd.nc] [] A5) := by
    refine ⟨?_, R1.below b25 (by omega), ?_, ?_, fun y hy => absurd hy List.not_mem_nil, b15, Nat.le_refl _⟩
    · have := R2.below b35 (by omega); rw [s1] at this; exact this
    · have := ((R4.below b5 (by omega)) 0 _ rfl).1; rw [E3] at this; exact this
    · have h1 := (has_below M3 (b45.mono (by omega))).is; rw [E2] at h1; exact h1
  have hsN : A5.heap.size = w.heap.size + 5 := by omega
  have HSq : Hid (SeqLow 4 Try.prog 71 #[.pointer (some ⟨w.heap.size + 4, 0, none⟩)] (fun x : Li => #[.slice x.a x.F.len x.c]) w.heap.size (Told w) (All w ⟨a, F, c⟩) A5) := by
    rw [E4] at R5
    exact lists_low w 4 (w.heap.size + 4) hd ⟨a, F, c⟩ A5 hok ⟨b15.size, b15.block⟩ (R5 0 _ rfl).1 (R5 1 _ rfl).1 (R5 2 _ rfl).1 (R5 3 _ rfl).1 (R5 4 _ rfl).1 (R5 5 _ rfl).1
  clear R1 R2 M3 R4 R5 b1 b2 b3 b4 b5 b45 b35 b25 b15 s1 s2 s3 s4 s5 E4 E3 E2
  gi_wp2_with fail
  refine wpIn_range_low (gf := 71) (lb := #[.pointer (some ⟨w.heap.size + 4, 0, none⟩)]) rfl (enters_of Try.func71 (by kernel_rfl) rfl) (n0 := w.heap.size) (by omega) HSq.out (fun _ => rfl) (EI w A5.heap.size w.heap.size [.int .i64 hd.k, .int .i64 hd.m, .int .i64 hd.e, .string hd.t, .slice a F.len c, .slice hd.na hd.ns.length hd.nc]) (EI.low (Nat.le_refl _) (by omega)) HEI.out (fun x => { tmps := #[valV hd a F.len c, .pointer (some ⟨w.heap.size, 0, none⟩), .pointer (some ⟨w.heap.size + 1, 0, none⟩), .pointer (some ⟨w.heap.size + 1 + 1 + 1, 0, none⟩), .slice x.a x.F.len x.c, undef, undef, undef, undef, undef, undef, .map (some (w.heap.size + 1 + 1)), .agg #[.int .i64 hd.k, .int .i64 hd.m, .int .i64 hd.e, .string hd.t, .slice a F.len c, .slice hd.na hd.ns.length hd.nc], .func (.func 71) #[] #[.pointer (some ⟨w.heap.size + 4, 0, none⟩)], .slice x.a x.F.len x.c, undef, undef, undef, undef, undef, undef, undef, undef, undef, undef, undef, undef, undef, undef, undef, undef, undef, undef, undef, undef, undef, undef, undef, undef, undef, undef, undef, undef, undef, undef, undef, undef, undef, undef, undef, undef, undef, undef, undef, undef, undef, undef, undef, undef, undef, undef, undef, undef, undef, undef], defers := [] }) ?assign ?body ?done
  case assign =>
    intro l x W K hK
    gi_wp2
    exact hK
  case body =>
    rintro l pre ⟨xa, xF, xc⟩ W ⟨res, node, box, map, oks, bel, sz⟩ ⟨hxok, hkids⟩ hz
    have hmeth := belowV_method
    have hxs : xF.size ≤ 1100000 := hxok.2.2.2
    have hxl : xF.len ≤ 2000000 := li_len hxok
    have HK : Hid (∀ i, i < xF.len → ∃ y ∈ pre, y.pl = (Li.kid ⟨xa, xF, xc⟩ i).pl) := hkids
    have HX : Hid (Li.Ok w ⟨xa, xF, xc⟩) := hxok
    have HOks : Hid (∀ y ∈ pre, y.Ok w) := oks
    have HEI' : Hid (EI w A5.heap.size w.heap.size [.int .i64 hd.k, .int .i64 hd.m, .int .i64 hd.e, .string hd.t, .slice a F.len c, .slice hd.na hd.ns.length hd.nc] pre W) := ⟨res, node, box, map, oks, bel, sz⟩
    have hWz : w.heap.size ≤ W.heap.size := bel.size
    clear hkids hxok oks res node box map bel
    dsimp only at hxl ⊢
    gi_wp2
    gi_loopw [17] (fun i wr => ∃ j : Nat, i = .int .i64 j ∧ j ≤ xF.len ∧ Row wr W.heap.size [.int .i64 (xF.upTo j : Nat), .int .i64 (xF.dpTo j : Nat)] ∧ Below W.heap.size W wr) (fun i _ => xF.len - (intOf i).toNat)
    case atStart => exact ⟨0, rfl, Nat.zero_le _, Row.new W [.int .i64 0, .int .i64 0] 49, (Below.refl _ W).alloc (Nat.le_refl _) _⟩
    case round =>
      obtain ⟨j, rfl, hj, hRow, hb⟩ := hrel
      by_cases hjn : j < xF.len
      · have hjl : (j : Int) < (xF.len : Int) := by omega
        obtain ⟨b, o, rfl, hFr⟩ := Vo.from_of_len HX.out.1 hjn
        have hwr : Below w.heap.size w wr := HEI'.out.bel.trans (hb.mono hWz)
        obtain ⟨⟨h1, h2, h3, h4, h5, h6⟩, _⟩ := Vo.from_at (Vo.from_grow hwr xF b o hFr) hjn
        have hko := Li.ok_kid HX.out hjn
        have hka := len_or' hko.1
        have hkl : (xF.kidsAt j).len ≤ 2000000 := li_len hko
        have hget := exts_get hko HOks.out (HK.out j hjn)
        have hup : xF.upTo (j + 1) ≤ xF.size := upTo_le xF hjn
        have hd := (xF.kidsAt j).deep_le
        have hks : (xF.kidsAt j).size ≤ 1100000 := hko.2.2.2
        obtain ⟨wq, hwq⟩ : ∃ wq, wr.alloc (.cells #[.int .i64 (xF.hdAt j).k, .int .i64 (xF.hdAt j).m, .int .i64 (xF.hdAt j).e, .string (xF.hdAt j).t, .slice (xF.addrAt j) (xF.kidsAt j).len (xF.capAt j), .slice (xF.hdAt j).na (xF.hdAt j).ns.length (xF.hdAt j).nc] 33) = wq := ⟨_, rfl⟩
        have RT : Row wq wr.heap.size [.int .i64 (xF.hdAt j).k, .int .i64 (xF.hdAt j).m, .int .i64 (xF.hdAt j).e, .string (xF.hdAt j).t, .slice (xF.addrAt j) (xF.kidsAt j).len (xF.capAt j), .slice (xF.hdAt j).na (xF.hdAt j).ns.length (xF.hdAt j).nc] := by rw [← hwq]; exact Row.new wr [.int .i64 (xF.hdAt j).k, .int .i64 (xF.hdAt j).m, .int .i64 (xF.hdAt j).e, .string (xF.hdAt j).t, .slice (xF.addrAt j) (xF.kidsAt j).len (xF.capAt j), .slice (xF.hdAt j).na (xF.hdAt j).ns.length (xF.hdAt j).nc] 33
        have hbq : Below wr.heap.size wr wq := by rw [← hwq]; exact (Below.refl _ wr).alloc (Nat.le_refl _) _
        have hbW : Below W.heap.size W wq := hb.trans (hbq.mono hb.size)
        have hAq := hRow.below hbq hRow.lt
        have hEq := HEI'.out.low' hbW
        clear hFr
        gi_wp2
        refine ex8 (kb := w.heap.size + 3) (mb := w.heap.size + 2) (L := exts pre) (p := (xF.kidsAt j).size) (q := (xF.kidsAt j).deep) (b := true) hEq.1 ⟨(RT 0 _ rfl).1, (RT 1 _ rfl).1, (RT 2 _ rfl).1, (RT 3 _ rfl).1, (RT 4 _ rfl).1, (RT 5 _ rfl).1⟩ hEq.2.1 (hko.2.1.below hEq.2.2) (fun q hq => (exts_keys HOks.out q hq).below hEq.2.2) hka hkl (by rw [show plOf (xF.addrAt j) (xF.kidsAt j).len = (Li.kid ⟨some ⟨b, o, none⟩, xF, xc⟩ j).pl from rfl, hget]; rfl) (by rw [show plOf (xF.addrAt j) (xF.kidsAt j).len = (Li.kid ⟨some ⟨b, o, none⟩, xF, xc⟩ j).pl from rfl, hget]; rfl) (fun _ d _ _ _ h => by cases d <;> exact h) ?_
        intro ws B v21 v22 v23 v24 v25 v26 v27 v28 v29 hB hbs hRs
        have hAs := hAq.below hbs hAq.lt
        have hbWs : Below W.heap.size W ws := hbW.trans (hbs.mono hbW.size)
        have hAB : ¬ B = W.heap.size := by have := hAq.lt; omega
        clear hAq hbW RT hbq hEq hget hka hwq h1 h2 h3 h4 h5 h6
        gi_wp2
        refine ex11 hAs hRs (fun _ d _ _ _ h => by cases d <;> exact h) ?_
        rintro _ w9 v33 v34 v35 v36 v37 v38 v39 hb9 rfl
        have hA9 := (hAs.below hb9 hAs.lt).set (i := 0) (by simp) (.int .i64 (upTo2 (xF.upTo j) (upTo2 (xF.kidsAt j).size 1) : Nat))
        have hR9 := (hRs.below hb9 hRs.lt).setOther hAB 0 (.int .i64 (upTo2 (xF.upTo j) (upTo2 (xF.kidsAt j).size 1) : Nat))
        have hb9W : Below W.heap.size W (w9.setCell ⟨W.heap.size, 0, none⟩ (.int .i64 (upTo2 (xF.upTo j) (upTo2 (xF.kidsAt j).size 1) : Nat))) := (hbWs.trans (hb9.mono hbWs.size)).setCell (p := ⟨W.heap.size, 0, none⟩) (Nat.le_refl _) _
        generalize w9.setCell ⟨W.heap.size, 0, none⟩ (.int .i64 (upTo2 (xF.upTo j) (upTo2 (xF.kidsAt j).size 1) : Nat)) = wa at *
        clear hb9 hAs hRs hbWs
        gi_wp2
        refine ex12 hA9 hR9 (fun _ d _ _ _ h => by cases d <;> exact h) ?_
        rintro _ w10 v40 v41 v42 v43 v44 v45 v46 hb10 rfl
        have hA10 := (hA9.below hb10 hA9.lt).set (i := 1) (by simp) (.int .i64 (max (xF.dpTo j) (upTo2 (xF.kidsAt j).deep 1) : Nat))
        have hb10W : Below W.heap.size W (w10.setCell ⟨W.heap.size, 1, none⟩ (.int .i64 (max (xF.dpTo j) (upTo2 (xF.kidsAt j).deep 1) : Nat))) := (hb9W.trans (hb10.mono hb9W.size)).setCell (p := ⟨W.heap.size, 1, none⟩) (Nat.le_refl _) _
        generalize w10.setCell ⟨W.heap.size, 1, none⟩ (.int .i64 (max (xF.dpTo j) (upTo2 (xF.kidsAt j).deep 1) : Nat)) = wb at *
        have e1 : upTo2 (xF.upTo j) (upTo2 (xF.kidsAt j).size 1) = xF.upTo (j + 1) := by
          have h2 : xF.upTo (j + 1) = xF.upTo j + ((xF.kidsAt j).size + 1) := rfl
          rw [upTo2_small (x := (xF.kidsAt j).size) (by omega), upTo2_small (by omega)]; omega
        have e2 : max (xF.dpTo j) (upTo2 (xF.kidsAt j).deep 1) = xF.dpTo (j + 1) := by
          rw [upTo2_small (x := (xF.kidsAt j).deep) (by omega)]; rfl
        have HRn : Hid (Row wb W.heap.size [.int .i64 (xF.upTo (j + 1) : Nat), .int .i64 (xF.dpTo (j + 1) : Nat)]) := by rw [← e1, ← e2]; exact hA10
        clear hA10 hA9 hR9 hb10 hb9W e1 e2
        gi_wp2
        go_roundw
        case rel =>
          (repeat apply Exists.intro)
          refine ⟨⟨j + 1, ?_, by omega, HRn.out, hb10W⟩, rfl⟩
          go_num
        case measure => simp [intOf]; omega
      · have ej : j = xF.len := by omega
        subst ej
        have hjl : ¬ (xF.len : Int) < (xF.len : Int) := by omega
        gi_wp2
        rw [upTo_lenV, dpTo_len] at hRow
        have hEq := HEI'.out.low' hb
        refine ex14 (kb := w.heap.size + 3) (mb := w.heap.size + 2) (A := W.heap.size) (x := xF.size) (y := xF.deep) (L := exts pre) ⟨hEq.1, (hRow 0 _ rfl).1, (hRow 1 _ rfl).1⟩ hEq.2.1 (HX.out.2.1.below hEq.2.2) (fun q hq => (exts_keys HOks.out q hq).below hEq.2.2) (len_or' HX.out.1) hxl (by omega) (by omega) (fun _ d _ _ _ h => by cases d <;> exact h) ?_
        intro ws v48 v49 v50 v51 hmS hgr
        have hN : EI w A5.heap.size w.heap.size [.int .i64 hd.k, .int .i64 hd.m, .int .i64 hd.e, .string hd.t, .slice a F.len c, .slice hd.na hd.ns.length hd.nc] (pre ++ [⟨xa, xF, xc⟩]) ws := by
          have hR := HEI'.out.res
          have hNd := HEI'.out.node
          have hBx := World.block_lt_of_cell? _ _ HEI'.out.box
          have hzz := hb.size
          refine ⟨(hR.below hb hR.lt).grownR hgr (by have := hR.lt; omega) (fun e => by have := Option.some.inj e; omega), (hNd.below hb hNd.lt).grownR hgr (by have := hNd.lt; omega) (fun e => by have := Option.some.inj e; omega), (grown_cell hgr 0 (by have : w.heap.size + 3 < W.heap.size := hBx; omega) (fun e => by have := Option.some.inj e; omega)).trans hEq.1, ?_, ?_, hEq.2.2.grown hgr (by have := hEq.2.2.size; omega) (fun k hk => by have := Option.some.inj hk; omega), Nat.le_trans HEI'.out.sz (Nat.le_trans hzz hgr.size)⟩
          · rw [exts_snoc]; exact hmS
          · intro y hy
            rcases List.mem_append.1 hy with hy | hy
            · exact HOks.out y hy
            · rw [List.mem_singleton] at hy; subst hy; exact HX.out
        have hKp : Keeps2 w.heap.size A5.heap.size W ws := ⟨Nat.le_trans hb.size hgr.size, fun i hi hil => (hgr.block i (by have := hb.size; omega) (fun e => by have := Option.some.inj e; omega)).trans (hb.block i hil)⟩
        rw [hsN] at hN hKp
        gi_wp2
  case done =>
    rintro xs W ⟨hoks, hall⟩ ⟨res, node, box, map, oks, bel, sz⟩ hD
    have hget := exts_get hok oks hall
    gi_wp2
    refine wpIn_noP (wpIn_wide.2 (ex15 (kb := w.heap.size + 3) (mb := w.heap.size + 2) (tb := w.heap.size) (L := exts xs) (p := F.size) (q := F.deep) box ⟨(node 0 _ rfl).1, (node 1 _ rfl).1, (node 2 _ rfl).1, (node 3 _ rfl).1, (node 4 _ rfl).1, (node 5 _ rfl).1⟩ map (hok.2.1.below bel) (fun q hq => (exts_keys oks q hq).below bel) (len_or' hok.1) (li_len hok) (by rw [show plOf a F.len = Li.pl ⟨a, F, c⟩ from rfl, hget]; rfl) noP_hp ?_))
    intro ws B v52 v53 v54 v55 v56 v57 hB hbs hRs
    refine ⟨fun _ e => (by cases e), ?_⟩
    have hr2 := res.below hbs res.lt
    have hrl := res.lt
    gi_wp2
    refine wpIn_noP (wpIn_wide.2 (ex16 (R := w.heap.size + 1) hRs hr2 (by omega) noP_hp ?_))
    intro w6 v58 v59 v60 v61 v62 v63 v64 hR6 hg6
    refine ⟨fun _ e => (by cases e), ?_⟩
    gi_wp2
    have hz6 := hg6.size
    have hBl := hRs.lt
    have hK6 : w6.heap[A5.heap.size]? = some (.deferred (some [])) := (hg6.block _ (by have := (Array.getElem?_eq_some_iff.1 hD).1; have := hbs.size; omega) (fun e => by have := Option.some.inj e; omega)).trans ((hbs.block _ (Array.getElem?_eq_some_iff.1 hD).1).trans hD)
    refine ⟨by simp, .inl ⟨_, _, rfl, run_takeDeferred hK6, ?_⟩⟩
    have c0 := cell_kept (hR6 0 _ rfl).1 (grownBy_putObj' _ A5.heap.size (.deferred none)) (fun r e => by cases e; exact ⟨_, hK6, rfl⟩)
    have c1 := cell_kept (hR6 1 _ rfl).1 (grownBy_putObj' _ A5.heap.size (.deferred none)) (fun r e => by cases e; exact ⟨_, hK6, rfl⟩)
    have hsz : F.size ≤ 1100000 := hok.2.2.2
    have hdp := F.deep_le
    have hB6 : Below w.heap.size w w6 := (bel.trans (hbs.mono bel.size)).grown hg6 (by have := bel.size; have := hbs.size; omega) (fun k hk => by have := Option.some.inj hk; omega)
    refine ⟨.agg #[.int .i64 (F.size + 1 : Nat), .int .i64 (F.deep + 1 : Nat)], ?_, rfl, hB6.trans (belowK_b (w := w) (Nat.le_refl _) w6 A5.heap.size _ _ (by omega) hK6 rfl rfl)⟩
    rw [upTo2_small (by omega)] at c0 c1
    simp [results, Try.results25, go_sem, c0, c1]
end Go.Proofs.Ytofmimoklbkeoaa
/- How many values a value has: ValueSize of the program. -/
namespace Go.Proofs.Ytofmimoklbkeoaa
open Go.RowKit
theorem Li.Ok.belowW {w w' : World} {x : Li} (h : x.Ok w) (hb : Below w.heap.size w w') : x.Ok w' := ⟨h.1.grow hb, h.2.1.below hb, h.2.2.1.below hb, h.2.2.2⟩
set_option maxRecDepth 100000 in
set_option maxHeartbeats 1000000 in
theorem iValueSize_any (hd : Hd) (a : Option Addr) (F : Vo) (c : Nat) (w : World) (hok : Li.Ok w ⟨a, F, c⟩) :
    Calls Try.prog 10 #[valV hd a F.len c] w fun r w' => r = .returned (.int .i64 (F.size + 1 : Nat)) ∧ Below w.heap.size w w' := by
  have hB0 := (Below.refl _ w).alloc (Nat.le_refl _) (.cells #[.int .i64 hd.k, .int .i64 hd.m, .int .i64 hd.e, .string hd.t, .slice a F.len c, .slice hd.na hd.ns.length hd.nc] 33)
  have hfld : ∀ (x y : Int) (W : World), (Instr.field 49 (.agg #[.int .i64 x, .int .i64 y]) 0).run Try.prog W = .ok (.int .i64 x) W := fun x y W => by kernel_rfl
  go_enter Try.func10, Try.ntmps10
  go_wp2_with fail
  refine (extentOf_any hd a F c _ (hok.belowW hB0)).mono ?_
  rintro r w1 ⟨rfl, hb1⟩
  have hB1 := hB0.trans (hb1.mono hB0.size)
  clear hb1 hB0 hok
  go_wp2_with fail
  go_ret
  exact ⟨rfl, hB1⟩
end Go.Proofs.Ytofmimoklbkeoaa
/- Trees: what is read as a tree, or as a list of trees, is one: the argument of a law opened. -/
namespace Go.Proofs.Ytofmimoklbkeoaa
open Go.RowKit Go.Deep Go.ChangeShapes Go.WideShapes
/-- all heads in it are such -/
def Fo.All (P : Int → ByteArray → Int → Int → Prop) : Fo → Prop
  | .nil => True
  | .cons k t m e _ _ kids next => P k t m e ∧ kids.All P ∧ next.All P
abbrev I64 (n : Int) : Prop := (Lit.int .i64 n).wf = true
/-- numbers that are numbers, texts that are no longer than texts can be -/
abbrev HeadOk (k : Int) (t : ByteArray) (m e : Int) : Prop := I64 k ∧ t.size ≤ maxLen ∧ I64 m ∧ I64 e
section
variable {H : Type} {enc : TypeId × Value → H} {W : World} {base : Nat} {spare : Nat → Bool} {held : Bool}
theorem cellsDec : Try.prog.cellsOf 23 = 2 := by kernel_rfl
theorem cellsInt : Try.prog.cellsOf 3 = 1 := by kernel_rfl
theorem cellsStr : Try.prog.cellsOf 9 = 1 := by kernel_rfl
theorem list5 {α : Type} {cs : List α} (h : cs.length = 5) : ∃ c0 c1 c2 c3 c4, cs = [c0, c1, c2, c3, c4] := by
  match cs, h with
  | [c0, c1, c2, c3, c4], _ => exact ⟨c0, c1, c2, c3, c4, rfl⟩
theorem list4 {α : Type} {cs : List α} (h : cs.length = 4) : ∃ c0 c1 c2 c3, cs = [c0, c1, c2, c3] := by
  match cs, h with
  | [c0, c1, c2, c3], _ => exact ⟨c0, c1, c2, c3, rfl⟩
theorem list2 {α : Type} {cs : List α} (h : cs.length = 2) : ∃ c0 c1, cs = [c0, c1] := by
  match cs, h with
  | [c0, c1], _ => exact ⟨c0, c1, rfl⟩
theorem open_dec {fuel : Nat} {cs : List Value} {x : DataW H × List MemPlace} (h : DataW.trod enc Try.prog W base spare held fuel 23 cs = some x) :
    ∃ (m e : Int), cs = [.int .i64 m, .int .i64 e] ∧ I64 m ∧ I64 e := by
  obtain ⟨xs, n, rfl, _, hl, hxs, hf⟩ := DataW.trod_struct Try.underlying23 h
  rw [cellsDec] at hl
  obtain ⟨c0, c1, rfl⟩ := list2 hl
  obtain ⟨y0, y1, rfl⟩ := list2 (show xs.length = 2 from hxs)
  have h0 := hf 0 _ rfl
  have h1 := hf 1 _ rfl
  simp [cellsInt] at h0 h1
  obtain ⟨m, e0, _, w0⟩ := DataW.trod_int Try.underlying3 h0
  obtain ⟨e, e1, _, w1⟩ := DataW.trod_int Try.underlying3 h1
  simp at e0 e1
  subst e0 e1
  exact ⟨m, e, rfl, w0, w1⟩
theorem add_none (b o i : Nat) : Addr.add ⟨b, o, none⟩ i = ⟨b, o + i, none⟩ := by
  by_cases hi0 : i = 0
  · subst hi0; simp [Addr.add]
  · simp [Addr.add, hi0]
end
end Go.Proofs.Ytofmimoklbkeoaa
/- Values: what is read as a value, or as a list of values, is one: the argument of a law opened. -/
namespace Go.Proofs.Ytofmimoklbkeoaa
open Go.RowKit Go.Deep Go.ChangeShapes Go.WideShapes
section
variable {H : Type} {enc : TypeId × Value → H} {W : World} {base : Nat} {spare : Nat → Bool} {held : Bool}
theorem cellsV : Try.prog.cellsOf 27 = 6 := by kernel_rfl
theorem cellsVs : Try.prog.cellsOf 24 = 1 := by kernel_rfl
theorem cellsSs : Try.prog.cellsOf 25 = 1 := by kernel_rfl
theorem list6 {α : Type} {cs : List α} (h : cs.length = 6) : ∃ c0 c1 c2 c3 c4 c5, cs = [c0, c1, c2, c3, c4, c5] := by
  match cs, h with
  | [c0, c1, c2, c3, c4, c5], _ => exact ⟨c0, c1, c2, c3, c4, c5, rfl⟩
theorem list5' {α : Type} {cs : List α} (h : cs.length = 5) : ∃ c0 c1 c2 c3 c4, cs = [c0, c1, c2, c3, c4] := by
  match cs, h with
  | [c0, c1, c2, c3, c4], _ => exact ⟨c0, c1, c2, c3, c4, rfl⟩
theorem open_strs {fuel : Nat} {cs : List Value} {x : DataW H × List MemPlace} (h : DataW.trod enc Try.prog W base spare held fuel 25 cs = some x) :
    ∃ (a : Option Addr) (ss : List ByteArray) (cap : Nat), cs = [.slice a ss.length cap] ∧ SIn W ss a ∧ ss.length ≤ cap ∧ cap ≤ maxLen := by
  rcases DataW.trod_slice Try.underlying25 h with ⟨rfl, _⟩ | ⟨a, len, cap, elems, rest, n, rfl, rfl, _, _, hl, hm, hlen, hel, _⟩
  · exact ⟨none, [], 0, rfl, .inl rfl, Nat.le_refl _, by unfold maxLen; omega⟩
  rw [cellsStr] at hel
  have key : ∀ i, i < len → ∃ t : ByteArray, t.size ≤ maxLen ∧ W.cell? (a.add i) = some (.string t) := by
    intro i hi
    have he := hel i hi
    rw [List.getElem?_eq_getElem (by omega)] at he
    obtain ⟨cs', h1, h2⟩ := Option.bind_eq_some_iff.1 he
    obtain ⟨t, e1, _, w1⟩ := DataW.trod_string Try.underlying9 h2
    subst e1
    obtain ⟨_, _, hc⟩ := World.cells?_some h1
    have h3 := hc 0 (by omega)
    refine ⟨t, w1, ?_⟩
    rw [add_add, Nat.mul_one, Nat.add_zero] at h3
    exact h3
  by_cases h0 : len = 0
  · subst h0
    exact ⟨some a, [], cap, rfl, .inl rfl, Nat.zero_le _, hm⟩
  obtain ⟨b, o, spot⟩ := a
  have hspot : spot = none := by
    obtain ⟨t, _, hc⟩ := key 0 (by omega)
    have := World.cell?_spot hc
    simpa [Addr.add] using this
  subst hspot
  have all : ∀ d i, i + d = len → ∃ ss : List ByteArray, ss.length = d ∧ SFrom W ss b (o + i) := by
    intro d
    induction d with
    | zero => intro i _; exact ⟨[], rfl, trivial⟩
    | succ d ihd =>
      intro i hi
      obtain ⟨t, h1, hc⟩ := key i (by omega)
      obtain ⟨ss, hs1, hs2⟩ := ihd (i + 1) (by omega)
      rw [add_none] at hc
      exact ⟨t :: ss, by rw [List.length_cons, hs1], hc, h1, by rw [show o + i + 1 = o + (i + 1) by omega]; exact hs2⟩
  obtain ⟨ss, hs1, hs2⟩ := all len 0 (by omega)
  subst hs1
  exact ⟨some ⟨b, o, none⟩, ss, cap, rfl, .inr ⟨b, o, rfl, by simpa using hs2⟩, hl, hm⟩
theorem open_val {fuel : Nat} {cs : List Value} {x : DataW H × List MemPlace} (h : DataW.trod enc Try.prog W base spare held fuel 27 cs = some x) :
    ∃ (hd : Hd) (v : Value) (y : DataW H × List MemPlace) (n : Nat), fuel = n + 1 ∧ cs = [.int .i64 hd.k, .int .i64 hd.m, .int .i64 hd.e, .string hd.t, v, .slice hd.na hd.ns.length hd.nc] ∧ hd.In W ∧
      DataW.trod enc Try.prog W base spare held n 24 [v] = some y := by
  obtain ⟨xs, n, rfl, _, hl, hxs, hf⟩ := DataW.trod_struct Try.underlying27 h
  rw [cellsV] at hl
  obtain ⟨c0, c1, c2, c3, c4, c5, rfl⟩ := list6 hl
  obtain ⟨y0, y1, y2, y3, y4, rfl⟩ := list5' (show xs.length = 5 from hxs)
  have h0 := hf 0 _ rfl
  have h1 := hf 1 _ rfl
  have h2 := hf 2 _ rfl
  have h3 := hf 3 _ rfl
  have h4 := hf 4 _ rfl
  simp [cellsInt, cellsStr, cellsDec, cellsVs, cellsSs] at h0 h1 h2 h3 h4
  obtain ⟨k, e0, _, w0⟩ := DataW.trod_int Try.underlying3 h0
  obtain ⟨m, e, e2, w2, w3⟩ := open_dec h1
  obtain ⟨t, e1, _, w1⟩ := DataW.trod_string Try.underlying9 h2
  obtain ⟨na, ns, nc, e4, i1, i2, i3⟩ := open_strs h4
  simp at e0 e1 e2 e4
  obtain ⟨rfl, rfl⟩ := e2
  subst e0 e1 e4
  exact ⟨⟨k, m, e, t, na, nc, ns⟩, c4, y3, n, rfl, rfl, ⟨i1, ⟨i2, i3⟩, w1⟩, h3⟩
theorem open_vals : ∀ (fuel : Nat) (cs : List Value) (x : DataW H × List MemPlace), DataW.trod enc Try.prog W base spare held fuel 24 cs = some x →
    ∃ (a : Option Addr) (F : Vo) (cap : Nat), cs = [.slice a F.len cap] ∧ F.In W a ∧ F.len ≤ cap ∧ cap ≤ maxLen := by
  intro fuel
  induction fuel using Nat.strongRecOn with
  | _ fuel ih =>
    intro cs x h
    rcases DataW.trod_slice Try.underlying24 h with ⟨rfl, _⟩ | ⟨a, len, cap, elems, rest, n, rfl, rfl, _, _, hl, hm, hlen, hel, _⟩
    · exact ⟨none, .nil, 0, rfl, .inl rfl, Nat.le_refl _, by unfold maxLen; omega⟩
    rw [cellsV] at hel
    have key : ∀ i, i < len → ∃ (hd : Hd) (a' : Option Addr) (F' : Vo) (c' : Nat), hd.In W ∧ F'.In W a' ∧ F'.len ≤ c' ∧ c' ≤ maxLen ∧
        (∀ j, j < 6 → W.cell? (a.add (i * 6 + j)) = ([.int .i64 hd.k, .int .i64 hd.m, .int .i64 hd.e, .string hd.t, .slice a' F'.len c', .slice hd.na hd.ns.length hd.nc] : List Value)[j]?) := by
      intro i hi
      have he := hel i hi
      rw [List.getElem?_eq_getElem (by omega)] at he
      obtain ⟨cs', h1, h2⟩ := Option.bind_eq_some_iff.1 he
      obtain ⟨hd, v, y, n', rfl, rfl, hh, h3⟩ := open_val h2
      obtain ⟨a', F', c', hv, hin, hc1, hc2⟩ := ih n' (by omega) _ _ h3
      simp at hv
      subst hv
      obtain ⟨_, _, hc⟩ := World.cells?_some h1
      refine ⟨hd, a', F', c', hh, hin, hc1, hc2, fun j hj => ?_⟩
      rw [← add_add]
      exact hc j hj
    by_cases h0 : len = 0
    · subst h0
      exact ⟨some a, .nil, cap, rfl, .inl rfl, Nat.zero_le _, hm⟩
    obtain ⟨b, o, spot⟩ := a
    have hspot : spot = none := by
      obtain ⟨hd, a', F', c', _, _, _, _, hc⟩ := key 0 (by omega)
      have := World.cell?_spot (hc 0 (by omega))
      simpa [Addr.add] using this
    subst hspot
    have all : ∀ d i, i + d = len → ∃ G : Vo, G.len = d ∧ G.From W b (o + i * 6) := by
      intro d
      induction d with
      | zero => intro i _; exact ⟨.nil, rfl, trivial⟩
      | succ d ihd =>
        intro i hi
        obtain ⟨hd, a', F', c', hh, hin, hc1, hc2, hc⟩ := key i (by omega)
        obtain ⟨G, hG1, hG2⟩ := ihd (i + 1) (by omega)
        have c0 := hc 0 (by omega)
        have c1 := hc 1 (by omega)
        have c2 := hc 2 (by omega)
        have c3 := hc 3 (by omega)
        have c4 := hc 4 (by omega)
        have c5 := hc 5 (by omega)
        simp only [add_none] at c0 c1 c2 c3 c4 c5
        refine ⟨.cons hd a' c' F' G, by show G.len + 1 = d + 1; omega, ⟨c0, c1, c2, c3, c4, c5⟩, hin, ⟨hc1, hc2⟩, hh, ?_⟩
        rw [show o + i * 6 + 6 = o + (i + 1) * 6 by omega]; exact hG2
    obtain ⟨F, hF1, hF2⟩ := all len 0 (by omega)
    subst hF1
    refine ⟨some ⟨b, o, none⟩, F, cap, rfl, .inr ⟨b, o, rfl, by simpa using hF2⟩, hl, hm⟩
set_option maxRecDepth 100000 in
/-- a value that comes in, opened -/
theorem open_value {r : Reach} {b0 : Nat} {v : Value} {d : DataW H} {p : List MemPlace} (hv : Value.okWide Try.prog W r b0 27 v) (h : DataW.Trod enc Try.prog W base spare held 27 v d p) :
    ∃ (hd : Hd) (a : Option Addr) (F : Vo) (c : Nat), v = valV hd a F.len c ∧ hd.In W ∧ F.In W a ∧ F.len ≤ c ∧ c ≤ maxLen := by
  obtain ⟨cs, rfl, _⟩ := okWide_struct Try.underlying27 hv
  obtain ⟨fuel, hf⟩ := h
  obtain ⟨hd, v, y, n, rfl, hc, hh, h3⟩ := open_val hf
  obtain ⟨a, F, c, hv, hin, hc1, hc2⟩ := open_vals n _ _ h3
  simp at hv
  subst hv
  have : cs = #[.int .i64 hd.k, .int .i64 hd.m, .int .i64 hd.e, .string hd.t, .slice a F.len c, .slice hd.na hd.ns.length hd.nc] := by
    cases cs
    simpa [Value.cells] using hc
  subst this
  exact ⟨hd, a, F, c, rfl, hh, hin, hc1, hc2⟩
end
end Go.Proofs.Ytofmimoklbkeoaa
/- The law FnExactValueSize walked. -/
namespace Go.Proofs.Ytofmimoklbkeoaa
open Go.RowKit
set_option maxRecDepth 100000 in
set_option maxHeartbeats 1000000 in
theorem vz10 {Q : Exit → Act → World → Prop} {t0 t2 t3 t4 t6 t7 t8 t9 t10 t11 t12 t13 t14 t15 t16 t17 t18 t19 t20 t21 t22 t23 t24 t25 t26 : Value} {W : World} {b bx nb n2 : Nat} {F2 : Vo} {hd : Hd} {a : Option Addr} {F : Vo} {c : Nat}
    (hA : BxV b hd (.slice a F.len c) W) (hX : BxV bx (hd.to n2) (.slice (some ⟨nb, 0, none⟩) F2.len F2.len) W) (hin : F.In W a) (hF2 : F2.From W nb 0) (hi2 : (hd.to n2).In W) (ha : F2.alike F) (hl : F.len ≤ c) (hc : c ≤ maxLen) (hh : hd.In W) (hs : F.wt ≤ 1048576) (hsn : hd.ns.length ≤ 1048576)
    (hp : ∀ p d v a w, Q (.panic p) (Act.put a d v) w → Q (.panic p) a w) (h : ∀ ws v22 v23 v24 v25, Below W.heap.size W ws → Q .normal { tmps := (t0 :: .pointer (some ⟨b, 0, none⟩) :: t2 :: t3 :: t4 :: .pointer (some ⟨bx, 0, none⟩) :: t6 :: t7 :: t8 :: t9 :: t10 :: t11 :: t12 :: t13 :: t14 :: t15 :: t16 :: t17 :: t18 :: t19 :: t20 :: t21 :: v22 :: v23 :: v24 :: v25 :: .bool false :: []).toArray, defers := [] } ws) :
    Code.wp Try.prog (Code.region 10 #[{ dst := some 22, op := Op.load 33 (Operand.tmp 5), type := 33, pos := "exact.go:1912", after := #[], guard := none }, { dst := some 23, op := Op.load 27 (Operand.tmp 1), type := 27, pos := "exact.go:1912", after := #[], guard := none }, { dst := some 24, op := Op.call { callee := Callee.value (Operand.func 9), args := #[Operand.tmp 23], argTypes := #[27] }, type := 33, pos := "exact.go:1912", after := #[{ on := 1, ground := Ground.data }], guard := none }, { dst := some 25, op := Op.call { callee := Callee.value (Operand.func 11), args := #[Operand.tmp 22, Operand.tmp 24], argTypes := #[33, 33] }, type := 4, pos := "exact.go:1912", after := #[{ on := 0, ground := Ground.data }, { on := 2, ground := Ground.data }, { on := 2, ground := Ground.chain }], guard := none }, { dst := some 26, op := Op.unOp UnOp.not 4 (Operand.tmp 25), type := 4, pos := "exact.go:1912", after := #[{ on := 3, ground := Ground.data }], guard := none }] true) Q { tmps := (t0 :: .pointer (some ⟨b, 0, none⟩) :: t2 :: t3 :: t4 :: .pointer (some ⟨bx, 0, none⟩) :: t6 :: t7 :: t8 :: t9 :: t10 :: t11 :: t12 :: t13 :: t14 :: t15 :: t16 :: t17 :: t18 :: t19 :: t20 :: t21 :: t22 :: t23 :: t24 :: t25 :: t26 :: []).toArray, defers := [] } W := by
  have HSof : Hid (∀ w', Below W.heap.size W w' → (BxV b hd (.slice a F.len c) w' ∧ BxV bx (hd.to n2) (.slice (some ⟨nb, 0, none⟩) F2.len F2.len) w')) := fun w' h => ⟨hA.below h, hX.below h⟩
  have HI : Hid (∀ w', Below W.heap.size W w' → (F.In w' a ∧ F2.From w' nb 0) ∧ hd.In w' ∧ (hd.to n2).In w') := fun w' h => ⟨⟨hin.grow h, Vo.from_grow h F2 _ _ hF2⟩, hh.grow h, hi2.grow h⟩
  have hS0 := HSof.out _ ((Below.refl _ W).drew)
  clear hA hX hin hF2
  refine wp_region_held_drew (S := fun w' => BxV b hd (.slice a F.len c) w' ∧ BxV bx (hd.to n2) (.slice (some ⟨nb, 0, none⟩) F2.len F2.len) w') (by kernel_rfl) hS0 (fun hHeld => ?_)
  refine wpAnyH_take (i := 0) (v := valV (hd.to n2) (some ⟨nb, 0, none⟩) F2.len F2.len) rfl (by kernel_rfl) (by kernel_rfl) (by kernel_rfl) (fun _ _ _ h => hp _ _ _ _ _ h) (Or.inl ⟨by rfl, ?_⟩) (by assumption) ?_
  · intro w hSw
    (try dsimp only at hSw)
    go_simp
  (try simp only [Act.put, List.getElem_toArray, List.getElem_cons_zero, List.setIfInBounds_toArray, List.set_cons_zero, List.set_cons_succ])
  refine wpAnyH_take (i := 1) (v := valV hd a F.len c) rfl (by kernel_rfl) (by kernel_rfl) (by kernel_rfl) (fun _ _ _ h => hp _ _ _ _ _ h) (Or.inl ⟨by rfl, ?_⟩) (by assumption) ?_
  · intro w hSw
    (try dsimp only at hSw)
    go_simp
  (try simp only [Act.put, List.getElem_toArray, List.getElem_cons_zero, List.getElem_cons_succ, List.setIfInBounds_toArray, List.set_cons_zero, List.set_cons_succ])
  have hB0 := (Below.refl W.heap.size W).drew
  refine wpAnyH_ready (rs := [2]) (by kernel_rfl) (by simp) ?_
  refine AllReadyH.cons rfl (fun K hK => ?_) AllReadyH.nil
  go_simp
  refine (toValue_any hd a c F _ hs hsn (HI.out _ hB0).1.1 hl hc (HI.out _ hB0).2.1).mono ?_
  rintro r w1 ⟨⟨nb1, m1, F1, rfl, ha1, hF1, hi1, _⟩, hb1⟩
  have HI1 : Hid ((hd.to m1).In w1) := hi1
  clear hi1
  have hB1 := hB0.trans (hb1.mono hB0.size)
  go_wp2_with fail
  refine hK.out _ _ (HSof.out _ hB1) (fun hHeld => ?_)
  clear hK K hB0 hb1
  have hl1 : F1.len ≤ maxLen := by rw [Vo.alike_len ha1]; exact Nat.le_trans hl hc
  have hl2 : F2.len ≤ maxLen := by rw [Vo.alike_len ha]; exact Nat.le_trans hl hc
  have ha21 := Vo.alike_trans ha (Vo.alike_sym ha1)
  refine wpAnyH_ready (rs := [3]) (by kernel_rfl) (by simp) ?_
  refine AllReadyH.cons rfl (fun K hK => ?_) AllReadyH.nil
  go_simp
  refine (eqValue_all (F2.size + 1) (hd.to n2) (hd.to m1) (some ⟨nb, 0, none⟩) (some ⟨nb1, 0, none⟩) F2.len F1.len F2 F1 _ (by omega) ha21 ⟨⟨rfl, rfl, rfl, rfl⟩, rfl⟩ (.inr ⟨nb, 0, rfl, (HI.out _ hB1).1.2⟩) (.inr ⟨nb1, 0, rfl, hF1⟩) (HI.out _ hB1).2.2 HI1.out (Nat.le_refl _) hl2 (Nat.le_refl _) hl1).mono ?_
  rintro r w2 ⟨rfl, hb2⟩
  have hB2 := hB1.trans (hb2.mono hB1.size)
  go_wp2_with fail
  refine hK.out _ _ (HSof.out _ hB2) (fun hHeld => ?_)
  clear hK K hb2
  refine wpAnyH_take (i := 4) (v := .bool false) rfl (by kernel_rfl) (by kernel_rfl) (by kernel_rfl) (fun _ _ _ h => hp _ _ _ _ _ h) (Or.inl ⟨by rfl, ?_⟩) (by assumption) ?_
  · intro w hSw
    (try dsimp only at hSw)
    go_simp
  (try simp only [Act.put, List.getElem_toArray, List.getElem_cons_zero, List.getElem_cons_succ, List.setIfInBounds_toArray, List.set_cons_zero, List.set_cons_succ])
  refine wpAnyH_done (by kernel_rfl) ?_ _
  exact h _ _ _ _ _ hB2
set_option maxRecDepth 100000 in
set_option maxHeartbeats 2000000 in
theorem walk_FnExactValueSize (hd : Hd) (a : Option Addr) (F : Vo) (c : Nat) (w : World) (hh : hd.In w) (hin : F.In w a) (hl : F.len ≤ c) (hc : c ≤ maxLen) :
    Calls Try.prog 3 #[valV hd a F.len c] w fun r w' => r = .returned (.bool true) ∧ Below w.heap.size w w' := by
  have hsw := len_sWt hd.ns
  have hBp : Below w.heap.size w (w.alloc (.cells #[.int .i64 hd.k, .int .i64 hd.m, .int .i64 hd.e, .string hd.t, .slice a F.len c, .slice hd.na hd.ns.length hd.nc] 27)) := (Below.refl _ w).alloc (Nat.le_refl _) _
  have hAp : BxV w.heap.size hd (.slice a F.len c) (w.alloc (.cells #[.int .i64 hd.k, .int .i64 hd.m, .int .i64 hd.e, .string hd.t, .slice a F.len c, .slice hd.na hd.ns.length hd.nc] 27)) := BxV.new w hd (.slice a F.len c) 27
  go_enter Try.func3, Try.ntmps3
  obtain ⟨wp, hwp⟩ : ∃ wp, w.alloc (.cells #[.int .i64 hd.k, .int .i64 hd.m, .int .i64 hd.e, .string hd.t, .slice a F.len c, .slice hd.na hd.ns.length hd.nc] 27) = wp := ⟨_, rfl⟩
  rw [hwp] at hBp hAp
  have HX : Hid (∀ W, Below wp.heap.size wp W → BxV w.heap.size hd (.slice a F.len c) W) := fun W h => hAp.below h
  have HI : Hid (∀ W, Below wp.heap.size wp W → F.In W a ∧ hd.In W) := fun W h => ⟨hin.grow (hBp.trans (h.mono hBp.size)), hh.grow (hBp.trans (h.mono hBp.size))⟩
  have HB : Hid (∀ W, Below wp.heap.size wp W → Below w.heap.size w W) := fun W h => hBp.trans (h.mono hBp.size)
  have hB0 := Below.refl wp.heap.size wp
  have hwp' := hwp.symm
  clear hwp hin hAp hBp hh
  obtain ⟨x0, x1, x2, x3, x4, x5⟩ := HX.out _ hB0
  go_wp2_with fail
  rw [← hwp']
  clear hwp'
  refine (szValue_any hd a c F wp 1048576 (HI.out _ hB0).1 hl hc (HI.out _ hB0).2 (by omega)).mono ?_
  rintro r w1 ⟨rfl, hb1⟩
  have hB1 := hb1
  clear x0 x1 x2 x3 x4 x5
  obtain ⟨x0, x1, x2, x3, x4, x5⟩ := HX.out _ hB1
  clear hb1 hB0
  by_cases hneed : hd.t.size + F.wt + sWt hd.ns ≤ 1048576
  case neg =>
    have hd : leftOf (hd.t.size + F.wt + sWt hd.ns) 1048576 = -1 := by unfold leftOf; rw [if_neg hneed]
    rw [hd]
    go_wp2_with fail
    go_ret
    exact ⟨rfl, HB.out _ hB1⟩
  obtain ⟨d, hd', hdd⟩ : ∃ d : Nat, leftOf (hd.t.size + F.wt + sWt hd.ns) 1048576 = (d : Int) ∧ d ≤ 1048576 := ⟨1048576 - (hd.t.size + F.wt + sWt hd.ns), by unfold leftOf; rw [if_pos hneed], by omega⟩
  rw [hd']
  clear hd'
  have hd0 : ¬ (d : Int) < 0 := by omega
  have hs : F.wt ≤ 1048576 := by omega
  have hsn : hd.ns.length ≤ 1048576 := by omega
  clear hneed
  go_wp2_with fail
  refine (toValue_any hd a c F _ hs hsn (HI.out _ hB1).1 hl hc (HI.out _ hB1).2).mono ?_
  rintro r w2 ⟨⟨nb1, m1, F1, rfl, ha1, hF1, hi1, _⟩, hb2⟩
  have hB2 := hB1.trans (hb2.mono hB1.size)
  have hs1 : F1.size ≤ 1048576 := by rw [Vo.alike_size ha1]; exact Nat.le_trans F.size_wt hs
  have hl1 : F1.len ≤ maxLen := by rw [Vo.alike_len ha1]; exact Nat.le_trans hl hc
  clear x0 x1 x2 x3 x4 x5
  obtain ⟨x0, x1, x2, x3, x4, x5⟩ := HX.out _ hB2
  clear hb2 hB1
  go_wp2_with fail
  refine (sValueSize_any (F1.size + 1) (hd.to m1) (some ⟨nb1, 0, none⟩) F1.len F1 _ (Nat.lt_succ_self _) (by omega) (.inr ⟨nb1, 0, rfl, hF1⟩) (Nat.le_refl _) hl1).mono ?_
  rintro r w3 ⟨rfl, hb3⟩
  have hB3 := hB2.trans (hb3.mono hB2.size)
  rw [Vo.alike_size ha1]
  clear x0 x1 x2 x3 x4 x5
  obtain ⟨x0, x1, x2, x3, x4, x5⟩ := HX.out _ hB3
  clear hb3 hB2 hF1 hi1
  go_wp2_with fail
  refine (toValue_any hd a c F _ hs hsn (HI.out _ hB3).1 hl hc (HI.out _ hB3).2).mono ?_
  rintro r w4 ⟨⟨nb, n2, F2, rfl, ha, hF2, hi2, hg⟩, hb4⟩
  have hB4a := hB3.trans (hb4.mono hB3.size)
  have hbx := (Below.refl w4.heap.size w4).alloc (Nat.le_refl _) (.cells #[.int .i64 (hd.to n2).k, .int .i64 (hd.to n2).m, .int .i64 (hd.to n2).e, .string (hd.to n2).t, .slice (some ⟨nb, 0, none⟩) F2.len F2.len, .slice (hd.to n2).na (hd.to n2).ns.length (hd.to n2).nc] 33)
  have hB4 := hB4a.trans (hbx.mono hB4a.size)
  have hX4 := BxV.new w4 (hd.to n2) (.slice (some ⟨nb, 0, none⟩) F2.len F2.len) 33
  have hF4 := Vo.from_grow hbx F2 _ _ hF2
  have HI4 : Hid (Hd.In _ _ ∧ ItV.Good _ _) := ⟨hi2.grow hbx, hg.below hbx⟩
  have hs2 : F2.size ≤ 1048576 := by rw [Vo.alike_size ha]; exact Nat.le_trans F.size_wt hs
  have hl2 : F2.len ≤ maxLen := by rw [Vo.alike_len ha]; exact Nat.le_trans hl hc
  clear x0 x1 x2 x3 x4 x5
  clear hF2 hi2 hg hb4 hB4a hB3 hbx
  go_wp2_with fail
  refine (iValueSize_any (hd.to n2) (some ⟨nb, 0, none⟩) F2 F2.len _ ⟨.inr ⟨nb, 0, rfl, hF4⟩, HI4.out.2.1, HI4.out.2.2, (by show F2.size ≤ 1100000; omega)⟩).mono ?_
  rintro r w5 ⟨rfl, hb5⟩
  have hB5 := hB4.trans (hb5.mono hB4.size)
  have hX5 := hX4.below hb5
  have hF5 := Vo.from_grow hb5 F2 _ _ hF4
  have HI5 : Hid (Hd.In w5 (hd.to n2)) := HI4.out.1.grow hb5
  rw [Vo.alike_size ha]
  clear hX4 hF4 hB4 hb5 HI4
  have hqq : (((F.size : Int) + 1) != ((F.size : Int) + 1)) = false := by simp
  go_wp2_with fail
  refine vz10 (HX.out _ hB5) hX5 (HI.out _ hB5).1 hF5 HI5.out ha hl hc (HI.out _ hB5).2 hs hsn (fun _ d _ _ _ h => by cases d <;> exact h) ?_
  intro w6 v22 v23 v24 v25 hb6
  have hB6 := hB5.trans (hb6.mono hB5.size)
  clear hX5 hF5 hb6 hB5
  go_wp2_with fail
  go_ret
  exact ⟨rfl, HB.out _ hB6⟩
end Go.Proofs.Ytofmimoklbkeoaa
