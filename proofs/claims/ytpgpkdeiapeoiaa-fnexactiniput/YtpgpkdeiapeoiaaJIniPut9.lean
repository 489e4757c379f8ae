/- My own texts, joined: Xh Xi Je Jf Jg. -/
import Derived.Test.YtpgpkdeiapeoiaaJIniPut8
import Derived.Test.YtpgpkdeiapeoiaaJIniPut4
import Derived.Test.YtpgpkdeiapeoiaaJIniPut0
import Derived.Test.YtpgpkdeiapeoiaaJIniPut3
import Derived.Test.YtpgpkdeiapeoiaaJIniPut7
/- Values that are ok: whether a value has just what its kind has, by the specification. -/
namespace Go.Proofs.Ytpgpkdeiapeoiaa
open Go.RowKit
theorem text_nil {t : ByteArray} (h : t.toList = []) : t = ⟨#[]⟩ := text_ext (h.trans (by simp [ByteArray.toList_eq]))
set_option maxRecDepth 100000 in
set_option maxHeartbeats 1000000 in
theorem l7One_0 (m e : Int) (t : ByteArray) (na : Option Addr) (nc : Nat) (ns : List ByteArray) (a : Option Addr) (n c nl : Nat) (w : World) (hlen : Hid (ns.length = nl)) (hI : Hd.In w ⟨0, m, e, t, na, nc, ns⟩) :
    Calls Try.prog 59 #[.agg #[.int .i64 0, .int .i64 m, .int .i64 e, .string t, .slice a n c, .slice na nl nc]] w fun r w' => SaysT (one ⟨0, m, e, t, na, nc, ns⟩ n) r ∧ Below w.heap.size w w' := by
  by_cases h_m : m = 0
  · subst h_m
    by_cases h_e : e = 0
    · subst h_e
      by_cases h_t : t = ⟨#[]⟩
      · subst h_t
        by_cases h_n : n = 0
        · subst h_n
          by_cases h_nl : nl = 0
          · subst h_nl
            have HS : Hid (one ⟨0, 0, 0, ⟨#[]⟩, na, nc, ns⟩ 0) := by have h0 : ns = [] := List.eq_nil_of_length_eq_zero hlen.out; subst h0; unfold Hid; simp [one]
            clear hI
            go_enter Try.func59, Try.ntmps59
            go_wp2_with fail
            go_ret
            exact ⟨⟨true, rfl, fun _ => HS.out, fun _ => rfl⟩, (by (repeat' (first | assumption | exact Below.refl _ _ | refine Below.alloc ?_ ?_ _ | refine Below.setCell ?_ ?_ _ | refine Below.drew ?_ | refine below_drewN ?_ _)) <;> (first | omega | (simp <;> omega)))⟩
          · have h_nl' : ((nl : Int) == 0) = false := by simp; omega
            have HS : Hid (¬ one ⟨0, 0, 0, ⟨#[]⟩, na, nc, ns⟩ 0) := fun x => h_nl (by have := hlen.out; simp [one] at x; rw [← this]; simp [x])
            clear hI
            go_enter Try.func59, Try.ntmps59
            go_wp2_with fail
            go_ret
            exact ⟨⟨false, rfl, fun h => (by cases h), fun h => absurd h HS.out⟩, (by (repeat' (first | assumption | exact Below.refl _ _ | refine Below.alloc ?_ ?_ _ | refine Below.setCell ?_ ?_ _ | refine Below.drew ?_ | refine below_drewN ?_ _)) <;> (first | omega | (simp <;> omega)))⟩
        · have h_n' : ((n : Int) == 0) = false := by simp; omega
          have HS : Hid (¬ one ⟨0, 0, 0, ⟨#[]⟩, na, nc, ns⟩ n) := fun x => by simp [one] at x; exact h_n (by simp [x])
          clear hI
          go_enter Try.func59, Try.ntmps59
          go_wp2_with fail
          go_ret
          exact ⟨⟨false, rfl, fun h => (by cases h), fun h => absurd h HS.out⟩, (by (repeat' (first | assumption | exact Below.refl _ _ | refine Below.alloc ?_ ?_ _ | refine Below.setCell ?_ ?_ _ | refine Below.drew ?_ | refine below_drewN ?_ _)) <;> (first | omega | (simp <;> omega)))⟩
      · have h_t' : (t.toList == []) = false := by rw [beq_eq_false_iff_ne]; exact fun e' => h_t (text_nil e')
        have HS : Hid (¬ one ⟨0, 0, 0, t, na, nc, ns⟩ n) := fun x => by simp [one] at x; exact h_t (by simp [x])
        clear hI
        go_enter Try.func59, Try.ntmps59
        go_wp2_with fail
        go_ret
        exact ⟨⟨false, rfl, fun h => (by cases h), fun h => absurd h HS.out⟩, (by (repeat' (first | assumption | exact Below.refl _ _ | refine Below.alloc ?_ ?_ _ | refine Below.setCell ?_ ?_ _ | refine Below.drew ?_ | refine below_drewN ?_ _)) <;> (first | omega | (simp <;> omega)))⟩
    · have h_e' : (e == 0) = false := by simp; omega
      have HS : Hid (¬ one ⟨0, 0, e, t, na, nc, ns⟩ n) := fun x => by simp [one] at x; exact h_e (by simp [x])
      clear hI
      go_enter Try.func59, Try.ntmps59
      go_wp2_with fail
      go_ret
      exact ⟨⟨false, rfl, fun h => (by cases h), fun h => absurd h HS.out⟩, (by (repeat' (first | assumption | exact Below.refl _ _ | refine Below.alloc ?_ ?_ _ | refine Below.setCell ?_ ?_ _ | refine Below.drew ?_ | refine below_drewN ?_ _)) <;> (first | omega | (simp <;> omega)))⟩
  · have h_m' : (m == 0) = false := by simp; omega
    have HS : Hid (¬ one ⟨0, m, e, t, na, nc, ns⟩ n) := fun x => by simp [one] at x; exact h_m (by simp [x])
    clear hI
    go_enter Try.func59, Try.ntmps59
    go_wp2_with fail
    go_ret
    exact ⟨⟨false, rfl, fun h => (by cases h), fun h => absurd h HS.out⟩, (by (repeat' (first | assumption | exact Below.refl _ _ | refine Below.alloc ?_ ?_ _ | refine Below.setCell ?_ ?_ _ | refine Below.drew ?_ | refine below_drewN ?_ _)) <;> (first | omega | (simp <;> omega)))⟩
set_option maxRecDepth 100000 in
set_option maxHeartbeats 1000000 in
theorem l7One_1 (m e : Int) (t : ByteArray) (na : Option Addr) (nc : Nat) (ns : List ByteArray) (a : Option Addr) (n c nl : Nat) (w : World) (hlen : Hid (ns.length = nl)) (hI : Hd.In w ⟨1, m, e, t, na, nc, ns⟩) :
    Calls Try.prog 59 #[.agg #[.int .i64 1, .int .i64 m, .int .i64 e, .string t, .slice a n c, .slice na nl nc]] w fun r w' => SaysT (one ⟨1, m, e, t, na, nc, ns⟩ n) r ∧ Below w.heap.size w w' := by
  by_cases h_m : m = 0
  · subst h_m
    by_cases h_e : e = 0
    · subst h_e
      by_cases h_t : t = ⟨#[]⟩
      · subst h_t
        by_cases h_n : n = 0
        · subst h_n
          by_cases h_nl : nl = 0
          · subst h_nl
            have HS : Hid (one ⟨1, 0, 0, ⟨#[]⟩, na, nc, ns⟩ 0) := by have h0 : ns = [] := List.eq_nil_of_length_eq_zero hlen.out; subst h0; unfold Hid; simp [one]
            clear hI
            go_enter Try.func59, Try.ntmps59
            go_wp2_with fail
            go_ret
            exact ⟨⟨true, rfl, fun _ => HS.out, fun _ => rfl⟩, (by (repeat' (first | assumption | exact Below.refl _ _ | refine Below.alloc ?_ ?_ _ | refine Below.setCell ?_ ?_ _ | refine Below.drew ?_ | refine below_drewN ?_ _)) <;> (first | omega | (simp <;> omega)))⟩
          · have h_nl' : ((nl : Int) == 0) = false := by simp; omega
            have HS : Hid (¬ one ⟨1, 0, 0, ⟨#[]⟩, na, nc, ns⟩ 0) := fun x => h_nl (by have := hlen.out; simp [one] at x; rw [← this]; simp [x])
            clear hI
            go_enter Try.func59, Try.ntmps59
            go_wp2_with fail
            go_ret
            exact ⟨⟨false, rfl, fun h => (by cases h), fun h => absurd h HS.out⟩, (by (repeat' (first | assumption | exact Below.refl _ _ | refine Below.alloc ?_ ?_ _ | refine Below.setCell ?_ ?_ _ | refine Below.drew ?_ | refine below_drewN ?_ _)) <;> (first | omega | (simp <;> omega)))⟩
        · have h_n' : ((n : Int) == 0) = false := by simp; omega
          have HS : Hid (¬ one ⟨1, 0, 0, ⟨#[]⟩, na, nc, ns⟩ n) := fun x => by simp [one] at x; exact h_n (by simp [x])
          clear hI
          go_enter Try.func59, Try.ntmps59
          go_wp2_with fail
          go_ret
          exact ⟨⟨false, rfl, fun h => (by cases h), fun h => absurd h HS.out⟩, (by (repeat' (first | assumption | exact Below.refl _ _ | refine Below.alloc ?_ ?_ _ | refine Below.setCell ?_ ?_ _ | refine Below.drew ?_ | refine below_drewN ?_ _)) <;> (first | omega | (simp <;> omega)))⟩
      · have h_t' : (t.toList == []) = false := by rw [beq_eq_false_iff_ne]; exact fun e' => h_t (text_nil e')
        have HS : Hid (¬ one ⟨1, 0, 0, t, na, nc, ns⟩ n) := fun x => by simp [one] at x; exact h_t (by simp [x])
        clear hI
        go_enter Try.func59, Try.ntmps59
        go_wp2_with fail
        go_ret
        exact ⟨⟨false, rfl, fun h => (by cases h), fun h => absurd h HS.out⟩, (by (repeat' (first | assumption | exact Below.refl _ _ | refine Below.alloc ?_ ?_ _ | refine Below.setCell ?_ ?_ _ | refine Below.drew ?_ | refine below_drewN ?_ _)) <;> (first | omega | (simp <;> omega)))⟩
    · have h_e' : (e == 0) = false := by simp; omega
      have HS : Hid (¬ one ⟨1, 0, e, t, na, nc, ns⟩ n) := fun x => by simp [one] at x; exact h_e (by simp [x])
      clear hI
      go_enter Try.func59, Try.ntmps59
      go_wp2_with fail
      go_ret
      exact ⟨⟨false, rfl, fun h => (by cases h), fun h => absurd h HS.out⟩, (by (repeat' (first | assumption | exact Below.refl _ _ | refine Below.alloc ?_ ?_ _ | refine Below.setCell ?_ ?_ _ | refine Below.drew ?_ | refine below_drewN ?_ _)) <;> (first | omega | (simp <;> omega)))⟩
  · have h_m' : (m == 0) = false := by simp; omega
    have HS : Hid (¬ one ⟨1, m, e, t, na, nc, ns⟩ n) := fun x => by simp [one] at x; exact h_m (by simp [x])
    clear hI
    go_enter Try.func59, Try.ntmps59
    go_wp2_with fail
    go_ret
    exact ⟨⟨false, rfl, fun h => (by cases h), fun h => absurd h HS.out⟩, (by (repeat' (first | assumption | exact Below.refl _ _ | refine Below.alloc ?_ ?_ _ | refine Below.setCell ?_ ?_ _ | refine Below.drew ?_ | refine below_drewN ?_ _)) <;> (first | omega | (simp <;> omega)))⟩
set_option maxRecDepth 100000 in
set_option maxHeartbeats 1000000 in
theorem l7One_2 (m e : Int) (t : ByteArray) (na : Option Addr) (nc : Nat) (ns : List ByteArray) (a : Option Addr) (n c nl : Nat) (w : World) (hlen : Hid (ns.length = nl)) (hI : Hd.In w ⟨2, m, e, t, na, nc, ns⟩) :
    Calls Try.prog 59 #[.agg #[.int .i64 2, .int .i64 m, .int .i64 e, .string t, .slice a n c, .slice na nl nc]] w fun r w' => SaysT (one ⟨2, m, e, t, na, nc, ns⟩ n) r ∧ Below w.heap.size w w' := by
  by_cases h_m : m = 0
  · subst h_m
    by_cases h_e : e = 0
    · subst h_e
      by_cases h_t : t = ⟨#[]⟩
      · subst h_t
        by_cases h_n : n = 0
        · subst h_n
          by_cases h_nl : nl = 0
          · subst h_nl
            have HS : Hid (one ⟨2, 0, 0, ⟨#[]⟩, na, nc, ns⟩ 0) := by have h0 : ns = [] := List.eq_nil_of_length_eq_zero hlen.out; subst h0; unfold Hid; simp [one]
            clear hI
            go_enter Try.func59, Try.ntmps59
            go_wp2_with fail
            go_ret
            exact ⟨⟨true, rfl, fun _ => HS.out, fun _ => rfl⟩, (by (repeat' (first | assumption | exact Below.refl _ _ | refine Below.alloc ?_ ?_ _ | refine Below.setCell ?_ ?_ _ | refine Below.drew ?_ | refine below_drewN ?_ _)) <;> (first | omega | (simp <;> omega)))⟩
          · have h_nl' : ((nl : Int) == 0) = false := by simp; omega
            have HS : Hid (¬ one ⟨2, 0, 0, ⟨#[]⟩, na, nc, ns⟩ 0) := fun x => h_nl (by have := hlen.out; simp [one] at x; rw [← this]; simp [x])
            clear hI
            go_enter Try.func59, Try.ntmps59
            go_wp2_with fail
            go_ret
            exact ⟨⟨false, rfl, fun h => (by cases h), fun h => absurd h HS.out⟩, (by (repeat' (first | assumption | exact Below.refl _ _ | refine Below.alloc ?_ ?_ _ | refine Below.setCell ?_ ?_ _ | refine Below.drew ?_ | refine below_drewN ?_ _)) <;> (first | omega | (simp <;> omega)))⟩
        · have h_n' : ((n : Int) == 0) = false := by simp; omega
          have HS : Hid (¬ one ⟨2, 0, 0, ⟨#[]⟩, na, nc, ns⟩ n) := fun x => by simp [one] at x; exact h_n (by simp [x])
          clear hI
          go_enter Try.func59, Try.ntmps59
          go_wp2_with fail
          go_ret
          exact ⟨⟨false, rfl, fun h => (by cases h), fun h => absurd h HS.out⟩, (by (repeat' (first | assumption | exact Below.refl _ _ | refine Below.alloc ?_ ?_ _ | refine Below.setCell ?_ ?_ _ | refine Below.drew ?_ | refine below_drewN ?_ _)) <;> (first | omega | (simp <;> omega)))⟩
      · have h_t' : (t.toList == []) = false := by rw [beq_eq_false_iff_ne]; exact fun e' => h_t (text_nil e')
        have HS : Hid (¬ one ⟨2, 0, 0, t, na, nc, ns⟩ n) := fun x => by simp [one] at x; exact h_t (by simp [x])
        clear hI
        go_enter Try.func59, Try.ntmps59
        go_wp2_with fail
        go_ret
        exact ⟨⟨false, rfl, fun h => (by cases h), fun h => absurd h HS.out⟩, (by (repeat' (first | assumption | exact Below.refl _ _ | refine Below.alloc ?_ ?_ _ | refine Below.setCell ?_ ?_ _ | refine Below.drew ?_ | refine below_drewN ?_ _)) <;> (first | omega | (simp <;> omega)))⟩
    · have h_e' : (e == 0) = false := by simp; omega
      have HS : Hid (¬ one ⟨2, 0, e, t, na, nc, ns⟩ n) := fun x => by simp [one] at x; exact h_e (by simp [x])
      clear hI
      go_enter Try.func59, Try.ntmps59
      go_wp2_with fail
      go_ret
      exact ⟨⟨false, rfl, fun h => (by cases h), fun h => absurd h HS.out⟩, (by (repeat' (first | assumption | exact Below.refl _ _ | refine Below.alloc ?_ ?_ _ | refine Below.setCell ?_ ?_ _ | refine Below.drew ?_ | refine below_drewN ?_ _)) <;> (first | omega | (simp <;> omega)))⟩
  · have h_m' : (m == 0) = false := by simp; omega
    have HS : Hid (¬ one ⟨2, m, e, t, na, nc, ns⟩ n) := fun x => by simp [one] at x; exact h_m (by simp [x])
    clear hI
    go_enter Try.func59, Try.ntmps59
    go_wp2_with fail
    go_ret
    exact ⟨⟨false, rfl, fun h => (by cases h), fun h => absurd h HS.out⟩, (by (repeat' (first | assumption | exact Below.refl _ _ | refine Below.alloc ?_ ?_ _ | refine Below.setCell ?_ ?_ _ | refine Below.drew ?_ | refine below_drewN ?_ _)) <;> (first | omega | (simp <;> omega)))⟩
set_option maxRecDepth 100000 in
set_option maxHeartbeats 1000000 in
theorem l7One_4 (m e : Int) (t : ByteArray) (na : Option Addr) (nc : Nat) (ns : List ByteArray) (a : Option Addr) (n c nl : Nat) (w : World) (hlen : Hid (ns.length = nl)) (hI : Hd.In w ⟨4, m, e, t, na, nc, ns⟩) :
    Calls Try.prog 59 #[.agg #[.int .i64 4, .int .i64 m, .int .i64 e, .string t, .slice a n c, .slice na nl nc]] w fun r w' => SaysT (one ⟨4, m, e, t, na, nc, ns⟩ n) r ∧ Below w.heap.size w w' := by
  have htm := hI.2.2
  unfold maxLen at htm
  by_cases h_m : m = 0
  · subst h_m
    by_cases h_e : e = 0
    · subst h_e
      by_cases h_sz : t.size ≤ 1500
      · have h_sz' : (t.size : Int) ≤ 1500 := by omega
        by_cases h_n : n = 0
        · subst h_n
          by_cases h_nl : nl = 0
          · subst h_nl
            have HS : Hid (one ⟨4, 0, 0, t, na, nc, ns⟩ 0) := by have h0 : ns = [] := List.eq_nil_of_length_eq_zero hlen.out; subst h0; unfold Hid; simp [one]; exact h_sz
            clear hI
            go_enter Try.func59, Try.ntmps59
            go_wp2_with fail
            go_ret
            exact ⟨⟨true, rfl, fun _ => HS.out, fun _ => rfl⟩, (by (repeat' (first | assumption | exact Below.refl _ _ | refine Below.alloc ?_ ?_ _ | refine Below.setCell ?_ ?_ _ | refine Below.drew ?_ | refine below_drewN ?_ _)) <;> (first | omega | (simp <;> omega)))⟩
          · have h_nl' : ((nl : Int) == 0) = false := by simp; omega
            have HS : Hid (¬ one ⟨4, 0, 0, t, na, nc, ns⟩ 0) := fun x => h_nl (by have := hlen.out; simp [one] at x; rw [← this]; simp [x])
            clear hI
            go_enter Try.func59, Try.ntmps59
            go_wp2_with fail
            go_ret
            exact ⟨⟨false, rfl, fun h => (by cases h), fun h => absurd h HS.out⟩, (by (repeat' (first | assumption | exact Below.refl _ _ | refine Below.alloc ?_ ?_ _ | refine Below.setCell ?_ ?_ _ | refine Below.drew ?_ | refine below_drewN ?_ _)) <;> (first | omega | (simp <;> omega)))⟩
        · have h_n' : ((n : Int) == 0) = false := by simp; omega
          have HS : Hid (¬ one ⟨4, 0, 0, t, na, nc, ns⟩ n) := fun x => by simp [one] at x; exact h_n (by simp [x])
          clear hI
          go_enter Try.func59, Try.ntmps59
          go_wp2_with fail
          go_ret
          exact ⟨⟨false, rfl, fun h => (by cases h), fun h => absurd h HS.out⟩, (by (repeat' (first | assumption | exact Below.refl _ _ | refine Below.alloc ?_ ?_ _ | refine Below.setCell ?_ ?_ _ | refine Below.drew ?_ | refine below_drewN ?_ _)) <;> (first | omega | (simp <;> omega)))⟩
      · have h_sz' : ¬ (t.size : Int) ≤ 1500 := by omega
        have HS : Hid (¬ one ⟨4, 0, 0, t, na, nc, ns⟩ n) := fun x => by simp [one] at x; exact h_sz x.1
        clear hI
        go_enter Try.func59, Try.ntmps59
        go_wp2_with fail
        go_ret
        exact ⟨⟨false, rfl, fun h => (by cases h), fun h => absurd h HS.out⟩, (by (repeat' (first | assumption | exact Below.refl _ _ | refine Below.alloc ?_ ?_ _ | refine Below.setCell ?_ ?_ _ | refine Below.drew ?_ | refine below_drewN ?_ _)) <;> (first | omega | (simp <;> omega)))⟩
    · have h_e' : (e == 0) = false := by simp; omega
      have HS : Hid (¬ one ⟨4, 0, e, t, na, nc, ns⟩ n) := fun x => by simp [one] at x; exact h_e (by simp [x])
      clear hI
      go_enter Try.func59, Try.ntmps59
      go_wp2_with fail
      go_ret
      exact ⟨⟨false, rfl, fun h => (by cases h), fun h => absurd h HS.out⟩, (by (repeat' (first | assumption | exact Below.refl _ _ | refine Below.alloc ?_ ?_ _ | refine Below.setCell ?_ ?_ _ | refine Below.drew ?_ | refine below_drewN ?_ _)) <;> (first | omega | (simp <;> omega)))⟩
  · have h_m' : (m == 0) = false := by simp; omega
    have HS : Hid (¬ one ⟨4, m, e, t, na, nc, ns⟩ n) := fun x => by simp [one] at x; exact h_m (by simp [x])
    clear hI
    go_enter Try.func59, Try.ntmps59
    go_wp2_with fail
    go_ret
    exact ⟨⟨false, rfl, fun h => (by cases h), fun h => absurd h HS.out⟩, (by (repeat' (first | assumption | exact Below.refl _ _ | refine Below.alloc ?_ ?_ _ | refine Below.setCell ?_ ?_ _ | refine Below.drew ?_ | refine below_drewN ?_ _)) <;> (first | omega | (simp <;> omega)))⟩
set_option maxRecDepth 100000 in
set_option maxHeartbeats 1000000 in
theorem l7One_5 (m e : Int) (t : ByteArray) (na : Option Addr) (nc : Nat) (ns : List ByteArray) (a : Option Addr) (n c nl : Nat) (w : World) (hlen : Hid (ns.length = nl)) (hI : Hd.In w ⟨5, m, e, t, na, nc, ns⟩) :
    Calls Try.prog 59 #[.agg #[.int .i64 5, .int .i64 m, .int .i64 e, .string t, .slice a n c, .slice na nl nc]] w fun r w' => SaysT (one ⟨5, m, e, t, na, nc, ns⟩ n) r ∧ Below w.heap.size w w' := by
  by_cases h_m : m = 0
  · subst h_m
    by_cases h_e : e = 0
    · subst h_e
      by_cases h_t : t = ⟨#[]⟩
      · subst h_t
        by_cases h_nl : nl = 0
        · subst h_nl
          have HS : Hid (one ⟨5, 0, 0, ⟨#[]⟩, na, nc, ns⟩ n) := by have h0 : ns = [] := List.eq_nil_of_length_eq_zero hlen.out; subst h0; unfold Hid; simp [one]
          clear hI
          go_enter Try.func59, Try.ntmps59
          go_wp2_with fail
          go_ret
          exact ⟨⟨true, rfl, fun _ => HS.out, fun _ => rfl⟩, (by (repeat' (first | assumption | exact Below.refl _ _ | refine Below.alloc ?_ ?_ _ | refine Below.setCell ?_ ?_ _ | refine Below.drew ?_ | refine below_drewN ?_ _)) <;> (first | omega | (simp <;> omega)))⟩
        · have h_nl' : ((nl : Int) == 0) = false := by simp; omega
          have HS : Hid (¬ one ⟨5, 0, 0, ⟨#[]⟩, na, nc, ns⟩ n) := fun x => h_nl (by have := hlen.out; simp [one] at x; rw [← this]; simp [x])
          clear hI
          go_enter Try.func59, Try.ntmps59
          go_wp2_with fail
          go_ret
          exact ⟨⟨false, rfl, fun h => (by cases h), fun h => absurd h HS.out⟩, (by (repeat' (first | assumption | exact Below.refl _ _ | refine Below.alloc ?_ ?_ _ | refine Below.setCell ?_ ?_ _ | refine Below.drew ?_ | refine below_drewN ?_ _)) <;> (first | omega | (simp <;> omega)))⟩
      · have h_t' : (t.toList == []) = false := by rw [beq_eq_false_iff_ne]; exact fun e' => h_t (text_nil e')
        have HS : Hid (¬ one ⟨5, 0, 0, t, na, nc, ns⟩ n) := fun x => by simp [one] at x; exact h_t (by simp [x])
        clear hI
        go_enter Try.func59, Try.ntmps59
        go_wp2_with fail
        go_ret
        exact ⟨⟨false, rfl, fun h => (by cases h), fun h => absurd h HS.out⟩, (by (repeat' (first | assumption | exact Below.refl _ _ | refine Below.alloc ?_ ?_ _ | refine Below.setCell ?_ ?_ _ | refine Below.drew ?_ | refine below_drewN ?_ _)) <;> (first | omega | (simp <;> omega)))⟩
    · have h_e' : (e == 0) = false := by simp; omega
      have HS : Hid (¬ one ⟨5, 0, e, t, na, nc, ns⟩ n) := fun x => by simp [one] at x; exact h_e (by simp [x])
      clear hI
      go_enter Try.func59, Try.ntmps59
      go_wp2_with fail
      go_ret
      exact ⟨⟨false, rfl, fun h => (by cases h), fun h => absurd h HS.out⟩, (by (repeat' (first | assumption | exact Below.refl _ _ | refine Below.alloc ?_ ?_ _ | refine Below.setCell ?_ ?_ _ | refine Below.drew ?_ | refine below_drewN ?_ _)) <;> (first | omega | (simp <;> omega)))⟩
  · have h_m' : (m == 0) = false := by simp; omega
    have HS : Hid (¬ one ⟨5, m, e, t, na, nc, ns⟩ n) := fun x => by simp [one] at x; exact h_m (by simp [x])
    clear hI
    go_enter Try.func59, Try.ntmps59
    go_wp2_with fail
    go_ret
    exact ⟨⟨false, rfl, fun h => (by cases h), fun h => absurd h HS.out⟩, (by (repeat' (first | assumption | exact Below.refl _ _ | refine Below.alloc ?_ ?_ _ | refine Below.setCell ?_ ?_ _ | refine Below.drew ?_ | refine below_drewN ?_ _)) <;> (first | omega | (simp <;> omega)))⟩
set_option maxRecDepth 100000 in
set_option maxHeartbeats 1000000 in
theorem l7One_3 (m e : Int) (t : ByteArray) (na : Option Addr) (nc : Nat) (ns : List ByteArray) (a : Option Addr) (n c nl : Nat) (w : World) (hlen : Hid (ns.length = nl)) (hI : Hd.In w ⟨3, m, e, t, na, nc, ns⟩) :
    Calls Try.prog 59 #[.agg #[.int .i64 3, .int .i64 m, .int .i64 e, .string t, .slice a n c, .slice na nl nc]] w fun r w' => SaysT (one ⟨3, m, e, t, na, nc, ns⟩ n) r ∧ Below w.heap.size w w' := by
  cases hd : Dm.ok m e
  · skip
    have HS : Hid (¬ one ⟨3, m, e, t, na, nc, ns⟩ n) := fun x => by simp [one, hd] at x
    clear hI
    have hB0 := (Below.refl _ w).alloc (Nat.le_refl _) (.cells #[.int .i64 3, .int .i64 m, .int .i64 e, .string t, .slice a n c, .slice na nl nc] 33)
    have R0 := Row.new w [.int .i64 3, .int .i64 m, .int .i64 e, .string t, .slice a n c, .slice na nl nc] 33
    go_enter Try.func59, Try.ntmps59
    go_wp2_with fail
    refine (sDecOk_any m e _).mono ?_
    rintro r w1 ⟨rfl, hb1⟩
    have hB1 := hB0.trans (hb1.mono hB0.size)
    have x3 := (R0.below hb1 R0.lt 3 _ rfl).1
    have x4 := (R0.below hb1 R0.lt 4 _ rfl).1
    have x5 := (R0.below hb1 R0.lt 5 _ rfl).1
    clear R0 hB0 hb1
    rw [hd]
    go_wp2_with fail
    go_ret
    exact ⟨⟨false, rfl, fun h => (by cases h), fun h => absurd h HS.out⟩, hB1⟩
  · by_cases h_t : t = ⟨#[]⟩
    · subst h_t
      by_cases h_n : n = 0
      · subst h_n
        by_cases h_nl : nl = 0
        · subst h_nl
          have HS : Hid (one ⟨3, m, e, ⟨#[]⟩, na, nc, ns⟩ 0) := by have h0 : ns = [] := List.eq_nil_of_length_eq_zero hlen.out; subst h0; unfold Hid; simp [one, hd]
          clear hI
          have hB0 := (Below.refl _ w).alloc (Nat.le_refl _) (.cells #[.int .i64 3, .int .i64 m, .int .i64 e, .string ⟨#[]⟩, .slice a 0 c, .slice na 0 nc] 33)
          have R0 := Row.new w [.int .i64 3, .int .i64 m, .int .i64 e, .string ⟨#[]⟩, .slice a 0 c, .slice na 0 nc] 33
          go_enter Try.func59, Try.ntmps59
          go_wp2_with fail
          refine (sDecOk_any m e _).mono ?_
          rintro r w1 ⟨rfl, hb1⟩
          have hB1 := hB0.trans (hb1.mono hB0.size)
          have x3 := (R0.below hb1 R0.lt 3 _ rfl).1
          have x4 := (R0.below hb1 R0.lt 4 _ rfl).1
          have x5 := (R0.below hb1 R0.lt 5 _ rfl).1
          clear R0 hB0 hb1
          rw [hd]
          go_wp2_with fail
          go_ret
          exact ⟨⟨true, rfl, fun _ => HS.out, fun _ => rfl⟩, hB1⟩
        · have h_nl' : ((nl : Int) == 0) = false := by simp; omega
          have HS : Hid (¬ one ⟨3, m, e, ⟨#[]⟩, na, nc, ns⟩ 0) := fun x => h_nl (by have := hlen.out; simp [one] at x; rw [← this]; simp [x])
          clear hI
          have hB0 := (Below.refl _ w).alloc (Nat.le_refl _) (.cells #[.int .i64 3, .int .i64 m, .int .i64 e, .string ⟨#[]⟩, .slice a 0 c, .slice na nl nc] 33)
          have R0 := Row.new w [.int .i64 3, .int .i64 m, .int .i64 e, .string ⟨#[]⟩, .slice a 0 c, .slice na nl nc] 33
          go_enter Try.func59, Try.ntmps59
          go_wp2_with fail
          refine (sDecOk_any m e _).mono ?_
          rintro r w1 ⟨rfl, hb1⟩
          have hB1 := hB0.trans (hb1.mono hB0.size)
          have x3 := (R0.below hb1 R0.lt 3 _ rfl).1
          have x4 := (R0.below hb1 R0.lt 4 _ rfl).1
          have x5 := (R0.below hb1 R0.lt 5 _ rfl).1
          clear R0 hB0 hb1
          rw [hd]
          go_wp2_with fail
          go_ret
          exact ⟨⟨false, rfl, fun h => (by cases h), fun h => absurd h HS.out⟩, hB1⟩
      · have h_n' : ((n : Int) == 0) = false := by simp; omega
        have HS : Hid (¬ one ⟨3, m, e, ⟨#[]⟩, na, nc, ns⟩ n) := fun x => by simp [one] at x; exact h_n (by simp [x])
        clear hI
        have hB0 := (Below.refl _ w).alloc (Nat.le_refl _) (.cells #[.int .i64 3, .int .i64 m, .int .i64 e, .string ⟨#[]⟩, .slice a n c, .slice na nl nc] 33)
        have R0 := Row.new w [.int .i64 3, .int .i64 m, .int .i64 e, .string ⟨#[]⟩, .slice a n c, .slice na nl nc] 33
        go_enter Try.func59, Try.ntmps59
        go_wp2_with fail
        refine (sDecOk_any m e _).mono ?_
        rintro r w1 ⟨rfl, hb1⟩
        have hB1 := hB0.trans (hb1.mono hB0.size)
        have x3 := (R0.below hb1 R0.lt 3 _ rfl).1
        have x4 := (R0.below hb1 R0.lt 4 _ rfl).1
        have x5 := (R0.below hb1 R0.lt 5 _ rfl).1
        clear R0 hB0 hb1
        rw [hd]
        go_wp2_with fail
        go_ret
        exact ⟨⟨false, rfl, fun h => (by cases h), fun h => absurd h HS.out⟩, hB1⟩
    · have h_t' : (t.toList == []) = false := by rw [beq_eq_false_iff_ne]; exact fun e' => h_t (text_nil e')
      have HS : Hid (¬ one ⟨3, m, e, t, na, nc, ns⟩ n) := fun x => by simp [one] at x; exact h_t (by simp [x])
      clear hI
      have hB0 := (Below.refl _ w).alloc (Nat.le_refl _) (.cells #[.int .i64 3, .int .i64 m, .int .i64 e, .string t, .slice a n c, .slice na nl nc] 33)
      have R0 := Row.new w [.int .i64 3, .int .i64 m, .int .i64 e, .string t, .slice a n c, .slice na nl nc] 33
      go_enter Try.func59, Try.ntmps59
      go_wp2_with fail
      refine (sDecOk_any m e _).mono ?_
      rintro r w1 ⟨rfl, hb1⟩
      have hB1 := hB0.trans (hb1.mono hB0.size)
      have x3 := (R0.below hb1 R0.lt 3 _ rfl).1
      have x4 := (R0.below hb1 R0.lt 4 _ rfl).1
      have x5 := (R0.below hb1 R0.lt 5 _ rfl).1
      clear R0 hB0 hb1
      rw [hd]
      go_wp2_with fail
      go_ret
      exact ⟨⟨false, rfl, fun h => (by cases h), fun h => absurd h HS.out⟩, hB1⟩
set_option maxRecDepth 100000 in
set_option maxHeartbeats 1000000 in
theorem l7One_6 (m e : Int) (t : ByteArray) (na : Option Addr) (nc : Nat) (ns : List ByteArray) (a : Option Addr) (n c nl : Nat) (w : World) (hlen : Hid (ns.length = nl)) (hI : Hd.In w ⟨6, m, e, t, na, nc, ns⟩) :
    Calls Try.prog 59 #[.agg #[.int .i64 6, .int .i64 m, .int .i64 e, .string t, .slice a n c, .slice na nl nc]] w fun r w' => SaysT (one ⟨6, m, e, t, na, nc, ns⟩ n) r ∧ Below w.heap.size w w' := by
  by_cases h_m : m = 0
  · subst h_m
    by_cases h_e : e = 0
    · subst h_e
      by_cases h_t : t = ⟨#[]⟩
      · subst h_t
        by_cases h_l : nl = n
        · subst h_l
          have hl := hI.2.1.1
          have hc := hI.2.1.2
          dsimp only at hl hc
          have HI : Hid (SIn w ns na) := hI.1
          have hB0 := (Below.refl _ w).alloc (Nat.le_refl _) (.cells #[.int .i64 6, .int .i64 0, .int .i64 0, .string ⟨#[]⟩, .slice a nl c, .slice na nl nc] 33)
          have HN := fun W (hW : SIn W ns na) => l7Names_any ns na nc W hW hl hc
          rw [hlen.out] at HN
          have HO : Hid (one ⟨6, 0, 0, ⟨#[]⟩, na, nc, ns⟩ nl ↔ nmAsc ns nl) := by have := hlen.out; unfold Hid; simp [one, this]
          clear hI
          go_enter Try.func59, Try.ntmps59
          go_wp2_with fail
          refine (HN _ (HI.out.grow hB0)).mono ?_
          rintro r w1 ⟨⟨q, rfl, hq⟩, hb1⟩
          have hB1 := hB0.trans (hb1.mono hB0.size)
          have HQ : Hid (q = true ↔ nmAsc ns nl) := hq
          clear hq
          go_wp2_with fail
          go_ret
          exact ⟨⟨q, rfl, HQ.out.trans HO.out.symm⟩, hB1⟩
        · have h_l' : ((nl : Int) == (n : Int)) = false := by simp; omega
          have HS : Hid (¬ one ⟨6, 0, 0, ⟨#[]⟩, na, nc, ns⟩ n) := fun x => h_l (by have := hlen.out; simp [one] at x; rw [← this]; exact x.1)
          clear hI
          go_enter Try.func59, Try.ntmps59
          go_wp2_with fail
          go_ret
          exact ⟨⟨false, rfl, fun h => (by cases h), fun h => absurd h HS.out⟩, (by (repeat' (first | assumption | exact Below.refl _ _ | refine Below.alloc ?_ ?_ _ | refine Below.setCell ?_ ?_ _ | refine Below.drew ?_ | refine below_drewN ?_ _)) <;> (first | omega | (simp <;> omega)))⟩
      · have h_t' : (t.toList == []) = false := by rw [beq_eq_false_iff_ne]; exact fun e' => h_t (text_nil e')
        have HS : Hid (¬ one ⟨6, 0, 0, t, na, nc, ns⟩ n) := fun x => by simp [one] at x; exact h_t (by simp [x])
        clear hI
        go_enter Try.func59, Try.ntmps59
        go_wp2_with fail
        go_ret
        exact ⟨⟨false, rfl, fun h => (by cases h), fun h => absurd h HS.out⟩, (by (repeat' (first | assumption | exact Below.refl _ _ | refine Below.alloc ?_ ?_ _ | refine Below.setCell ?_ ?_ _ | refine Below.drew ?_ | refine below_drewN ?_ _)) <;> (first | omega | (simp <;> omega)))⟩
    · have h_e' : (e == 0) = false := by simp; omega
      have HS : Hid (¬ one ⟨6, 0, e, t, na, nc, ns⟩ n) := fun x => by simp [one] at x; exact h_e (by simp [x])
      clear hI
      go_enter Try.func59, Try.ntmps59
      go_wp2_with fail
      go_ret
      exact ⟨⟨false, rfl, fun h => (by cases h), fun h => absurd h HS.out⟩, (by (repeat' (first | assumption | exact Below.refl _ _ | refine Below.alloc ?_ ?_ _ | refine Below.setCell ?_ ?_ _ | refine Below.drew ?_ | refine below_drewN ?_ _)) <;> (first | omega | (simp <;> omega)))⟩
  · have h_m' : (m == 0) = false := by simp; omega
    have HS : Hid (¬ one ⟨6, m, e, t, na, nc, ns⟩ n) := fun x => by simp [one] at x; exact h_m (by simp [x])
    clear hI
    go_enter Try.func59, Try.ntmps59
    go_wp2_with fail
    go_ret
    exact ⟨⟨false, rfl, fun h => (by cases h), fun h => absurd h HS.out⟩, (by (repeat' (first | assumption | exact Below.refl _ _ | refine Below.alloc ?_ ?_ _ | refine Below.setCell ?_ ?_ _ | refine Below.drew ?_ | refine below_drewN ?_ _)) <;> (first | omega | (simp <;> omega)))⟩
set_option maxRecDepth 100000 in
set_option maxHeartbeats 1000000 in
theorem l7One_any (h : Hd) (a : Option Addr) (n c : Nat) (w : World) (hh : h.In w) :
    Calls Try.prog 59 #[valV h a n c] w fun r w' => SaysT (one h n) r ∧ Below w.heap.size w w' := by
  obtain ⟨k, m, e, t, na, nc, ns⟩ := h
  dsimp only [valV]
  obtain ⟨nl, hnl⟩ : ∃ nl, ns.length = nl := ⟨_, rfl⟩
  rw [hnl]
  by_cases hk : 0 ≤ k ∧ k ≤ 6
  · have hc : k = 0 ∨ k = 1 ∨ k = 2 ∨ k = 3 ∨ k = 4 ∨ k = 5 ∨ k = 6 := by omega
    clear hk
    rcases hc with rfl | rfl | rfl | rfl | rfl | rfl | rfl
    · exact l7One_0 m e t na nc ns a n c nl w hnl hh
    · exact l7One_1 m e t na nc ns a n c nl w hnl hh
    · exact l7One_2 m e t na nc ns a n c nl w hnl hh
    · exact l7One_3 m e t na nc ns a n c nl w hnl hh
    · exact l7One_4 m e t na nc ns a n c nl w hnl hh
    · exact l7One_5 m e t na nc ns a n c nl w hnl hh
    · exact l7One_6 m e t na nc ns a n c nl w hnl hh
  · have HNO : Hid (¬ one ⟨k, m, e, t, na, nc, ns⟩ n) := by
      unfold Hid one
      dsimp only
      intro h
      rcases h with ⟨h, _⟩ | ⟨h, _⟩ | ⟨h, _⟩ | ⟨h, _⟩ | ⟨h, _⟩ <;> omega
    have h0 : (k == 0) = false := by simp; omega
    have h1 : (k == 1) = false := by simp; omega
    have h2 : (k == 2) = false := by simp; omega
    have h3 : (k == 3) = false := by simp; omega
    have h4 : (k == 4) = false := by simp; omega
    have h5 : (k == 5) = false := by simp; omega
    have h6 : (k == 6) = false := by simp; omega
    clear hh hk
    go_enter Try.func59, Try.ntmps59
    go_wp2_with fail
    go_ret
    exact ⟨⟨false, rfl, fun h => (by cases h), fun h => absurd h HNO.out⟩, (Below.refl _ w).alloc (Nat.le_refl _) _⟩
end Go.Proofs.Ytpgpkdeiapeoiaa
/- Contract: ValueOk of the specification; both say the same. -/
namespace Go.Proofs.Ytpgpkdeiapeoiaa
open Go.RowKit
theorem Vo.deep_le (F : Vo) : F.deep ≤ F.size := by
  induction F with
  | nil => exact Nat.le_refl _
  | cons h a c kids next ih1 ih2 => show max (kids.deep + 1) next.deep ≤ kids.size + 1 + next.size; omega
set_option maxHeartbeats 1000000 in
theorem sValueSize_any (N : Nat) : ∀ (h : Hd) (a : Option Addr) (c : Nat) (F : Vo) (w : World), F.size < N → N ≤ 2000000 → F.In w a → F.len ≤ c → c ≤ maxLen →
    Calls Try.prog 39 #[valV h a F.len c] w fun e w' => e = .returned (.int .i64 (F.size + 1 : Nat)) ∧ Below w.heap.size w w' := by
  induction N with
  | zero => intro h a c F w hF; omega
  | succ N ih =>
    intro h a c F w hF hN hin hl hc
    unfold maxLen at hc
    have hll := F.len_le
    go_enter Try.func39, Try.ntmps39
    go_wp2_with fail
    go_loopw [3, 4] (fun o i wr => ∃ (j s : Nat) (G : Vo), i = .int .i64 j ∧ o = .int .i64 s ∧ j + G.len = F.len ∧ s + G.size = F.size + 1 ∧ 1 ≤ s ∧ (G = .nil ∨ ∃ b o', a = some ⟨b, o', none⟩ ∧ G.From wr b (o' + j * 6)) ∧ wr.cell? ⟨w.heap.size, 4, none⟩ = some (.slice a F.len c) ∧ Below w.heap.size w wr) (fun _ i _ => F.len - (intOf i).toNat)
    case atStart =>
      refine ⟨0, 1, F, rfl, rfl, by omega, by omega, Nat.le_refl _, ?_, by simp, (Below.refl _ _).alloc (Nat.le_refl _) _⟩
      rcases hin with h | ⟨b, o', e1, e2⟩
      · exact .inl h
      · exact .inr ⟨b, o', e1, by simpa using Vo.from_grow ((Below.refl _ w).alloc (Nat.le_refl _) _) F b o' e2⟩
    case round =>
      obtain ⟨j, s, G, rfl, rfl, hj, hs, hs1, hG, hcell, hb⟩ := hrel
      cases G with
      | nil =>
        have hj' : j = F.len := by simpa [Vo.len] using hj
        have hs' : s = F.size + 1 := by simpa [Vo.size] using hs
        subst hj' hs'
        clear hG hj hs
        go_wp2_with fail
        go_ret
        exact ⟨rfl, hb⟩
      | cons h' a' c' kids next =>
        rcases hG with hG | ⟨b, o', rfl, ⟨h1, h2, h3, h4, h5, h6⟩, hk, ⟨hc1, hc2⟩, _, hn⟩
        · cases hG
        · have hlt : (j : Int) < (F.len : Int) := by have : j + (next.len + 1) = F.len := hj; omega
          have hjl : j < F.len := by omega
          have hsz : s + (kids.size + 1 + next.size) = F.size + 1 := hs
          have hln : j + (next.len + 1) = F.len := hj
          clear hj hs hin
          go_wp2_with fail
          refine (ih h' a' c' kids wr (by omega) (by omega) hk hc1 hc2).mono ?_
          rintro e w1 ⟨rfl, hb1⟩
          have hn1 := Vo.from_grow hb1 next b _ hn
          have hz := hb.size
          have hlw := World.block_lt_of_cell? wr _ hcell
          have hcell1 : w1.cell? ⟨w.heap.size, 4, none⟩ = some (.slice (some ⟨b, o', none⟩) F.len c) := (hb1.cell (p := ⟨w.heap.size, 4, none⟩) hlw).trans hcell
          have hb2 := hb.trans (hb1.mono hz)
          clear h1 h2 h3 h4 h5 h6 hk hn hcell hb1 hb ih
          go_wp2_with fail
          go_round
          case rel =>
            refine ⟨j + 1, s + (kids.size + 1), next, by go_num, by go_num, by omega, by omega, by omega, .inr ⟨b, o', rfl, ?_⟩, hcell1, hb2⟩
            rw [show o' + (j + 1) * 6 = o' + j * 6 + 6 by omega]; exact hn1
          case measure => simp [intOf]; omega
set_option maxHeartbeats 1000000 in
theorem sDeepV_any (N : Nat) : ∀ (h : Hd) (a : Option Addr) (c : Nat) (F : Vo) (w : World), F.size < N → N ≤ 2000000 → F.In w a → F.len ≤ c → c ≤ maxLen →
    Calls Try.prog 40 #[valV h a F.len c] w fun e w' => e = .returned (.int .i64 (F.deep + 1 : Nat)) ∧ Below w.heap.size w w' := by
  induction N with
  | zero => intro h a c F w hF; omega
  | succ N ih =>
    intro h a c F w hF hN hin hl hc
    unfold maxLen at hc
    have hll := F.len_le
    have hdd := F.deep_le
    go_enter Try.func40, Try.ntmps40
    go_wp2_with fail
    go_loopw [3, 4] (fun o i wr => ∃ (j s : Nat) (G : Vo), i = .int .i64 j ∧ o = .int .i64 s ∧ j + G.len = F.len ∧ max s G.deep = F.deep ∧ G.size ≤ F.size ∧ (G = .nil ∨ ∃ b o', a = some ⟨b, o', none⟩ ∧ G.From wr b (o' + j * 6)) ∧ wr.cell? ⟨w.heap.size, 4, none⟩ = some (.slice a F.len c) ∧ Below w.heap.size w wr) (fun _ i _ => F.len - (intOf i).toNat)
    case atStart =>
      refine ⟨0, 0, F, rfl, rfl, by omega, by omega, Nat.le_refl _, ?_, by simp, (Below.refl _ _).alloc (Nat.le_refl _) _⟩
      rcases hin with h | ⟨b, o', e1, e2⟩
      · exact .inl h
      · exact .inr ⟨b, o', e1, by simpa using Vo.from_grow ((Below.refl _ w).alloc (Nat.le_refl _) _) F b o' e2⟩
    case round =>
      obtain ⟨j, s, G, rfl, rfl, hj, hs, hs1, hG, hcell, hb⟩ := hrel
      cases G with
      | nil =>
        have hj' : j = F.len := by simpa [Vo.len] using hj
        have hs' : s = F.deep := by simpa [Vo.deep] using hs
        subst hj' hs'
        clear hG hj hs
        go_wp2_with fail
        go_ret
        exact ⟨rfl, hb⟩
      | cons h' a' c' kids next =>
        rcases hG with hG | ⟨b, o', rfl, ⟨h1, h2, h3, h4, h5, h6⟩, hk, ⟨hc1, hc2⟩, _, hn⟩
        · cases hG
        · have hlt : (j : Int) < (F.len : Int) := by have : j + (next.len + 1) = F.len := hj; omega
          have hjl : j < F.len := by omega
          have hsz : kids.size + 1 + next.size ≤ F.size := hs1
          have hds : max s (max (kids.deep + 1) next.deep) = F.deep := hs
          have hln : j + (next.len + 1) = F.len := hj
          clear hj hs hin hs1
          go_wp2_with fail
          refine (ih h' a' c' kids wr (by omega) (by omega) hk hc1 hc2).mono ?_
          rintro e w1 ⟨rfl, hb1⟩
          have hn1 := Vo.from_grow hb1 next b _ hn
          have hz := hb.size
          have hlw := World.block_lt_of_cell? wr _ hcell
          have hcell1 : w1.cell? ⟨w.heap.size, 4, none⟩ = some (.slice (some ⟨b, o', none⟩) F.len c) := (hb1.cell (p := ⟨w.heap.size, 4, none⟩) hlw).trans hcell
          have hb2 := hb.trans (hb1.mono hz)
          have hkd : kids.deep + 1 ≤ F.deep := by omega
          clear h1 h2 h3 h4 h5 h6 hk hn hcell hb1 hb ih
          have HD : Hid (max s (max (kids.deep + 1) next.deep) = F.deep) := hds
          clear hds
          by_cases hd : s < kids.deep + 1
          · have hd' : (s : Int) < (kids.deep : Int) + 1 := by omega
            go_wp2_with fail
            go_round
            case rel =>
              refine ⟨j + 1, kids.deep + 1, next, by go_num, by go_num, by omega, ?_, by omega, .inr ⟨b, o', rfl, ?_⟩, hcell1, hb2⟩
              · have := HD.out; omega
              · rw [show o' + (j + 1) * 6 = o' + j * 6 + 6 by omega]; exact hn1
            case measure => simp [intOf]; omega
          · have hd' : ¬ (s : Int) < (kids.deep : Int) + 1 := by omega
            go_wp2_with fail
            go_round
            case rel =>
              refine ⟨j + 1, s, next, by go_num, by go_num, by omega, ?_, by omega, .inr ⟨b, o', rfl, ?_⟩, hcell1, hb2⟩
              · have := HD.out; omega
              · rw [show o' + (j + 1) * 6 = o' + j * 6 + 6 by omega]; exact hn1
            case measure => simp [intOf]; omega
/-- all in a list, and all in these, have just what their kinds have -/
def Vo.allOne : Vo → Prop
  | .nil => True
  | .cons h _ _ kids next => one h kids.len ∧ kids.allOne ∧ next.allOne
set_option maxRecDepth 100000 in
set_option maxHeartbeats 1000000 in
theorem l7All_any (N : Nat) : ∀ (h : Hd) (a : Option Addr) (c : Nat) (F : Vo) (w : World), F.size < N → N ≤ 2000000 → F.In w a → F.len ≤ c → c ≤ maxLen → h.In w →
    Calls Try.prog 41 #[valV h a F.len c] w fun r w' => SaysT (one h F.len ∧ F.allOne) r ∧ Below w.heap.size w w' := by
  induction N with
  | zero => intro h a c F w hF; omega
  | succ N ih =>
    intro h a c F w hF hN hin hl hc hh
    unfold maxLen at hc
    have hll := F.len_le
    have hB0 := (Below.refl _ w).alloc (Nat.le_refl _) (.cells #[.int .i64 h.k, .int .i64 h.m, .int .i64 h.e, .string h.t, .slice a F.len c, .slice h.na h.ns.length h.nc] 33)
    have R0 := Row.new w [.int .i64 h.k, .int .i64 h.m, .int .i64 h.e, .string h.t, .slice a F.len c, .slice h.na h.ns.length h.nc] 33
    have HO := fun W (hW : h.In W) => l7One_any h a F.len c W hW
    go_enter Try.func41, Try.ntmps41
    go_wp2_with fail
    refine (HO _ (hh.grow hB0)).mono ?_
    rintro r w1 ⟨⟨q, rfl, hq⟩, hb1⟩
    have hB1 := hB0.trans (hb1.mono hB0.size)
    have hcell0 := (R0.below hb1 R0.lt 4 _ rfl).1
    have HQ : Hid (q = true ↔ one h F.len) := hq
    clear hq R0 hB0 hb1 HO
    cases q
    · have HN : Hid (¬ (one h F.len ∧ F.allOne)) := fun x => by have := HQ.out.2 x.1; cases this
      clear ih hin
      go_wp2_with fail
      go_ret
      exact ⟨⟨false, rfl, fun h => (by cases h), fun h => absurd h HN.out⟩, hB1⟩
    · have HY : Hid (one h F.len) := HQ.out.1 rfl
      clear HQ
      go_wp2_with fail
      go_loopw [3] (fun i wr => ∃ (j : Nat) (G : Vo), i = .int .i64 j ∧ j + G.len = F.len ∧ (F.allOne ↔ G.allOne) ∧ G.size ≤ F.size ∧ (G = .nil ∨ ∃ b o', a = some ⟨b, o', none⟩ ∧ G.From wr b (o' + j * 6)) ∧ wr.cell? ⟨w.heap.size, 4, none⟩ = some (.slice a F.len c) ∧ Below w.heap.size w wr) (fun i _ => F.len - (intOf i).toNat)
      case atStart =>
        refine ⟨0, F, rfl, by omega, Iff.rfl, Nat.le_refl _, ?_, hcell0, hB1⟩
        rcases hin with h | ⟨b, o', e1, e2⟩
        · exact .inl h
        · exact .inr ⟨b, o', e1, by simpa using Vo.from_grow hB1 F b o' e2⟩
      case round =>
        obtain ⟨j, G, rfl, hj, hs, hs1, hG, hcell, hb⟩ := hrel
        have HA : Hid (F.allOne ↔ G.allOne) := hs
        clear hs hcell0
        cases G with
        | nil =>
          have hj' : j = F.len := by simpa [Vo.len] using hj
          have HR : Hid (one h F.len ∧ F.allOne) := ⟨HY.out, HA.out.2 trivial⟩
          subst hj'
          clear hG hj HA ih
          go_wp2_with fail
          go_ret
          exact ⟨⟨true, rfl, fun _ => HR.out, fun _ => rfl⟩, hb⟩
        | cons h' a' c' kids next =>
          rcases hG with hG | ⟨b, o', rfl, ⟨h1, h2, h3, h4, h5, h6⟩, hk, ⟨hc1, hc2⟩, hh', hn⟩
          · cases hG
          · have hln : j + (next.len + 1) = F.len := hj
            have hlt : (j : Int) < (F.len : Int) := by omega
            have hjl : j < F.len := by omega
            have hsz : kids.size + 1 + next.size ≤ F.size := hs1
            clear hj hs1 hin
            go_wp2_with fail
            refine (ih h' a' c' kids wr (by omega) (by omega) hk hc1 hc2 hh').mono ?_
            rintro r w2 ⟨⟨q, rfl, hq⟩, hb2⟩
            have HQ : Hid (q = true ↔ (one h' kids.len ∧ kids.allOne)) := hq
            have hn2 := Vo.from_grow hb2 next b _ hn
            have hcell2 : w2.cell? ⟨w.heap.size, 4, none⟩ = some (.slice (some ⟨b, o', none⟩) F.len c) := (hb2.cell (p := ⟨w.heap.size, 4, none⟩) (World.block_lt_of_cell? wr _ hcell)).trans hcell
            have hb3 := hb.trans (hb2.mono hb.size)
            clear h1 h2 h3 h4 h5 h6 hk hn hcell hb2 hb ih hq hh'
            cases q
            · have HN : Hid (¬ (one h F.len ∧ F.allOne)) := fun x => by
                have hx := HA.out.1 x.2
                have := HQ.out.2 ⟨hx.1, hx.2.1⟩
                cases this
              go_wp2_with fail
              go_ret
              exact ⟨⟨false, rfl, fun h => (by cases h), fun h => absurd h HN.out⟩, hb3⟩
            · have HA2 : Hid (F.allOne ↔ next.allOne) := HA.out.trans ⟨fun x => x.2.2, fun x => ⟨(HQ.out.1 rfl).1, (HQ.out.1 rfl).2, x⟩⟩
              clear HQ HA
              go_wp2_with fail
              go_round
              case rel =>
                refine ⟨j + 1, next, by go_num, by omega, HA2.out, by omega, .inr ⟨b, o', rfl, ?_⟩, hcell2, hb3⟩
                rw [show o' + (j + 1) * 6 = o' + j * 6 + 6 by omega]; exact hn2
              case measure => simp [intOf]; omega
/-- a value that is ok, as the specification has it -/
def ValOk (h : Hd) (F : Vo) : Prop := F.size + 1 ≤ 200 ∧ F.deep + 1 ≤ 20 ∧ one h F.len ∧ F.allOne
set_option maxRecDepth 100000 in
set_option maxHeartbeats 1000000 in
theorem sValueOk_any (h : Hd) (a : Option Addr) (c : Nat) (F : Vo) (w : World) (hF : F.size ≤ 1900000) (hin : F.In w a) (hl : F.len ≤ c) (hc : c ≤ maxLen) (hh : h.In w) :
    Calls Try.prog 20 #[valV h a F.len c] w fun r w' => SaysT (ValOk h F) r ∧ Below w.heap.size w w' := by
  have hdd := F.deep_le
  have hB0 := (Below.refl _ w).alloc (Nat.le_refl _) (.cells #[.int .i64 h.k, .int .i64 h.m, .int .i64 h.e, .string h.t, .slice a F.len c, .slice h.na h.ns.length h.nc] 33)
  have X0 := BxV.new w h (.slice a F.len c) 33
  have HI : Hid (∀ W, Below w.heap.size w W → F.In W a ∧ h.In W) := fun W h' => ⟨hin.grow h', hh.grow h'⟩
  clear hin hh
  go_enter Try.func20, Try.ntmps20
  go_wp2_with fail
  refine (sValueSize_any (F.size + 1) h a c F _ (Nat.lt_succ_self _) (by omega) (HI.out _ hB0).1 hl hc).mono ?_
  rintro r w1 ⟨rfl, hb1⟩
  have hB1 := hB0.trans (hb1.mono hB0.size)
  have X1 := X0.below hb1
  clear X0 hB0 hb1
  by_cases h1 : F.size + 1 ≤ 200
  · have h1' : (F.size : Int) + 1 ≤ 200 := by omega
    obtain ⟨x0, x1, x2, x3, x4, x5⟩ := id X1
    go_wp2_with fail
    refine (sDeepV_any (F.size + 1) h a c F _ (Nat.lt_succ_self _) (by omega) (HI.out _ hB1).1 hl hc).mono ?_
    rintro r w2 ⟨rfl, hb2⟩
    have hB2 := hB1.trans (hb2.mono hB1.size)
    have X2 := X1.below hb2
    clear X1 hB1 hb2 x0 x1 x2 x3 x4 x5
    by_cases h2 : F.deep + 1 ≤ 20
    · have h2' : (F.deep : Int) + 1 ≤ 20 := by omega
      obtain ⟨x0, x1, x2, x3, x4, x5⟩ := id X2
      go_wp2_with fail
      refine (l7All_any (F.size + 1) h a c F _ (Nat.lt_succ_self _) (by omega) (HI.out _ hB2).1 hl hc (HI.out _ hB2).2).mono ?_
      rintro r w3 ⟨⟨q, rfl, hq⟩, hb3⟩
      have hB3 := hB2.trans (hb3.mono hB2.size)
      have HQ : Hid (q = true ↔ ValOk h F) := hq.trans ⟨fun x => ⟨h1, h2, x.1, x.2⟩, fun x => ⟨x.2.2.1, x.2.2.2⟩⟩
      clear hq X2 x0 x1 x2 x3 x4 x5
      go_wp2_with fail
      go_ret
      exact ⟨⟨q, rfl, HQ.out⟩, hB3⟩
    · have h2' : ¬ (F.deep : Int) + 1 ≤ 20 := by omega
      have HN : Hid (¬ ValOk h F) := fun x => h2 x.2.1
      go_wp2_with fail
      go_ret
      exact ⟨⟨false, rfl, fun h => (by cases h), fun h => absurd h HN.out⟩, hB2⟩
  · have h1' : ¬ (F.size : Int) + 1 ≤ 200 := by omega
    have HN : Hid (¬ ValOk h F) := fun x => h1 x.1
    go_wp2_with fail
    go_ret
    exact ⟨⟨false, rfl, fun h => (by cases h), fun h => absurd h HN.out⟩, hB1⟩
theorem all_flat (B : Nat) : ∀ (F : Vo) (d : Nat), (∀ x ∈ F.flat d, x.1 ≤ B ∧ one x.2.1 x.2.2.len) ↔ ((F.deep = 0 ∨ d + F.deep ≤ B + 1) ∧ F.allOne) := by
  intro F
  induction F with
  | nil => intro d; exact ⟨fun _ => ⟨.inl rfl, trivial⟩, fun _ x hx => absurd hx List.not_mem_nil⟩
  | cons h a c kids next ih1 ih2 =>
    intro d
    have e : (Vo.cons h a c kids next).deep = max (kids.deep + 1) next.deep := rfl
    have i1 := ih1 (d + 1)
    have i2 := ih2 d
    constructor
    · intro hx
      have x0 := hx (d, h, kids) (List.mem_cons_self)
      have x1 := i1.1 fun x m => hx x (List.mem_cons_of_mem _ (List.mem_append_left _ m))
      have x2 := i2.1 fun x m => hx x (List.mem_cons_of_mem _ (List.mem_append_right _ m))
      refine ⟨.inr ?_, x0.2, x1.2, x2.2⟩
      have := x0.1
      rw [e]
      dsimp only at this
      omega
    · rintro ⟨hd, h1, h2, h3⟩ x hx
      rw [e] at hd
      rcases List.mem_cons.1 hx with rfl | hx
      · exact ⟨by show d ≤ B; omega, h1⟩
      · rcases List.mem_append.1 hx with hx | hx
        · exact i1.2 ⟨by omega, h2⟩ x hx
        · exact i2.2 ⟨by omega, h3⟩ x hx
/-- both say the same -/
theorem good_ok (h : Hd) (F : Vo) : ValGood h F ↔ ValOk h F := by
  unfold ValGood ValOk
  have hl : ((1, h, F) :: F.flat 2).length = F.size + 1 := by rw [List.length_cons, F.flat_len]
  rw [hl]
  have ha := all_flat 20 F 2
  constructor
  · rintro ⟨h1, h2⟩
    have x0 := h2 (1, h, F) List.mem_cons_self
    have x1 := ha.1 fun x m => h2 x (List.mem_cons_of_mem _ m)
    exact ⟨h1, by omega, x0.2, x1.2⟩
  · rintro ⟨h1, h2, h3, h4⟩
    refine ⟨h1, fun x hx => ?_⟩
    rcases List.mem_cons.1 hx with rfl | hx
    · exact ⟨by show 1 ≤ 20; omega, h3⟩
    · exact ha.2 ⟨by omega, h4⟩ x hx
theorem Vo.alike_deep : ∀ {G F : Vo}, F.alike G → F.deep = G.deep := by
  intro G
  induction G with
  | nil => intro F h; rw [Vo.alike_nil h]
  | cons h a c kids next ih1 ih2 =>
    intro F x
    obtain ⟨h', a', c', kids', next', rfl, _, h1, h2⟩ := Vo.alike_cons x
    show max (kids'.deep + 1) next'.deep = max (kids.deep + 1) next.deep
    rw [ih1 h1, ih2 h2]
theorem one_same {h g : Hd} (x : h.same g) (n : Nat) : one h n ↔ one g n := by
  obtain ⟨⟨e1, e2, e3, e4⟩, e5⟩ := x
  unfold one
  rw [e1, e2, e3, e4, e5]
theorem Vo.alike_one : ∀ {G F : Vo}, F.alike G → (F.allOne ↔ G.allOne) := by
  intro G
  induction G with
  | nil => intro F h; rw [Vo.alike_nil h]
  | cons h a c kids next ih1 ih2 =>
    intro F x
    obtain ⟨h', a', c', kids', next', rfl, h0, h1, h2⟩ := Vo.alike_cons x
    show (one h' kids'.len ∧ kids'.allOne ∧ next'.allOne) ↔ (one h kids.len ∧ kids.allOne ∧ next.allOne)
    rw [Vo.alike_len h1, one_same h0, ih1 h1, ih2 h2]
/-- a copy is ok just if what it was made of is -/
theorem ok_copy {h : Hd} {m : Nat} {F F1 : Vo} (x : F1.alike F) : ValOk (h.to m) F1 ↔ ValOk h F := by
  unfold ValOk
  rw [Vo.alike_size x, Vo.alike_deep x, Vo.alike_len x, one_same (h.to_same m), Vo.alike_one x]
end Go.Proofs.Ytpgpkdeiapeoiaa
/- Values as JSON: the mathematics. -/
namespace Go.Proofs.Ytpgpkdeiapeoiaa
open Go.RowKit
/-- a value of which all is right, but for how great it is -/
def FitJ (h : Hd) (F : Vo) : Prop := one h F.len ∧ F.allOne
def nameAt (ns : List ByteArray) (i : Nat) : ByteArray := ns.getD i ⟨#[]⟩
theorem nameAt_some {ns : List ByteArray} {i : Nat} (h : i < ns.length) : ns[i]? = some (nameAt ns i) := by
  unfold nameAt
  rw [List.getElem?_eq_getElem h, List.getD_eq_getElem?_getD, List.getElem?_eq_getElem h]; rfl
/-- one item, with what stands ahead of it -/
def jpiece (step gap : List UInt8) (f : Hd → Vo → List UInt8 → List UInt8) (ob : Bool) (ns : List ByteArray) (F : Vo) (line : List UInt8) (i : Nat) : List UInt8 :=
  (if i = 0 then [] else [44]) ++ ((line ++ step) ++ ((if ob then Qm.jquote (nameAt ns i).data.toList ++ ([58] ++ gap) else []) ++ f (F.hdAt i) (F.kidsAt i) (line ++ step)))
/-- the first n items -/
def jitems (step gap : List UInt8) (f : Hd → Vo → List UInt8 → List UInt8) (ob : Bool) (ns : List ByteArray) (F : Vo) (line : List UInt8) : Nat → List UInt8
  | 0 => []
  | n + 1 => jitems step gap f ob ns F line n ++ jpiece step gap f ob ns F line n
/-- all that stands between the brackets -/
def jinner (step gap : List UInt8) (f : Hd → Vo → List UInt8 → List UInt8) (ob : Bool) (ns : List ByteArray) (F : Vo) (line : List UInt8) : List UInt8 :=
  jitems step gap f ob ns F line F.len ++ (if F.len = 0 then [] else line)
/-- a value that stands in a line that begins so -/
def jtext (step gap : List UInt8) : Nat → Hd → Vo → List UInt8 → List UInt8
  | 0, _, _, _ => []
  | N + 1, h, F, line =>
    if h.k = 0 then [110, 117, 108, 108] else if h.k = 1 then [116, 114, 117, 101] else if h.k = 2 then [102, 97, 108, 115, 101] else
    if h.k = 3 then Tm.text h.m h.e else if h.k = 4 then Qm.jquote h.t.data.toList else
    if h.k = 5 then [91] ++ (jinner step gap (jtext step gap N) false [] F line ++ [93]) else [123] ++ (jinner step gap (jtext step gap N) true h.ns F line ++ [125])
theorem alikeJ_at : ∀ {F G : Vo} (i : Nat), F.alike G → (F.hdAt i).same (G.hdAt i) ∧ (F.kidsAt i).alike (G.kidsAt i) := by
  intro F
  induction F with
  | nil => intro G i h; cases G with
    | nil => exact ⟨Hd.same_refl _, trivial⟩
    | cons => exact h.elim
  | cons h a c kids next _ ih =>
    intro G i x
    cases G with
    | nil => exact x.elim
    | cons h' a' c' kids' next' =>
      cases i with
      | zero => exact ⟨x.1, x.2.1⟩
      | succ i => exact ih i x.2.2
theorem jitems_alike {step gap : List UInt8} {f : Hd → Vo → List UInt8 → List UInt8} (hf : ∀ {h h' : Hd} {F F' : Vo} (l : List UInt8), h.same h' → F.alike F' → f h F l = f h' F' l) (ob : Bool) (ns : List ByteArray) {F F' : Vo} (line : List UInt8) (hF : F.alike F') : ∀ n, jitems step gap f ob ns F line n = jitems step gap f ob ns F' line n := by
  intro n
  induction n with
  | zero => rfl
  | succ n ih =>
    show jitems step gap f ob ns F line n ++ jpiece step gap f ob ns F line n = jitems step gap f ob ns F' line n ++ jpiece step gap f ob ns F' line n
    unfold jpiece
    rw [ih, hf (line ++ step) (alikeJ_at n hF).1 (alikeJ_at n hF).2]
theorem jtext_alike (step gap : List UInt8) : ∀ (N : Nat) {h h' : Hd} {F F' : Vo} (l : List UInt8), h.same h' → F.alike F' → jtext step gap N h F l = jtext step gap N h' F' l := by
  intro N
  induction N with
  | zero => intros; rfl
  | succ N ih =>
    intro h h' F F' l x y
    obtain ⟨⟨a, b, c, d⟩, e⟩ := x
    have hin : ∀ ob ns, jinner step gap (jtext step gap N) ob ns F l = jinner step gap (jtext step gap N) ob ns F' l := fun ob ns => by
      unfold jinner
      rw [jitems_alike ih ob ns l y, Vo.alike_len y]
    unfold jtext
    rw [a, b, c, d, e, hin, hin]
theorem fitJ_at : ∀ {F : Vo} {i : Nat}, i < F.len → F.allOne → FitJ (F.hdAt i) (F.kidsAt i) := by
  intro F
  induction F with
  | nil => intro i h; exact absurd h (Nat.not_lt_zero _)
  | cons h a c kids next _ ih =>
    rintro i hi ⟨h1, h2, h3⟩
    cases i with
    | zero => exact ⟨h1, h2⟩
    | succ i => exact ih (show i < next.len from Nat.lt_of_succ_lt_succ hi) h3
theorem name_short {s : ByteArray} (h : Qm.name s = true) : s.size ≤ 12 := by
  unfold Qm.name at h
  simp only [Bool.and_eq_true, decide_eq_true_eq] at h
  exact h.1.2.2
theorem asc_short {ns : List ByteArray} (h : nmAsc ns ns.length) (i : Nat) : (nameAt ns i).size ≤ 12 := by
  by_cases hi : i < ns.length
  · exact name_short (h i _ hi (nameAt_some hi)).1
  · unfold nameAt
    rw [List.getD_eq_getElem?_getD, List.getElem?_eq_none (by omega)]
    show 0 ≤ 12
    omega
theorem oneJ {h : Hd} {n : Nat} (x : one h n) : (0 ≤ h.k ∧ h.k ≤ 6) ∧ (h.k = 3 → Dm.ok h.m h.e = true) ∧ (h.k = 4 → h.t.size ≤ 1500) ∧ (h.k = 6 → h.ns.length = n ∧ nmAsc h.ns h.ns.length) ∧ (h.k ≤ 4 → n = 0) := by
  rcases x with ⟨h1, _, h2⟩ | ⟨h1, h2, _, h3⟩ | ⟨h1, h2, _, h3⟩ | ⟨h1, _⟩ | ⟨h1, h2, _⟩
  · exact ⟨by omega, fun _ => by omega, fun _ => by omega, fun _ => by omega, fun _ => h2⟩
  · exact ⟨by omega, fun _ => h2, fun _ => by omega, fun _ => by omega, fun _ => h3⟩
  · exact ⟨by omega, fun _ => by omega, fun _ => h2, fun _ => by omega, fun _ => h3⟩
  · exact ⟨by omega, fun _ => by omega, fun _ => by omega, fun _ => by omega, fun _ => by omega⟩
  · exact ⟨by omega, fun _ => by omega, fun _ => by omega, fun _ => h2, fun _ => by omega⟩
/-- so many values are in the first n -/
def Vo.sumJ (F : Vo) : Nat → Nat
  | 0 => 0
  | n + 1 => F.sumJ n + ((F.kidsAt n).size + 1)
theorem sumJ_next (h : Hd) (a : Option Addr) (c : Nat) (kids next : Vo) (n : Nat) : (Vo.cons h a c kids next).sumJ (n + 1) = kids.size + 1 + next.sumJ n := by
  induction n with
  | zero => show 0 + (kids.size + 1) = kids.size + 1 + 0; omega
  | succ n ih => show (Vo.cons h a c kids next).sumJ (n + 1) + ((next.kidsAt n).size + 1) = kids.size + 1 + (next.sumJ n + ((next.kidsAt n).size + 1)); rw [ih]; omega
theorem sumJ_len (F : Vo) : F.sumJ F.len = F.size := by
  induction F with
  | nil => rfl
  | cons h a c kids next _ ih => show (Vo.cons h a c kids next).sumJ (next.len + 1) = kids.size + 1 + next.size; rw [sumJ_next, ih]
theorem sumJ_le (F : Vo) {i n : Nat} (h : i ≤ n) : F.sumJ i ≤ F.sumJ n := by
  induction n with
  | zero => rw [Nat.le_zero.1 h]; exact Nat.le_refl _
  | succ n ih =>
    by_cases e : i = n + 1
    · rw [e]; exact Nat.le_refl _
    · exact Nat.le_trans (ih (by omega)) (by show F.sumJ n ≤ F.sumJ n + _; omega)
/-- how long a value's text is at most -/
theorem jitems_len {step gap : List UInt8} (hs : step.length ≤ 2) (hg : gap.length ≤ 2) {f : Hd → Vo → List UInt8 → List UInt8} {F : Vo} {line : List UInt8} (hl : line.length ≤ 1000)
    (hf : ∀ i, i < F.len → (f (F.hdAt i) (F.kidsAt i) (line ++ step)).length ≤ 13000 * (F.kidsAt i).size + 11000) (ob : Bool) {ns : List ByteArray} (hns : ob = true → ∀ i, (nameAt ns i).size ≤ 12) :
    ∀ n, n ≤ F.len → (jitems step gap f ob ns F line n).length ≤ 13000 * F.sumJ n := by
  intro n
  induction n with
  | zero => intro _; exact Nat.zero_le _
  | succ n ih =>
    intro hn
    have h1 := ih (by omega)
    have h2 := hf n (by omega)
    have e1 : (if n = 0 then ([] : List UInt8) else [44]).length ≤ 1 := by split <;> simp
    have e2 : (if ob then Qm.jquote (nameAt ns n).data.toList ++ ([58] ++ gap) else []).length ≤ 80 := by
      cases ob
      · simp
      · have h3 := hns rfl n
        have h4 := Qm.jquote_length (nameAt ns n).data.toList
        rw [Qm.len_eq] at h4
        simp only [if_true, List.length_append, List.length_cons, List.length_nil]
        omega
    have e3 : (jpiece step gap f ob ns F line n).length ≤ 1 + (1002 + (80 + (13000 * (F.kidsAt n).size + 11000))) := by
      unfold jpiece
      rw [List.length_append, List.length_append, List.length_append, List.length_append]
      omega
    show (jitems step gap f ob ns F line n ++ jpiece step gap f ob ns F line n).length ≤ 13000 * (F.sumJ n + ((F.kidsAt n).size + 1))
    rw [List.length_append]
    omega
theorem jtext_len {step gap : List UInt8} (hs : step.length ≤ 2) (hg : gap.length ≤ 2) : ∀ (N : Nat) (h : Hd) (F : Vo) (line : List UInt8), line.length + 2 * N ≤ 1000 → FitJ h F → (jtext step gap N h F line).length ≤ 13000 * F.size + 11000 := by
  intro N
  induction N with
  | zero => intro h F line _ _; exact Nat.zero_le _
  | succ N ih =>
    intro h F line hl hfit
    obtain ⟨⟨k0, k6⟩, k3, k4, k66, _⟩ := oneJ hfit.1
    have hin : ∀ ob ns, (ob = true → ∀ i, (nameAt ns i).size ≤ 12) → (jinner step gap (jtext step gap N) ob ns F line).length ≤ 13000 * F.size + 1000 := fun ob ns hn => by
      unfold jinner
      rw [List.length_append]
      have h1 := jitems_len hs hg (f := jtext step gap N) (F := F) (line := line) (by omega) (fun i hi => ih _ _ _ (by rw [List.length_append]; omega) (fitJ_at hi hfit.2)) ob hn F.len (Nat.le_refl _)
      rw [sumJ_len] at h1
      have h2 : (if F.len = 0 then ([] : List UInt8) else line).length ≤ 1000 := by
        split
        · exact Nat.zero_le _
        · omega
      omega
    unfold jtext
    by_cases c0 : h.k = 0
    · rw [if_pos c0]; simp only [List.length_cons, List.length_nil]; omega
    rw [if_neg c0]
    by_cases c1 : h.k = 1
    · rw [if_pos c1]; simp only [List.length_cons, List.length_nil]; omega
    rw [if_neg c1]
    by_cases c2 : h.k = 2
    · rw [if_pos c2]; simp only [List.length_cons, List.length_nil]; omega
    rw [if_neg c2]
    by_cases c3 : h.k = 3
    · rw [if_pos c3]
      have ho := (Dm.ok_iff h.m h.e).1 (k3 c3)
      have hb : (Tm.body h.m.natAbs h.e).length ≤ 40 := Tm.body_len _ _ (by omega) (by omega)
      have : (Tm.text h.m h.e).length ≤ 41 := by
        unfold Tm.text
        rw [List.length_append]
        have : (if h.m < 0 then ([45] : List UInt8) else []).length ≤ 1 := by split <;> simp
        omega
      omega
    rw [if_neg c3]
    by_cases c4 : h.k = 4
    · rw [if_pos c4]
      have h1 := Qm.jquote_length h.t.data.toList
      rw [Qm.len_eq] at h1
      have := k4 c4
      omega
    rw [if_neg c4]
    by_cases c5 : h.k = 5
    · rw [if_pos c5]
      have := hin false [] (fun e => by cases e)
      simp only [List.length_append, List.length_cons, List.length_nil]
      omega
    rw [if_neg c5]
    have := hin true h.ns (fun _ i => asc_short (k66 (by omega)).2 i)
    simp only [List.length_append, List.length_cons, List.length_nil]
    omega
end Go.Proofs.Ytpgpkdeiapeoiaa
/- Values as JSON, by the program: boxes beside a builder; where a text is written. -/
namespace Go.Proofs.Ytpgpkdeiapeoiaa
open Go.RowKit
/-- block b has just these cells -/
def Box (W : World) (b : Nat) (T : TypeId) (cs : List Value) : Prop := W.heap[b]? = some (.cells cs.toArray T (0, 0))
theorem Box.new (w : World) (T : TypeId) (cs : List Value) : Box (w.alloc (.cells cs.toArray T)) w.heap.size T cs := by
  show (w.heap.push _)[w.heap.size]? = _
  rw [Array.getElem?_push, if_pos rfl]
theorem Box.lt {W : World} {b : Nat} {T : TypeId} {cs : List Value} (h : Box W b T cs) : b < W.heap.size := (Array.getElem?_eq_some_iff.1 h).1
theorem Box.below {B : Nat} {W W' : World} {b : Nat} {T : TypeId} {cs : List Value} (h : Box W b T cs) (hb : Below B W W') (hB : b < B) : Box W' b T cs := (hb.block _ hB).trans h
theorem Box.kept {W W' : World} {b k : Nat} {T : TypeId} {cs : List Value} (h : Box W b T cs) (hk : Lib.OthersKept 5 (some k) W W') (hne : b ≠ k) (hT : T ≠ 5) : Box W' b T cs :=
  hk b _ h (fun e => hne (Option.some.inj e)) (fun c fz e => by cases e; exact hT rfl)
theorem Box.cell {W : World} {b : Nat} {T : TypeId} {cs : List Value} (h : Box W b T cs) {i : Nat} {v : Value} (hi : cs[i]? = some v) : W.cell? ⟨b, i, none⟩ = some v := by
  unfold Box at h
  simp [World.cell?, h, hi]
theorem kept_of_below {e : TypeId} {b : Option Nat} {w w' : World} (hb : Below w.heap.size w w') : Lib.OthersKept e b w w' := fun k _ h _ _ =>
  (hb.block k (Array.getElem?_eq_some_iff.1 h).1).trans h
theorem rowF_belowJ {W W' : World} {base : Nat} {e : TypeId} {size : Nat} {v : Value} {n : Nat} {xs : List Value} (h : W.ownsRowF base e size v n xs) (hb : Below W.heap.size W W') : W'.ownsRowF base e size v n xs := by
  obtain ⟨h1, h2⟩ := h
  rcases h2 with h2 | ⟨g, cap, cur, fz, e1, e2, e3, e4⟩
  · exact ⟨h1, .inl h2⟩
  · exact ⟨h1, .inr ⟨g, cap, cur, fz, e1, e2, (hb.block g (Array.getElem?_eq_some_iff.1 e3).1).trans e3, e4⟩⟩
theorem holds_belowJ {B k : Nat} {acc : List UInt8} {W W' : World} (h : Holds B k acc W) (hb : Below W.heap.size W W') : Holds B k acc W' := by
  have hlt := holds_lt h
  rcases h with ⟨hB, v, hv, hown, hne⟩ | ⟨hB, v, hv, hown, hne⟩
  · exact .inl ⟨hB, v, (hb.block k hlt).trans hv, rowF_belowJ hown hb, hne⟩
  · exact .inr ⟨hB, v, (hb.block k hlt).trans hv, rowF_belowJ hown hb, hne⟩
/-- what was written since w0: the builder's box is kb, its memory lies from B on -/
def Wr (B kb : Nat) (w0 : World) (acc : List UInt8) (W : World) : Prop := (Holds B kb acc W ∧ B ≤ W.heap.size) ∧ Below B w0 W ∧ Lib.OthersKept 5 (some kb) w0 W
theorem Wr.start {B kb : Nat} {acc : List UInt8} {w : World} (h : Holds B kb acc w) (hB : B ≤ w.heap.size) : Wr B kb w acc w := ⟨⟨h, hB⟩, Below.refl _ _, Lib.OthersKept.refl _ _ _⟩
theorem Wr.below {B kb : Nat} {acc : List UInt8} {w0 W W' : World} (h : Wr B kb w0 acc W) (hb : Below W.heap.size W W') : Wr B kb w0 acc W' :=
  ⟨⟨holds_belowJ h.1.1 hb, Nat.le_trans h.1.2 hb.size⟩, h.2.1.trans (hb.mono h.1.2), kept_trans h.2.2 (kept_of_below hb)⟩
theorem Wr.alloc {B kb : Nat} {acc : List UInt8} {w0 W : World} (h : Wr B kb w0 acc W) (o : Obj) : Wr B kb w0 acc (W.alloc o) := h.below ((Below.refl _ W).alloc (Nat.le_refl _) o)
theorem Wr.wrote {B kb : Nat} {acc acc' : List UInt8} {w0 W W' : World} (h : Wr B kb w0 acc W) (h1 : Holds B kb acc' W') (h2 : Below B W W') (h3 : Lib.OthersKept 5 (some kb) W W') : Wr B kb w0 acc' W' :=
  ⟨⟨h1, Nat.le_trans h.1.2 h2.size⟩, h.2.1.trans h2, kept_trans h.2.2 h3⟩
/-- a writer -/
abbrev wrV (kb : Nat) (step gap : ByteArray) : Value := .agg #[.pointer (some ⟨kb, 0, none⟩), .string ⟨#[92, 117, 48, 48]⟩, .string ⟨#[34, 92, 47, 98, 102, 110, 114, 116]⟩, .string ⟨#[34, 92, 47, 8, 12, 10, 13, 9]⟩, .int .i64 2, .string step, .string gap]
def wrCells (kb : Nat) (step gap : ByteArray) : List Value := [.pointer (some ⟨kb, 0, none⟩), .string ⟨#[92, 117, 48, 48]⟩, .string ⟨#[34, 92, 47, 98, 102, 110, 114, 116]⟩, .string ⟨#[34, 92, 47, 8, 12, 10, 13, 9]⟩, .int .i64 2, .string step, .string gap]
def vCells (h : Hd) (a : Option Addr) (n c : Nat) : List Value := [.int .i64 h.k, .int .i64 h.m, .int .i64 h.e, .string h.t, .slice a n c, .slice h.na h.ns.length h.nc]
theorem write_method (v : Value) (W : World) : (method 233 45 v "WriteString").run Try.prog W = .ok (81, v) W := by kernel_rfl
/-- a text is written -/
theorem Wr.text {B kb : Nat} {acc l : List UInt8} {w0 W : World} (h : Wr B kb w0 acc W) (s : ByteArray) (hs : s.data.toList = l) (hlen : acc.length + l.length ≤ 100000000) :
    Calls Try.prog 81 #[.pointer (some ⟨kb, 0, none⟩), .string s] W fun e w' => e = .returned (.tuple #[.int .i64 s.size, .nilIface]) ∧ Wr B kb w0 (acc ++ l) w' ∧ Lib.OthersKept 5 (some kb) W w' ∧ Below B W w' := by
  have hl : l.length = s.size := by rw [← hs, Qm.len_eq]
  refine (wText B kb acc l s hs W h.1.1 (by omega) h.1.2).mono ?_
  rintro e w' ⟨rfl, h1, h2, h3⟩
  exact ⟨rfl, h.wrote h1 h2 h3, h3, h2⟩
end Go.Proofs.Ytpgpkdeiapeoiaa
/- Values as JSON, by the program: the regions of a writer that draw. -/
namespace Go.Proofs.Ytpgpkdeiapeoiaa
open Go.RowKit
set_option maxRecDepth 100000 in
set_option maxHeartbeats 1000000 in
theorem jv12 {Q : Exit → Act → World → Prop} {t0 t1 t2 t4 t5 t6 t7 t9 t10 t11 t12 t13 t14 t15 t16 t17 t18 t19 t20 t21 t22 t23 t24 t25 t26 t27 t28 t29 t30 t31 t32 t33 t34 t35 t36 t37 t38 t39 t40 t41 t42 t43 t44 t45 t46 t47 t48 t49 t50 t51 t52 t53 t54 t55 t56 t57 t58 t59 t60 t61 t62 t63 t64 t65 t66 t67 t68 t69 t70 t71 t72 t73 t74 t75 t76 t77 t78 t79 t80 t81 t82 t83 t84 t85 : Value} {W w0 : World} {B kb b3 : Nat} {acc : List UInt8} {step gap : ByteArray} {b8 : Nat} {m e : Int}
    (h0 : Box W b3 52 (wrCells kb step gap)) (hW : Wr B kb w0 acc W) (hne : b3 ≠ kb) (h8 : Box W b8 79 [.int .i64 m, .int .i64 e]) (hne8 : b8 ≠ kb) (hlen : acc.length + (textOf m e).length ≤ 100000000)
    (hp : ∀ p d v a w, Q (.panic p) (Act.put a d v) w → Q (.panic p) a w) (h_ : ∀ ws v36 v37 v38 v39 v40 v41, Wr B kb w0 (acc ++ textOf m e) ws → Lib.OthersKept 5 (some kb) W ws → Q .normal { tmps := (t0 :: t1 :: t2 :: (.pointer (some ⟨b3, 0, none⟩)) :: t4 :: t5 :: t6 :: t7 :: (.pointer (some ⟨b8, 0, none⟩)) :: t9 :: t10 :: t11 :: t12 :: t13 :: t14 :: t15 :: t16 :: t17 :: t18 :: t19 :: t20 :: t21 :: t22 :: t23 :: t24 :: t25 :: t26 :: t27 :: t28 :: t29 :: t30 :: t31 :: t32 :: t33 :: t34 :: t35 :: v36 :: v37 :: v38 :: v39 :: v40 :: v41 :: t42 :: t43 :: t44 :: t45 :: t46 :: t47 :: t48 :: t49 :: t50 :: t51 :: t52 :: t53 :: t54 :: t55 :: t56 :: t57 :: t58 :: t59 :: t60 :: t61 :: t62 :: t63 :: t64 :: t65 :: t66 :: t67 :: t68 :: t69 :: t70 :: t71 :: t72 :: t73 :: t74 :: t75 :: t76 :: t77 :: t78 :: t79 :: t80 :: t81 :: t82 :: t83 :: t84 :: t85 :: []).toArray, defers := [] } ws) :
    Code.wp Try.prog (Code.region 12 #[{ dst := some 36, op := Op.fieldAddr 52 (Operand.tmp 3) 0, type := 0, pos := "l7_value.go:266", after := #[], guard := none }, { dst := some 37, op := Op.load 45 (Operand.tmp 36), type := 45, pos := "l7_value.go:266", after := #[{ on := 0, ground := Ground.data }], guard := none }, { dst := some 38, op := Op.makeInterface 45 (Operand.tmp 37), type := 20, pos := "l7_value.go:266", after := #[{ on := 1, ground := Ground.data }], guard := none }, { dst := some 39, op := Op.load 79 (Operand.tmp 8), type := 79, pos := "l7_value.go:266", after := #[], guard := none }, { dst := some 40, op := Op.call { callee := Callee.value (Operand.func 48), args := #[Operand.tmp 39], argTypes := #[30] }, type := 9, pos := "l7_value.go:266", after := #[{ on := 3, ground := Ground.data }], guard := none }, { dst := some 41, op := Op.call { callee := Callee.invoke (Operand.tmp 38) "WriteString", args := #[Operand.tmp 40], argTypes := #[9] }, type := 76, pos := "l7_value.go:266", after := #[{ on := 2, ground := Ground.data }, { on := 4, ground := Ground.data }, { on := 4, ground := Ground.chain }], guard := none }] true) Q { tmps := (t0 :: t1 :: t2 :: (.pointer (some ⟨b3, 0, none⟩)) :: t4 :: t5 :: t6 :: t7 :: (.pointer (some ⟨b8, 0, none⟩)) :: t9 :: t10 :: t11 :: t12 :: t13 :: t14 :: t15 :: t16 :: t17 :: t18 :: t19 :: t20 :: t21 :: t22 :: t23 :: t24 :: t25 :: t26 :: t27 :: t28 :: t29 :: t30 :: t31 :: t32 :: t33 :: t34 :: t35 :: t36 :: t37 :: t38 :: t39 :: t40 :: t41 :: t42 :: t43 :: t44 :: t45 :: t46 :: t47 :: t48 :: t49 :: t50 :: t51 :: t52 :: t53 :: t54 :: t55 :: t56 :: t57 :: t58 :: t59 :: t60 :: t61 :: t62 :: t63 :: t64 :: t65 :: t66 :: t67 :: t68 :: t69 :: t70 :: t71 :: t72 :: t73 :: t74 :: t75 :: t76 :: t77 :: t78 :: t79 :: t80 :: t81 :: t82 :: t83 :: t84 :: t85 :: []).toArray, defers := [] } W := by
  have hmeth := write_method
  have HB0x : Hid (∀ w', Below W.heap.size W w' → Box w' b3 52 (wrCells kb step gap)) := fun w' h => h0.below h h0.lt
  have HSof : Hid (∀ w', Below W.heap.size W w' → (w'.cell? ⟨b3, 0, none⟩ = some (.pointer (some ⟨kb, 0, none⟩)) ∧ w'.cell? ⟨b8, 0, none⟩ = some (.int .i64 m) ∧ w'.cell? ⟨b8, 1, none⟩ = some (.int .i64 e))) := fun w' h => ⟨(h0.below h h0.lt).cell (i := 0) rfl, (h8.below h h8.lt).cell (i := 0) rfl, (h8.below h h8.lt).cell (i := 1) rfl⟩
  have HW : Hid (∀ w', Below W.heap.size W w' → Wr B kb w0 acc w') := fun w' h => hW.below h
  have hB0 := (Below.refl W.heap.size W).drew
  have hS0 := HSof.out _ hB0
  have HL := hideIt hlen
  have HN := hideIt hne
  have H8 : Hid (∀ w', Below W.heap.size W w' → Box w' b8 79 [.int .i64 m, .int .i64 e]) := fun w' h => h8.below h h8.lt
  have HN8 := hideIt hne8
  clear h0 hW hlen hne h8 hne8
  refine wp_region_held_drew (S := fun w' => w'.cell? ⟨b3, 0, none⟩ = some (.pointer (some ⟨kb, 0, none⟩)) ∧ w'.cell? ⟨b8, 0, none⟩ = some (.int .i64 m) ∧ w'.cell? ⟨b8, 1, none⟩ = some (.int .i64 e)) (by kernel_rfl) hS0 (fun hHeld => ?_)
  refine wpAnyH_take (i := 0) (v := .pointer (some ⟨b3, 0, none⟩)) rfl (by kernel_rfl) (by kernel_rfl) (by kernel_rfl) (fun _ _ _ h => hp _ _ _ _ _ h) (Or.inl ⟨by rfl, ?_⟩) (by assumption) ?_
  · intro w hSw
    (try dsimp only at hSw)
    go_simp
  (try simp only [Act.put, List.getElem_toArray, List.getElem_cons_zero, List.setIfInBounds_toArray, List.set_cons_zero, List.set_cons_succ])
  refine wpAnyH_take (i := 1) (v := .pointer (some ⟨kb, 0, none⟩)) rfl (by kernel_rfl) (by kernel_rfl) (by kernel_rfl) (fun _ _ _ h => hp _ _ _ _ _ h) (Or.inl ⟨by rfl, ?_⟩) (by assumption) ?_
  · intro w hSw
    (try dsimp only at hSw)
    go_simp
  (try simp only [Act.put, List.getElem_toArray, List.getElem_cons_zero, List.getElem_cons_succ, List.setIfInBounds_toArray, List.set_cons_zero, List.set_cons_succ])
  refine wpAnyH_take (i := 2) (v := .iface 45 (.pointer (some ⟨kb, 0, none⟩))) rfl (by kernel_rfl) (by kernel_rfl) (by kernel_rfl) (fun _ _ _ h => hp _ _ _ _ _ h) (Or.inl ⟨by rfl, ?_⟩) (by assumption) ?_
  · intro w hSw
    (try dsimp only at hSw)
    go_simp
  (try simp only [Act.put, List.getElem_toArray, List.getElem_cons_zero, List.getElem_cons_succ, List.setIfInBounds_toArray, List.set_cons_zero, List.set_cons_succ])
  refine wpAnyH_take (i := 3) (v := .agg #[.int .i64 m, .int .i64 e]) rfl (by kernel_rfl) (by kernel_rfl) (by kernel_rfl) (fun _ _ _ h => hp _ _ _ _ _ h) (Or.inl ⟨by rfl, ?_⟩) (by assumption) ?_
  · intro w hSw
    (try dsimp only at hSw)
    go_simp
  (try simp only [Act.put, List.getElem_toArray, List.getElem_cons_zero, List.getElem_cons_succ, List.setIfInBounds_toArray, List.set_cons_zero, List.set_cons_succ])
  refine wpAnyH_ready (rs := [4]) (by kernel_rfl) (by simp) ?_
  refine AllReadyH.cons rfl (fun K hK => ?_) AllReadyH.nil
  go_simp
  refine (iDecText_any m e _).mono ?_
  rintro r w1 ⟨rfl, hb1⟩
  have hB1 := hB0.trans (hb1.mono hB0.size)
  go_wp2_with fail
  refine hK.out _ _ (HSof.out _ hB1) (fun hHeld => ?_)
  clear hK K hb1 hB0
  refine wpAnyH_ready (rs := [5]) (by kernel_rfl) (by simp) ?_
  refine AllReadyH.cons rfl (fun K hK => ?_) AllReadyH.nil
  go_simp
  refine (Wr.text (HW.out _ hB1) _ (l := textOf m e) (rfl) (by have := HL.out; omega)).mono ?_
  rintro r w2 ⟨rfl, hw2, hk2, hbB⟩
  have HW2 := hideIt hw2
  have HK2 := hideIt (kept_trans (kept_of_below hB1) hk2)
  have hS2 := hideIt ((⟨((HB0x.out _ hB1).kept hk2 HN.out (by decide)).cell (i := 0) rfl, ((H8.out _ hB1).kept hk2 HN8.out (by decide)).cell (i := 0) rfl, ((H8.out _ hB1).kept hk2 HN8.out (by decide)).cell (i := 1) rfl⟩ : (fun w' => w'.cell? ⟨b3, 0, none⟩ = some (.pointer (some ⟨kb, 0, none⟩)) ∧ w'.cell? ⟨b8, 0, none⟩ = some (.int .i64 m) ∧ w'.cell? ⟨b8, 1, none⟩ = some (.int .i64 e)) w2))
  clear hw2 hk2 hbB
  go_wp2_with fail
  refine hK.out _ _ hS2.out (fun hHeld => ?_)
  clear hK K
  refine wpAnyH_done (by kernel_rfl) ?_ _
  exact h_ _ _ _ _ _ _ _ HW2.out HK2.out
set_option maxRecDepth 100000 in
set_option maxHeartbeats 1000000 in
theorem jv15 {Q : Exit → Act → World → Prop} {t0 t1 t2 t4 t5 t6 t7 t8 t10 t11 t12 t13 t14 t15 t16 t17 t18 t19 t20 t21 t22 t23 t24 t25 t26 t27 t28 t29 t30 t31 t32 t33 t34 t35 t36 t37 t38 t39 t40 t41 t42 t43 t44 t45 t46 t47 t48 t49 t50 t51 t52 t53 t54 t55 t56 t57 t58 t59 t60 t61 t62 t63 t64 t65 t66 t67 t68 t69 t70 t71 t72 t73 t74 t75 t76 t77 t78 t79 t80 t81 t82 t83 t84 t85 : Value} {W w0 : World} {B kb b3 : Nat} {acc : List UInt8} {step gap : ByteArray} {t : ByteArray}
    (h0 : Box W b3 52 (wrCells kb step gap)) (hW : Wr B kb w0 acc W) (hne : b3 ≠ kb) (ht : t.size ≤ 10000000) (hlen : acc.length + (Qm.jquote t.data.toList).length ≤ 100000000)
    (hp : ∀ p d v a w, Q (.panic p) (Act.put a d v) w → Q (.panic p) a w) (h_ : ∀ ws v45 v46 v47 v48 v49 v50 v51 v52, Wr B kb w0 (acc ++ Qm.jquote t.data.toList) ws → Lib.OthersKept 5 (some kb) W ws → Q .normal { tmps := (t0 :: t1 :: t2 :: (.pointer (some ⟨b3, 0, none⟩)) :: t4 :: t5 :: t6 :: t7 :: t8 :: (.string t) :: t10 :: t11 :: t12 :: t13 :: t14 :: t15 :: t16 :: t17 :: t18 :: t19 :: t20 :: t21 :: t22 :: t23 :: t24 :: t25 :: t26 :: t27 :: t28 :: t29 :: t30 :: t31 :: t32 :: t33 :: t34 :: t35 :: t36 :: t37 :: t38 :: t39 :: t40 :: t41 :: t42 :: t43 :: t44 :: v45 :: v46 :: v47 :: v48 :: v49 :: v50 :: v51 :: v52 :: t53 :: t54 :: t55 :: t56 :: t57 :: t58 :: t59 :: t60 :: t61 :: t62 :: t63 :: t64 :: t65 :: t66 :: t67 :: t68 :: t69 :: t70 :: t71 :: t72 :: t73 :: t74 :: t75 :: t76 :: t77 :: t78 :: t79 :: t80 :: t81 :: t82 :: t83 :: t84 :: t85 :: []).toArray, defers := [] } ws) :
    Code.wp Try.prog (Code.region 15 #[{ dst := some 45, op := Op.fieldAddr 52 (Operand.tmp 3) 0, type := 0, pos := "l7_value.go:268", after := #[], guard := none }, { dst := some 46, op := Op.load 45 (Operand.tmp 45), type := 45, pos := "l7_value.go:268", after := #[{ on := 0, ground := Ground.data }], guard := none }, { dst := some 47, op := Op.makeInterface 45 (Operand.tmp 46), type := 20, pos := "l7_value.go:268", after := #[{ on := 1, ground := Ground.data }], guard := none }, { dst := some 48, op := Op.fieldAddr 52 (Operand.tmp 3) 1, type := 0, pos := "l7_value.go:268", after := #[], guard := none }, { dst := some 49, op := Op.load 50 (Operand.tmp 48), type := 50, pos := "l7_value.go:268", after := #[{ on := 3, ground := Ground.data }], guard := none }, { dst := some 50, op := Op.move (Operand.tmp 9), type := 80, pos := "l7_value.go:268", after := #[], guard := none }, { dst := some 51, op := Op.call { callee := Callee.value (Operand.func 49), args := #[Operand.tmp 49, Operand.tmp 50], argTypes := #[50, 9] }, type := 9, pos := "l7_value.go:268", after := #[{ on := 4, ground := Ground.data }, { on := 5, ground := Ground.data }], guard := none }, { dst := some 52, op := Op.call { callee := Callee.invoke (Operand.tmp 47) "WriteString", args := #[Operand.tmp 51], argTypes := #[9] }, type := 76, pos := "l7_value.go:268", after := #[{ on := 2, ground := Ground.data }, { on := 6, ground := Ground.data }, { on := 6, ground := Ground.chain }], guard := none }] true) Q { tmps := (t0 :: t1 :: t2 :: (.pointer (some ⟨b3, 0, none⟩)) :: t4 :: t5 :: t6 :: t7 :: t8 :: (.string t) :: t10 :: t11 :: t12 :: t13 :: t14 :: t15 :: t16 :: t17 :: t18 :: t19 :: t20 :: t21 :: t22 :: t23 :: t24 :: t25 :: t26 :: t27 :: t28 :: t29 :: t30 :: t31 :: t32 :: t33 :: t34 :: t35 :: t36 :: t37 :: t38 :: t39 :: t40 :: t41 :: t42 :: t43 :: t44 :: t45 :: t46 :: t47 :: t48 :: t49 :: t50 :: t51 :: t52 :: t53 :: t54 :: t55 :: t56 :: t57 :: t58 :: t59 :: t60 :: t61 :: t62 :: t63 :: t64 :: t65 :: t66 :: t67 :: t68 :: t69 :: t70 :: t71 :: t72 :: t73 :: t74 :: t75 :: t76 :: t77 :: t78 :: t79 :: t80 :: t81 :: t82 :: t83 :: t84 :: t85 :: []).toArray, defers := [] } W := by
  have hmeth := write_method
  have HB0x : Hid (∀ w', Below W.heap.size W w' → Box w' b3 52 (wrCells kb step gap)) := fun w' h => h0.below h h0.lt
  have HSof : Hid (∀ w', Below W.heap.size W w' → (w'.cell? ⟨b3, 0, none⟩ = some (.pointer (some ⟨kb, 0, none⟩)) ∧ w'.cell? ⟨b3, 1, none⟩ = some (.string ⟨#[92, 117, 48, 48]⟩) ∧ w'.cell? ⟨b3, 2, none⟩ = some (.string ⟨#[34, 92, 47, 98, 102, 110, 114, 116]⟩) ∧ w'.cell? ⟨b3, 3, none⟩ = some (.string ⟨#[34, 92, 47, 8, 12, 10, 13, 9]⟩) ∧ w'.cell? ⟨b3, 4, none⟩ = some (.int .i64 2))) := fun w' h => ⟨(h0.below h h0.lt).cell (i := 0) rfl, (h0.below h h0.lt).cell (i := 1) rfl, (h0.below h h0.lt).cell (i := 2) rfl, (h0.below h h0.lt).cell (i := 3) rfl, (h0.below h h0.lt).cell (i := 4) rfl⟩
  have HW : Hid (∀ w', Below W.heap.size W w' → Wr B kb w0 acc w') := fun w' h => hW.below h
  have hB0 := (Below.refl W.heap.size W).drew
  have hS0 := HSof.out _ hB0
  have HL := hideIt hlen
  have HN := hideIt hne
  clear h0 hW hlen hne
  refine wp_region_held_drew (S := fun w' => w'.cell? ⟨b3, 0, none⟩ = some (.pointer (some ⟨kb, 0, none⟩)) ∧ w'.cell? ⟨b3, 1, none⟩ = some (.string ⟨#[92, 117, 48, 48]⟩) ∧ w'.cell? ⟨b3, 2, none⟩ = some (.string ⟨#[34, 92, 47, 98, 102, 110, 114, 116]⟩) ∧ w'.cell? ⟨b3, 3, none⟩ = some (.string ⟨#[34, 92, 47, 8, 12, 10, 13, 9]⟩) ∧ w'.cell? ⟨b3, 4, none⟩ = some (.int .i64 2)) (by kernel_rfl) hS0 (fun hHeld => ?_)
  refine wpAnyH_take (i := 0) (v := .pointer (some ⟨b3, 0, none⟩)) rfl (by kernel_rfl) (by kernel_rfl) (by kernel_rfl) (fun _ _ _ h => hp _ _ _ _ _ h) (Or.inl ⟨by rfl, ?_⟩) (by assumption) ?_
  · intro w hSw
    (try dsimp only at hSw)
    go_simp
  (try simp only [Act.put, List.getElem_toArray, List.getElem_cons_zero, List.setIfInBounds_toArray, List.set_cons_zero, List.set_cons_succ])
  refine wpAnyH_take (i := 1) (v := .pointer (some ⟨kb, 0, none⟩)) rfl (by kernel_rfl) (by kernel_rfl) (by kernel_rfl) (fun _ _ _ h => hp _ _ _ _ _ h) (Or.inl ⟨by rfl, ?_⟩) (by assumption) ?_
  · intro w hSw
    (try dsimp only at hSw)
    go_simp
  (try simp only [Act.put, List.getElem_toArray, List.getElem_cons_zero, List.getElem_cons_succ, List.setIfInBounds_toArray, List.set_cons_zero, List.set_cons_succ])
  refine wpAnyH_take (i := 2) (v := .iface 45 (.pointer (some ⟨kb, 0, none⟩))) rfl (by kernel_rfl) (by kernel_rfl) (by kernel_rfl) (fun _ _ _ h => hp _ _ _ _ _ h) (Or.inl ⟨by rfl, ?_⟩) (by assumption) ?_
  · intro w hSw
    (try dsimp only at hSw)
    go_simp
  (try simp only [Act.put, List.getElem_toArray, List.getElem_cons_zero, List.getElem_cons_succ, List.setIfInBounds_toArray, List.set_cons_zero, List.set_cons_succ])
  refine wpAnyH_take (i := 3) (v := .pointer (some ⟨b3, 1, none⟩)) rfl (by kernel_rfl) (by kernel_rfl) (by kernel_rfl) (fun _ _ _ h => hp _ _ _ _ _ h) (Or.inl ⟨by rfl, ?_⟩) (by assumption) ?_
  · intro w hSw
    (try dsimp only at hSw)
    go_simp
  (try simp only [Act.put, List.getElem_toArray, List.getElem_cons_zero, List.getElem_cons_succ, List.setIfInBounds_toArray, List.set_cons_zero, List.set_cons_succ])
  refine wpAnyH_take (i := 4) (v := jpq) rfl (by kernel_rfl) (by kernel_rfl) (by kernel_rfl) (fun _ _ _ h => hp _ _ _ _ _ h) (Or.inl ⟨by rfl, ?_⟩) (by assumption) ?_
  · intro w hSw
    (try dsimp only at hSw)
    go_simp
  (try simp only [Act.put, List.getElem_toArray, List.getElem_cons_zero, List.getElem_cons_succ, List.setIfInBounds_toArray, List.set_cons_zero, List.set_cons_succ])
  refine wpAnyH_take (i := 5) (v := .string t) rfl (by kernel_rfl) (by kernel_rfl) (by kernel_rfl) (fun _ _ _ h => hp _ _ _ _ _ h) (Or.inl ⟨by rfl, ?_⟩) (by assumption) ?_
  · intro w hSw
    (try dsimp only at hSw)
    go_simp
  (try simp only [Act.put, List.getElem_toArray, List.getElem_cons_zero, List.getElem_cons_succ, List.setIfInBounds_toArray, List.set_cons_zero, List.set_cons_succ])
  refine wpAnyH_ready (rs := [6]) (by kernel_rfl) (by simp) ?_
  refine AllReadyH.cons rfl (fun K hK => ?_) AllReadyH.nil
  go_simp
  refine (jput_any t _ ht).mono ?_
  rintro r w1 ⟨rfl, hb1⟩
  have hB1 := hB0.trans (hb1.mono hB0.size)
  go_wp2_with fail
  refine hK.out _ _ (HSof.out _ hB1) (fun hHeld => ?_)
  clear hK K hb1 hB0
  refine wpAnyH_ready (rs := [7]) (by kernel_rfl) (by simp) ?_
  refine AllReadyH.cons rfl (fun K hK => ?_) AllReadyH.nil
  go_simp
  refine (Wr.text (HW.out _ hB1) _ (l := Qm.jquote t.data.toList) (rfl) (by have := HL.out; omega)).mono ?_
  rintro r w2 ⟨rfl, hw2, hk2, hbB⟩
  have HW2 := hideIt hw2
  have HK2 := hideIt (kept_trans (kept_of_below hB1) hk2)
  have hS2 := hideIt ((⟨((HB0x.out _ hB1).kept hk2 HN.out (by decide)).cell (i := 0) rfl, ((HB0x.out _ hB1).kept hk2 HN.out (by decide)).cell (i := 1) rfl, ((HB0x.out _ hB1).kept hk2 HN.out (by decide)).cell (i := 2) rfl, ((HB0x.out _ hB1).kept hk2 HN.out (by decide)).cell (i := 3) rfl, ((HB0x.out _ hB1).kept hk2 HN.out (by decide)).cell (i := 4) rfl⟩ : (fun w' => w'.cell? ⟨b3, 0, none⟩ = some (.pointer (some ⟨kb, 0, none⟩)) ∧ w'.cell? ⟨b3, 1, none⟩ = some (.string ⟨#[92, 117, 48, 48]⟩) ∧ w'.cell? ⟨b3, 2, none⟩ = some (.string ⟨#[34, 92, 47, 98, 102, 110, 114, 116]⟩) ∧ w'.cell? ⟨b3, 3, none⟩ = some (.string ⟨#[34, 92, 47, 8, 12, 10, 13, 9]⟩) ∧ w'.cell? ⟨b3, 4, none⟩ = some (.int .i64 2)) w2))
  clear hw2 hk2 hbB
  go_wp2_with fail
  refine hK.out _ _ hS2.out (fun hHeld => ?_)
  clear hK K
  refine wpAnyH_done (by kernel_rfl) ?_ _
  exact h_ _ _ _ _ _ _ _ _ _ HW2.out HK2.out
set_option maxRecDepth 100000 in
set_option maxHeartbeats 1000000 in
theorem ji9 {Q : Exit → Act → World → Prop} {t0 t1 t3 t5 t6 t7 t8 t10 t11 t12 t13 t14 t15 t16 t17 t18 t19 t20 t21 t22 t23 t24 t25 t26 t27 t28 t29 t30 t31 t32 t33 t34 t35 t36 t37 t38 t39 t40 t41 t42 t43 t44 t45 t46 t47 t48 t49 t50 t51 t52 t53 t54 t55 t56 t57 t58 t59 t60 t61 t62 : Value} {W w0 : World} {B kb b4 : Nat} {acc : List UInt8} {step gap : ByteArray} {nb no n nc j : Nat} {s : ByteArray}
    (h0 : Box W b4 52 (wrCells kb step gap)) (hW : Wr B kb w0 acc W) (hne : b4 ≠ kb) (hj : (j : Int) < (n : Int)) (hnb : nb < B) (hs : W.cell? ⟨nb, no + j, none⟩ = some (.string s)) (hsz : s.size ≤ 10000000) (hg : gap.size ≤ 2) (hlen : acc.length + (Qm.jquote s.data.toList ++ ([58] ++ gap.data.toList)).length ≤ 100000000)
    (hp : ∀ p d v a w, Q (.panic p) (Act.put a d v) w → Q (.panic p) a w) (h_ : ∀ ws v35 v36 v37 v38 v39 v40 v41 v42 v43 v44 v45 v46 v47 v48 v49, Wr B kb w0 (acc ++ (Qm.jquote s.data.toList ++ ([58] ++ gap.data.toList))) ws → Lib.OthersKept 5 (some kb) W ws → Q .normal { tmps := (t0 :: t1 :: (.slice (some ⟨nb, no, none⟩) n nc) :: t3 :: (.pointer (some ⟨b4, 0, none⟩)) :: t5 :: t6 :: t7 :: t8 :: (.int .i64 (j : Nat)) :: t10 :: t11 :: t12 :: t13 :: t14 :: t15 :: t16 :: t17 :: t18 :: t19 :: t20 :: t21 :: t22 :: t23 :: t24 :: t25 :: t26 :: t27 :: t28 :: t29 :: t30 :: t31 :: t32 :: t33 :: t34 :: v35 :: v36 :: v37 :: v38 :: v39 :: v40 :: v41 :: v42 :: v43 :: v44 :: v45 :: v46 :: v47 :: v48 :: v49 :: t50 :: t51 :: t52 :: t53 :: t54 :: t55 :: t56 :: t57 :: t58 :: t59 :: t60 :: t61 :: t62 :: []).toArray, defers := [] } ws) :
    Code.wp Try.prog (Code.region 9 #[{ dst := some 35, op := Op.fieldAddr 52 (Operand.tmp 4) 0, type := 0, pos := "l7_value.go:290", after := #[], guard := none }, { dst := some 36, op := Op.load 45 (Operand.tmp 35), type := 45, pos := "l7_value.go:290", after := #[{ on := 0, ground := Ground.data }], guard := none }, { dst := some 37, op := Op.makeInterface 45 (Operand.tmp 36), type := 20, pos := "l7_value.go:290", after := #[{ on := 1, ground := Ground.data }], guard := none }, { dst := some 38, op := Op.fieldAddr 52 (Operand.tmp 4) 1, type := 0, pos := "l7_value.go:290", after := #[], guard := none }, { dst := some 39, op := Op.load 50 (Operand.tmp 38), type := 50, pos := "l7_value.go:290", after := #[{ on := 3, ground := Ground.data }], guard := none }, { dst := some 40, op := Op.move (Operand.tmp 2), type := 25, pos := "l7_value.go:290", after := #[], guard := none }, { dst := some 41, op := Op.move (Operand.tmp 9), type := 3, pos := "l7_value.go:290", after := #[], guard := none }, { dst := some 42, op := Op.indexAddr 25 (Operand.tmp 40) (Operand.tmp 41), type := 0, pos := "l7_value.go:290", after := #[{ on := 5, ground := Ground.data }, { on := 6, ground := Ground.data }], guard := none }, { dst := some 43, op := Op.load 9 (Operand.tmp 42), type := 9, pos := "l7_value.go:290", after := #[{ on := 7, ground := Ground.data }], guard := none }, { dst := some 44, op := Op.call { callee := Callee.value (Operand.func 49), args := #[Operand.tmp 39, Operand.tmp 43], argTypes := #[50, 9] }, type := 9, pos := "l7_value.go:290", after := #[{ on := 4, ground := Ground.data }, { on := 8, ground := Ground.data }], guard := none }, { dst := some 45, op := Op.binOp BinOp.add 9 (Operand.tmp 44) (Operand.const (Value.string { data := #[58] })) 9, type := 9, pos := "l7_value.go:290", after := #[{ on := 9, ground := Ground.data }], guard := none }, { dst := some 46, op := Op.fieldAddr 52 (Operand.tmp 4) 3, type := 0, pos := "l7_value.go:290", after := #[], guard := none }, { dst := some 47, op := Op.load 9 (Operand.tmp 46), type := 9, pos := "l7_value.go:290", after := #[{ on := 11, ground := Ground.data }], guard := none }, { dst := some 48, op := Op.binOp BinOp.add 9 (Operand.tmp 45) (Operand.tmp 47) 9, type := 9, pos := "l7_value.go:290", after := #[{ on := 10, ground := Ground.data }, { on := 12, ground := Ground.data }], guard := none }, { dst := some 49, op := Op.call { callee := Callee.invoke (Operand.tmp 37) "WriteString", args := #[Operand.tmp 48], argTypes := #[9] }, type := 76, pos := "l7_value.go:290", after := #[{ on := 2, ground := Ground.data }, { on := 13, ground := Ground.data }, { on := 9, ground := Ground.chain }], guard := none }] true) Q { tmps := (t0 :: t1 :: (.slice (some ⟨nb, no, none⟩) n nc) :: t3 :: (.pointer (some ⟨b4, 0, none⟩)) :: t5 :: t6 :: t7 :: t8 :: (.int .i64 (j : Nat)) :: t10 :: t11 :: t12 :: t13 :: t14 :: t15 :: t16 :: t17 :: t18 :: t19 :: t20 :: t21 :: t22 :: t23 :: t24 :: t25 :: t26 :: t27 :: t28 :: t29 :: t30 :: t31 :: t32 :: t33 :: t34 :: t35 :: t36 :: t37 :: t38 :: t39 :: t40 :: t41 :: t42 :: t43 :: t44 :: t45 :: t46 :: t47 :: t48 :: t49 :: t50 :: t51 :: t52 :: t53 :: t54 :: t55 :: t56 :: t57 :: t58 :: t59 :: t60 :: t61 :: t62 :: []).toArray, defers := [] } W := by
  have hmeth := write_method
  have HB0x : Hid (∀ w', Below W.heap.size W w' → Box w' b4 52 (wrCells kb step gap)) := fun w' h => h0.below h h0.lt
  have HSof : Hid (∀ w', Below W.heap.size W w' → (w'.cell? ⟨b4, 0, none⟩ = some (.pointer (some ⟨kb, 0, none⟩)) ∧ w'.cell? ⟨b4, 1, none⟩ = some (.string ⟨#[92, 117, 48, 48]⟩) ∧ w'.cell? ⟨b4, 2, none⟩ = some (.string ⟨#[34, 92, 47, 98, 102, 110, 114, 116]⟩) ∧ w'.cell? ⟨b4, 3, none⟩ = some (.string ⟨#[34, 92, 47, 8, 12, 10, 13, 9]⟩) ∧ w'.cell? ⟨b4, 4, none⟩ = some (.int .i64 2) ∧ w'.cell? ⟨b4, 6, none⟩ = some (.string gap) ∧ w'.cell? ⟨nb, no + j, none⟩ = some (.string s))) := fun w' h => ⟨(h0.below h h0.lt).cell (i := 0) rfl, (h0.below h h0.lt).cell (i := 1) rfl, (h0.below h h0.lt).cell (i := 2) rfl, (h0.below h h0.lt).cell (i := 3) rfl, (h0.below h h0.lt).cell (i := 4) rfl, (h0.below h h0.lt).cell (i := 6) rfl, (h.cell (p := ⟨nb, no + j, none⟩) (World.block_lt_of_cell? _ _ hs)).trans hs⟩
  have HW : Hid (∀ w', Below W.heap.size W w' → Wr B kb w0 acc w') := fun w' h => hW.below h
  have hB0 := (Below.refl W.heap.size W).drew
  have hS0 := HSof.out _ hB0
  have HL := hideIt hlen
  have HN := hideIt hne
  have hq1 := arr_size (Qm.jquote s.data.toList)
  have hq2 := Qm.jquote_length s.data.toList
  rw [Qm.len_eq] at hq2
  have HNb := hideIt (And.intro hnb (World.block_lt_of_cell? _ _ hs))
  have HNc := hideIt hs
  clear h0 hW hlen hne hs hnb
  refine wp_region_held_drew (S := fun w' => w'.cell? ⟨b4, 0, none⟩ = some (.pointer (some ⟨kb, 0, none⟩)) ∧ w'.cell? ⟨b4, 1, none⟩ = some (.string ⟨#[92, 117, 48, 48]⟩) ∧ w'.cell? ⟨b4, 2, none⟩ = some (.string ⟨#[34, 92, 47, 98, 102, 110, 114, 116]⟩) ∧ w'.cell? ⟨b4, 3, none⟩ = some (.string ⟨#[34, 92, 47, 8, 12, 10, 13, 9]⟩) ∧ w'.cell? ⟨b4, 4, none⟩ = some (.int .i64 2) ∧ w'.cell? ⟨b4, 6, none⟩ = some (.string gap) ∧ w'.cell? ⟨nb, no + j, none⟩ = some (.string s)) (by kernel_rfl) hS0 (fun hHeld => ?_)
  refine wpAnyH_take (i := 0) (v := .pointer (some ⟨b4, 0, none⟩)) rfl (by kernel_rfl) (by kernel_rfl) (by kernel_rfl) (fun _ _ _ h => hp _ _ _ _ _ h) (Or.inl ⟨by rfl, ?_⟩) (by assumption) ?_
  · intro w hSw
    (try dsimp only at hSw)
    go_simp
  (try simp only [Act.put, List.getElem_toArray, List.getElem_cons_zero, List.setIfInBounds_toArray, List.set_cons_zero, List.set_cons_succ])
  refine wpAnyH_take (i := 1) (v := .pointer (some ⟨kb, 0, none⟩)) rfl (by kernel_rfl) (by kernel_rfl) (by kernel_rfl) (fun _ _ _ h => hp _ _ _ _ _ h) (Or.inl ⟨by rfl, ?_⟩) (by assumption) ?_
  · intro w hSw
    (try dsimp only at hSw)
    go_simp
  (try simp only [Act.put, List.getElem_toArray, List.getElem_cons_zero, List.getElem_cons_succ, List.setIfInBounds_toArray, List.set_cons_zero, List.set_cons_succ])
  refine wpAnyH_take (i := 2) (v := .iface 45 (.pointer (some ⟨kb, 0, none⟩))) rfl (by kernel_rfl) (by kernel_rfl) (by kernel_rfl) (fun _ _ _ h => hp _ _ _ _ _ h) (Or.inl ⟨by rfl, ?_⟩) (by assumption) ?_
  · intro w hSw
    (try dsimp only at hSw)
    go_simp
  (try simp only [Act.put, List.getElem_toArray, List.getElem_cons_zero, List.getElem_cons_succ, List.setIfInBounds_toArray, List.set_cons_zero, List.set_cons_succ])
  refine wpAnyH_take (i := 3) (v := .pointer (some ⟨b4, 1, none⟩)) rfl (by kernel_rfl) (by kernel_rfl) (by kernel_rfl) (fun _ _ _ h => hp _ _ _ _ _ h) (Or.inl ⟨by rfl, ?_⟩) (by assumption) ?_
  · intro w hSw
    (try dsimp only at hSw)
    go_simp
  (try simp only [Act.put, List.getElem_toArray, List.getElem_cons_zero, List.getElem_cons_succ, List.setIfInBounds_toArray, List.set_cons_zero, List.set_cons_succ])
  refine wpAnyH_take (i := 4) (v := jpq) rfl (by kernel_rfl) (by kernel_rfl) (by kernel_rfl) (fun _ _ _ h => hp _ _ _ _ _ h) (Or.inl ⟨by rfl, ?_⟩) (by assumption) ?_
  · intro w hSw
    (try dsimp only at hSw)
    go_simp
  (try simp only [Act.put, List.getElem_toArray, List.getElem_cons_zero, List.getElem_cons_succ, List.setIfInBounds_toArray, List.set_cons_zero, List.set_cons_succ])
  refine wpAnyH_take (i := 5) (v := .slice (some ⟨nb, no, none⟩) n nc) rfl (by kernel_rfl) (by kernel_rfl) (by kernel_rfl) (fun _ _ _ h => hp _ _ _ _ _ h) (Or.inl ⟨by rfl, ?_⟩) (by assumption) ?_
  · intro w hSw
    (try dsimp only at hSw)
    go_simp
  (try simp only [Act.put, List.getElem_toArray, List.getElem_cons_zero, List.getElem_cons_succ, List.setIfInBounds_toArray, List.set_cons_zero, List.set_cons_succ])
  refine wpAnyH_take (i := 6) (v := .int .i64 (j : Nat)) rfl (by kernel_rfl) (by kernel_rfl) (by kernel_rfl) (fun _ _ _ h => hp _ _ _ _ _ h) (Or.inl ⟨by rfl, ?_⟩) (by assumption) ?_
  · intro w hSw
    (try dsimp only at hSw)
    go_simp
  (try simp only [Act.put, List.getElem_toArray, List.getElem_cons_zero, List.getElem_cons_succ, List.setIfInBounds_toArray, List.set_cons_zero, List.set_cons_succ])
  refine wpAnyH_take (i := 7) (v := .pointer (some ⟨nb, no + j, none⟩)) rfl (by kernel_rfl) (by kernel_rfl) (by kernel_rfl) (fun _ _ _ h => hp _ _ _ _ _ h) (Or.inl ⟨by rfl, ?_⟩) (by assumption) ?_
  · intro w hSw
    (try dsimp only at hSw)
    go_simp
  (try simp only [Act.put, List.getElem_toArray, List.getElem_cons_zero, List.getElem_cons_succ, List.setIfInBounds_toArray, List.set_cons_zero, List.set_cons_succ])
  refine wpAnyH_take (i := 8) (v := .string s) rfl (by kernel_rfl) (by kernel_rfl) (by kernel_rfl) (fun _ _ _ h => hp _ _ _ _ _ h) (Or.inl ⟨by rfl, ?_⟩) (by assumption) ?_
  · intro w hSw
    (try dsimp only at hSw)
    go_simp
  (try simp only [Act.put, List.getElem_toArray, List.getElem_cons_zero, List.getElem_cons_succ, List.setIfInBounds_toArray, List.set_cons_zero, List.set_cons_succ])
  refine wpAnyH_take (i := 11) (v := .pointer (some ⟨b4, 6, none⟩)) rfl (by kernel_rfl) (by kernel_rfl) (by kernel_rfl) (fun _ _ _ h => hp _ _ _ _ _ h) (Or.inl ⟨by rfl, ?_⟩) (by assumption) ?_
  · intro w hSw
    (try dsimp only at hSw)
    go_simp
  (try simp only [Act.put, List.getElem_toArray, List.getElem_cons_zero, List.getElem_cons_succ, List.setIfInBounds_toArray, List.set_cons_zero, List.set_cons_succ])
  refine wpAnyH_take (i := 12) (v := .string gap) rfl (by kernel_rfl) (by kernel_rfl) (by kernel_rfl) (fun _ _ _ h => hp _ _ _ _ _ h) (Or.inl ⟨by rfl, ?_⟩) (by assumption) ?_
  · intro w hSw
    (try dsimp only at hSw)
    go_simp
  (try simp only [Act.put, List.getElem_toArray, List.getElem_cons_zero, List.getElem_cons_succ, List.setIfInBounds_toArray, List.set_cons_zero, List.set_cons_succ])
  refine wpAnyH_ready (rs := [9]) (by kernel_rfl) (by simp) ?_
  refine AllReadyH.cons rfl (fun K hK => ?_) AllReadyH.nil
  go_simp
  refine (jput_any s _ hsz).mono ?_
  rintro r w1 ⟨rfl, hb1⟩
  have hB1 := hB0.trans (hb1.mono hB0.size)
  go_wp2_with fail
  refine hK.out _ _ (HSof.out _ hB1) (fun hHeld => ?_)
  clear hK K hb1 hB0
  refine wpAnyH_take (i := 10) (v := .string (⟨(Qm.jquote s.data.toList).toArray⟩ ++ ⟨#[58]⟩)) rfl (by kernel_rfl) (by kernel_rfl) (by kernel_rfl) (fun _ _ _ h => hp _ _ _ _ _ h) (Or.inl ⟨by rfl, ?_⟩) (by assumption) ?_
  · intro w hSw
    (try dsimp only at hSw)
    (go_simp; omega)
  (try simp only [Act.put, List.getElem_toArray, List.getElem_cons_zero, List.getElem_cons_succ, List.setIfInBounds_toArray, List.set_cons_zero, List.set_cons_succ])
  refine wpAnyH_take (i := 13) (v := .string (⟨(Qm.jquote s.data.toList).toArray⟩ ++ ⟨#[58]⟩ ++ gap)) rfl (by kernel_rfl) (by kernel_rfl) (by kernel_rfl) (fun _ _ _ h => hp _ _ _ _ _ h) (Or.inl ⟨by rfl, ?_⟩) (by assumption) ?_
  · intro w hSw
    (try dsimp only at hSw)
    (go_simp; omega)
  (try simp only [Act.put, List.getElem_toArray, List.getElem_cons_zero, List.getElem_cons_succ, List.setIfInBounds_toArray, List.set_cons_zero, List.set_cons_succ])
  refine wpAnyH_ready (rs := [14]) (by kernel_rfl) (by simp) ?_
  refine AllReadyH.cons rfl (fun K hK => ?_) AllReadyH.nil
  go_simp
  refine (Wr.text (HW.out _ hB1) _ (l := (Qm.jquote s.data.toList ++ ([58] ++ gap.data.toList))) (by simp [ByteArray.data_append]) (by have := HL.out; omega)).mono ?_
  rintro r w2 ⟨rfl, hw2, hk2, hbB⟩
  have HW2 := hideIt hw2
  have HK2 := hideIt (kept_trans (kept_of_below hB1) hk2)
  have hS2 := hideIt ((⟨((HB0x.out _ hB1).kept hk2 HN.out (by decide)).cell (i := 0) rfl, ((HB0x.out _ hB1).kept hk2 HN.out (by decide)).cell (i := 1) rfl, ((HB0x.out _ hB1).kept hk2 HN.out (by decide)).cell (i := 2) rfl, ((HB0x.out _ hB1).kept hk2 HN.out (by decide)).cell (i := 3) rfl, ((HB0x.out _ hB1).kept hk2 HN.out (by decide)).cell (i := 4) rfl, ((HB0x.out _ hB1).kept hk2 HN.out (by decide)).cell (i := 6) rfl, (hbB.cell (p := ⟨nb, no + j, none⟩) HNb.out.1).trans ((hB1.cell (p := ⟨nb, no + j, none⟩) HNb.out.2).trans HNc.out)⟩ : (fun w' => w'.cell? ⟨b4, 0, none⟩ = some (.pointer (some ⟨kb, 0, none⟩)) ∧ w'.cell? ⟨b4, 1, none⟩ = some (.string ⟨#[92, 117, 48, 48]⟩) ∧ w'.cell? ⟨b4, 2, none⟩ = some (.string ⟨#[34, 92, 47, 98, 102, 110, 114, 116]⟩) ∧ w'.cell? ⟨b4, 3, none⟩ = some (.string ⟨#[34, 92, 47, 8, 12, 10, 13, 9]⟩) ∧ w'.cell? ⟨b4, 4, none⟩ = some (.int .i64 2) ∧ w'.cell? ⟨b4, 6, none⟩ = some (.string gap) ∧ w'.cell? ⟨nb, no + j, none⟩ = some (.string s)) w2))
  clear hw2 hk2 hbB
  go_wp2_with fail
  refine hK.out _ _ hS2.out (fun hHeld => ?_)
  clear hK K
  refine wpAnyH_done (by kernel_rfl) ?_ _
  exact h_ _ _ _ _ _ _ _ _ _ _ _ _ _ _ _ _ HW2.out HK2.out
end Go.Proofs.Ytpgpkdeiapeoiaa
