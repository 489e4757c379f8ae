/- My own texts, joined: Qm LexA Qq QuoA Jq Ja Qg Idx Bld QuoP Jb QuoR Jc Fo Dm Om. -/
import Derived.Test.YtpgpkdeiapeoiaaRows
import Derived.WalkKit
import Derived.WalkSpells
import Derived.WalkLawsBesides
import Derived.Deep.RegionHeld3
import Derived.Deep.DeepCutAuto
import Derived.Below
import Derived.Laws.BytesArg
import Derived.Shelf.Small.Strs
import Derived.Shelf.Strings.BuilderK
import Derived.Lib.SmallJoins
import Derived.Test.YtpgpkdeiapeoiaaProg
/- Plain mathematics of chapter 2: letters, figures, runs, names, words. -/
namespace Go.Proofs.Ytpgpkdeiapeoiaa.Qm

def low (c : Int) : Bool := (decide (97 ≤ c) && decide (c ≤ 122)) || decide (c = 95)
def fig (c : Int) : Bool := decide (48 ≤ c) && decide (c ≤ 57)
def part (c : Int) : Bool := low c || fig c
def okAt (k : Nat) (c : Int) : Bool := low c || (decide (k ≠ 0) && fig c)
def letters : Nat → List UInt8 → Bool
  | _, [] => true
  | k, c :: t => okAt k c.toNat && letters (k + 1) t
def run (p : Int → Bool) : List UInt8 → Nat
  | [] => 0
  | c :: t => if p c.toNat then 1 + run p t else 0
/-- the words that are no names -/
def words : List (List UInt8) := [[110, 117, 108, 108], [116, 114, 117, 101], [102, 97, 108, 115, 101], [105, 102], [116, 104, 101, 110], [101, 108, 115, 101], [108, 111, 99, 97, 108], [102, 117, 110, 99, 116, 105, 111, 110], [115, 101, 108, 102], [115, 117, 112, 101, 114], [101, 114, 114, 111, 114], [105, 109, 112, 111, 114, 116], [102, 111, 114], [105, 110], [115, 116, 100]]
def has : List (List UInt8) → List UInt8 → Bool
  | [], _ => false
  | x :: t, l => (l == x) || has t l
def name (s : ByteArray) : Bool := letters 0 s.data.toList && (decide (1 ≤ s.size) && decide (s.size ≤ 12)) && !has words s.toList

theorem len_eq (s : ByteArray) : s.data.toList.length = s.size := by rw [Array.length_toList]; rfl
theorem drop_at (s : ByteArray) (k : Nat) (h : k < s.size) : s.data.toList.drop k = s[k] :: s.data.toList.drop (k + 1) := by
  rw [List.drop_eq_getElem_cons (by simpa using h)]; rfl
theorem drop_end (s : ByteArray) (k : Nat) (h : ¬ k < s.size) : s.data.toList.drop k = [] := by
  apply List.drop_eq_nil_of_le; simpa using h
theorem letters_step (s : ByteArray) (k : Nat) (h : k < s.size) : letters k (s.data.toList.drop k) = (okAt k s[k].toNat && letters (k + 1) (s.data.toList.drop (k + 1))) := by
  rw [drop_at s k h]; rfl
theorem run_step (p : Int → Bool) (s : ByteArray) (k : Nat) (h : k < s.size) : run p (s.data.toList.drop k) = if p s[k].toNat then 1 + run p (s.data.toList.drop (k + 1)) else 0 := by
  rw [drop_at s k h]; rfl
theorem run_end (p : Int → Bool) (s : ByteArray) (k : Nat) (h : ¬ k < s.size) : run p (s.data.toList.drop k) = 0 := by
  rw [drop_end s k h]; rfl
theorem run_le (p : Int → Bool) (l : List UInt8) : run p l ≤ l.length := by
  induction l with
  | nil => exact Nat.le_refl _
  | cons c t ih => simp only [run, List.length_cons]; split <;> omega
theorem run_iff (p : Int → Bool) (l : List UInt8) : run p l = l.length ↔ l.all (fun c => p c.toNat) = true := by
  induction l with
  | nil => simp [run]
  | cons c t ih =>
    have := run_le p t
    by_cases h : p c.toNat = true
    · have e : run p (c :: t) = 1 + run p t := by simp [run, h]
      rw [e, List.all_cons, h, Bool.true_and, ← ih, List.length_cons]; omega
    · have e : run p (c :: t) = 0 := by simp [run, h]
      rw [e, List.all_cons, Bool.eq_false_iff.2 h]; simp
theorem run_all (p : Int → Bool) (l : List UInt8) : decide (run p l = l.length) = l.all (fun c => p c.toNat) := by
  rw [Bool.eq_iff_iff, decide_eq_true_iff]; exact run_iff p l
theorem letters_succ (k : Nat) (l : List UInt8) : letters (k + 1) l = l.all (fun c => part c.toNat) := by
  induction l generalizing k with
  | nil => rfl
  | cons c t ih => simp only [letters, List.all_cons, ih (k + 1)]; simp [okAt, part]
theorem letters_part (c : UInt8) (t : List UInt8) : letters 0 (c :: t) = (low c.toNat && decide (run part (c :: t) = (c :: t).length)) := by
  rw [run_all]; simp only [letters, letters_succ, List.all_cons]
  simp [okAt, part]
  cases low c.toNat <;> simp
/-- how the program asks it -/
theorem name_eq (s : ByteArray) (h : 0 < s.size) : name s = (decide (s.size ≤ 12) && (low s[0].toNat && (decide (run part s.data.toList = s.size) && !has words s.toList))) := by
  unfold name
  have e : s.data.toList = s[0] :: s.data.toList.drop 1 := by have := drop_at s 0 h; simpa using this
  have e1 : letters 0 s.data.toList = (low s[0].toNat && decide (run part s.data.toList = s.size)) := by
    have h2 := letters_part s[0] (s.data.toList.drop 1)
    rw [← e] at h2
    rw [h2]; simp
  rw [e1]
  have h1 : decide (1 ≤ s.size) = true := decide_eq_true h
  rw [h1]
  cases decide (s.size ≤ 12) <;> cases low s[0].toNat <;> cases decide (run part s.data.toList = s.size) <;> simp
theorem name_none (s : ByteArray) (h : ¬ 0 < s.size) : name s = false := by
  unfold name
  have : decide (1 ≤ s.size) = false := by simpa using h
  rw [this]; simp
theorem name_long (s : ByteArray) (h : ¬ s.size ≤ 12) : name s = false := by
  unfold name
  have : decide (s.size ≤ 12) = false := by simpa using h
  rw [this]; simp
theorem has_drop (L : List (List UInt8)) (l : List UInt8) (k : Nat) (h : k < L.length) : has (L.drop k) l = ((l == L[k]) || has (L.drop (k + 1)) l) := by
  rw [List.drop_eq_getElem_cons h]; rfl
theorem has_end (L : List (List UInt8)) (l : List UInt8) (k : Nat) (h : ¬ k < L.length) : has (L.drop k) l = false := by
  rw [List.drop_eq_nil_of_le (by omega)]; rfl
end Go.Proofs.Ytpgpkdeiapeoiaa.Qm
/- Contracts of the leaves of chapter 2: letters, figures, runs, words, NameOk of both sides. -/
namespace Go.Proofs.Ytpgpkdeiapeoiaa
open Go.RowKit

theorem lret_bool {a b : Bool} (h : a = b) : Ending.returned (.bool a) = .returned (.bool b) := by rw [h]
theorem lret_int {k : IntKind} {a b : Int} (h : a = b) : Ending.returned (.int k a) = .returned (.int k b) := by rw [h]

set_option maxHeartbeats 400000 in
theorem isLetter_any (c : Int) (w : World) :
    Calls Try.prog 125 #[.int .u8 c] w fun e w' => e = .returned (.bool (Qm.low c)) ∧ w' = w := by
  go_enter Try.func125, Try.ntmps125
  go_wp2
  all_goals
    go_ret
    exact ⟨lret_bool (by rw [Bool.eq_iff_iff]; simp [Qm.low]; try omega), rfl⟩
set_option maxHeartbeats 400000 in
theorem l2Low_any (c : Int) (w : World) :
    Calls Try.prog 91 #[.int .u8 c] w fun e w' => e = .returned (.bool (Qm.low c)) ∧ w' = w := by
  go_enter Try.func91, Try.ntmps91
  go_wp2
  all_goals
    go_ret
    exact ⟨lret_bool (by rw [Bool.eq_iff_iff]; simp [Qm.low]; try omega), rfl⟩
set_option maxHeartbeats 400000 in
theorem isFigure_any (c : Int) (w : World) :
    Calls Try.prog 129 #[.int .u8 c] w fun e w' => e = .returned (.bool (Qm.fig c)) ∧ w' = w := by
  go_enter Try.func129, Try.ntmps129
  go_wp2
  all_goals
    go_ret
    exact ⟨lret_bool (by rw [Bool.eq_iff_iff]; simp [Qm.fig]; try omega), rfl⟩
set_option maxHeartbeats 400000 in
theorem l2Figure_any (c : Int) (w : World) :
    Calls Try.prog 92 #[.int .u8 c] w fun e w' => e = .returned (.bool (Qm.fig c)) ∧ w' = w := by
  go_enter Try.func92, Try.ntmps92
  go_wp2
  all_goals
    go_ret
    exact ⟨lret_bool (by rw [Bool.eq_iff_iff]; simp [Qm.fig]; try omega), rfl⟩
set_option maxHeartbeats 400000 in
theorem isNamePart_any (c : Int) (w : World) :
    Calls Try.prog 127 #[.int .u8 c] w fun e w' => e = .returned (.bool (Qm.part c)) ∧ w' = w := by
  go_enter Try.func127, Try.ntmps127
  go_wp2_with (first | (go_at_call 125; refine (isLetter_any _ _).mono ?_; rintro e w' ⟨rfl, rfl⟩) | (go_at_call 129; refine (isFigure_any _ _).mono ?_; rintro e w' ⟨rfl, rfl⟩))
  all_goals
    go_ret
    exact ⟨lret_bool (by simp_all [Qm.part]), rfl⟩
set_option maxHeartbeats 400000 in
theorem l1In_l (n a b : Int) (w : World) :
    Calls Try.prog 82 #[.int .i64 n, .int .i64 a, .int .i64 b] w fun e w' => e = .returned (.bool (decide (a ≤ n) && decide (n ≤ b))) ∧ w' = w := by
  go_enter Try.func82, Try.ntmps82
  go_wp2
  all_goals
    go_ret
    exact ⟨lret_bool (by simp; try omega), rfl⟩

/-- how many bytes a text begins with that are name's parts -/
theorem runLength_part (s : ByteArray) (w : World) (hs : s.size ≤ maxLen) :
    Calls Try.prog 126 #[.string s, .func (.func 127) #[] #[]] w fun e w' => e = .returned (.int .i64 (Qm.run Qm.part s.data.toList)) ∧ w' = w := by
  unfold maxLen at hs
  go_enter Try.func126, Try.ntmps126
  go_wp2_with fail
  go_loop [5] (fun i => ∃ k : Nat, k ≤ s.size ∧ i = .int .i64 k ∧ Qm.run Qm.part s.data.toList = k + Qm.run Qm.part (s.data.toList.drop k)) (fun i => s.size - (intOf i).toNat)
  case atStart => exact ⟨0, Nat.zero_le _, rfl, by simp⟩
  case round =>
    obtain ⟨k, hk, rfl, hr⟩ := hrel
    have HR : Hid (Qm.run Qm.part s.data.toList = k + Qm.run Qm.part (s.data.toList.drop k)) := hr
    clear hr
    by_cases hlt : k < s.size
    · have HS : Hid (Qm.run Qm.part (s.data.toList.drop k) = if Qm.part s[k].toNat then 1 + Qm.run Qm.part (s.data.toList.drop (k + 1)) else 0) := Qm.run_step _ s k hlt
      cases hp : Qm.part s[k].toNat
      · go_wp2_with (go_at_call 127; refine (isNamePart_any _ _).mono ?_; rintro e w' ⟨rfl, rfl⟩)
        go_ret
        exact ⟨lret_int (by rw [HR.out, HS.out, hp]; simp), rfl⟩
      · go_wp2_with (go_at_call 127; refine (isNamePart_any _ _).mono ?_; rintro e w' ⟨rfl, rfl⟩)
        go_round
        case rel => exact ⟨k + 1, by omega, by go_num, by rw [HR.out, HS.out, hp]; simp; omega⟩
        case measure => simp [intOf]; omega
    · have HE := Qm.run_end Qm.part s k hlt
      have HE' : Hid (Qm.run Qm.part (s.data.toList.drop k) = 0) := HE
      clear HE
      go_wp2_with fail
      go_ret
      exact ⟨lret_int (by rw [HR.out, HE'.out]; simp), rfl⟩
end Go.Proofs.Ytpgpkdeiapeoiaa
/- Plain mathematics of texts between quotes. -/
namespace Go.Proofs.Ytpgpkdeiapeoiaa.Qm
def plain (c : Int) : Bool := decide (32 ≤ c) && decide (c ≤ 126) && decide (c ≠ 34) && decide (c ≠ 92)
def hexs : List UInt8 := [48, 49, 50, 51, 52, 53, 54, 55, 56, 57, 97, 98, 99, 100, 101, 102]
def hexd (n : Nat) : UInt8 := hexs.getD n 0
def esc (b : UInt8) : List UInt8 :=
  if plain b.toNat then [b] else if b = 10 then [92, 110] else if b = 34 ∨ b = 92 then [92, b] else [92, 120, hexd (b.toNat / 16), hexd (b.toNat % 16)]
def quote (l : List UInt8) : List UInt8 := 34 :: (l.flatMap esc ++ [34])
theorem esc_length (b : UInt8) : 1 ≤ (esc b).length ∧ (esc b).length ≤ 4 := by
  unfold esc; split
  · simp
  · split
    · simp
    · split <;> simp
theorem flat_length (l : List UInt8) : (l.flatMap esc).length ≤ 4 * l.length := by
  induction l with
  | nil => simp
  | cons c t ih => have := esc_length c; simp only [List.flatMap_cons, List.length_append, List.length_cons]; omega
theorem flat_take (s : ByteArray) (k : Nat) (h : k < s.size) : (s.data.toList.take (k + 1)).flatMap esc = (s.data.toList.take k).flatMap esc ++ esc s[k] := by
  rw [List.take_succ_eq_append_getElem (by simpa using h), List.flatMap_append, List.flatMap_singleton]; rfl
end Go.Proofs.Ytpgpkdeiapeoiaa.Qm
/- Contracts: a byte between quotes, of both sides. -/
namespace Go.Proofs.Ytpgpkdeiapeoiaa
open Go.RowKit

set_option maxHeartbeats 400000 in
theorem standsForItself_any (c : Int) (w : World) :
    Calls Try.prog 79 #[.int .u8 c] w fun e w' => e = .returned (.bool (Qm.plain c)) ∧ w' = w := by
  go_enter Try.func79, Try.ntmps79
  go_wp2
  all_goals
    go_ret
    exact ⟨lret_bool (by rw [Bool.eq_iff_iff]; simp [Qm.plain]; try omega), rfl⟩

/-- a new row of one or two bytes, as a text -/
theorem qconv_one (W : World) (k : Nat) (c : Int) (hk : k = W.heap.size) :
    (convert 46 9 (.slice (some ⟨k, 0, none⟩) 1 1)).run Try.prog (W.alloc (.cells #[.int .u8 c] 5)) = .ok (.string (strOfNums [c])) (W.alloc (.cells #[.int .u8 c] 5)) := by
  subst hk
  refine run_convert_bytes_arg _ 46 5 Try.underlying46 Try.underlying5 W.heap.size 0 1 1 [c] rfl (fun i hi => ?_) 9 Try.underlying9
  obtain rfl : i = 0 := by omega
  simp
theorem conv_two (W : World) (k : Nat) (c d : Int) (hk : k = W.heap.size) :
    (convert 46 9 (.slice (some ⟨k, 0, none⟩) 2 2)).run Try.prog (W.alloc (.cells #[.int .u8 c, .int .u8 d] 5)) = .ok (.string (strOfNums [c, d])) (W.alloc (.cells #[.int .u8 c, .int .u8 d] 5)) := by
  subst hk
  refine run_convert_bytes_arg _ 46 5 Try.underlying46 Try.underlying5 W.heap.size 0 2 2 [c, d] rfl (fun i hi => ?_) 9 Try.underlying9
  have : i = 0 ∨ i = 1 := by omega
  rcases this with rfl | rfl <;> simp
theorem conv_two_drew (W : World) (k : Nat) (c d : Int) (hk : k = W.heap.size) :
    (convert 46 9 (.slice (some ⟨k, 0, none⟩) 2 2)).run Try.prog (W.alloc (.cells #[.int .u8 c, .int .u8 d] 5)).drew = .ok (.string (strOfNums [c, d])) (W.alloc (.cells #[.int .u8 c, .int .u8 d] 5)).drew := by
  subst hk
  refine run_convert_bytes_arg _ 46 5 Try.underlying46 Try.underlying5 W.heap.size 0 2 2 [c, d] rfl (fun i hi => ?_) 9 Try.underlying9
  have : i = 0 ∨ i = 1 := by omega
  rcases this with rfl | rfl <;> simp
theorem hex_at (i : Nat) (h : i < (⟨#[48, 49, 50, 51, 52, 53, 54, 55, 56, 57, 97, 98, 99, 100, 101, 102]⟩ : ByteArray).size) : (⟨#[48, 49, 50, 51, 52, 53, 54, 55, 56, 57, 97, 98, 99, 100, 101, 102]⟩ : ByteArray)[i] = Qm.hexd i := by
  have h' : i < 16 := h
  have : i = 0 ∨ i = 1 ∨ i = 2 ∨ i = 3 ∨ i = 4 ∨ i = 5 ∨ i = 6 ∨ i = 7 ∨ i = 8 ∨ i = 9 ∨ i = 10 ∨ i = 11 ∨ i = 12 ∨ i = 13 ∨ i = 14 ∨ i = 15 := by omega
  rcases this with rfl | rfl | rfl | rfl | rfl | rfl | rfl | rfl | rfl | rfl | rfl | rfl | rfl | rfl | rfl | rfl <;> rfl
theorem ret_str {a b : ByteArray} (h : a.data.toList = b.data.toList) : Ending.returned (.string a) = .returned (.string b) := by
  have : a = b := by cases a; cases b; simpa using h
  rw [this]

end Go.Proofs.Ytpgpkdeiapeoiaa
/- Plain mathematics of texts between quotes, as JSON has them. -/
namespace Go.Proofs.Ytpgpkdeiapeoiaa.Qm
def jesc (b : UInt8) : List UInt8 :=
  if b = 34 ∨ b = 92 then [92, b] else if plain b.toNat then [b] else [92, 117, 48, 48, hexd (b.toNat / 16), hexd (b.toNat % 16)]
def jquote (l : List UInt8) : List UInt8 := 34 :: (l.flatMap jesc ++ [34])
theorem jesc_length (b : UInt8) : 1 ≤ (jesc b).length ∧ (jesc b).length ≤ 6 := by
  unfold jesc; split
  · simp
  · split <;> simp
theorem jflat_length (l : List UInt8) : (l.flatMap jesc).length ≤ 6 * l.length := by
  induction l with
  | nil => simp
  | cons c t ih => have := jesc_length c; simp only [List.flatMap_cons, List.length_append, List.length_cons]; omega
theorem jquote_length (l : List UInt8) : (jquote l).length ≤ 6 * l.length + 2 := by
  have := jflat_length l
  unfold jquote
  simp only [List.length_append, List.length_cons, List.length_nil]; omega
theorem jflat_take (s : ByteArray) (k : Nat) (h : k < s.size) : (s.data.toList.take (k + 1)).flatMap jesc = (s.data.toList.take k).flatMap jesc ++ jesc s[k] := by
  rw [List.take_succ_eq_append_getElem (by simpa using h), List.flatMap_append, List.flatMap_singleton]; rfl
theorem jesc_plain {b : UInt8} (h : plain b.toNat = true) : jesc b = [b] := by
  have h1 : ¬ (b = 34 ∨ b = 92) := by
    rintro (rfl | rfl) <;> revert h <;> decide
  rw [jesc, if_neg h1, if_pos h]
end Go.Proofs.Ytpgpkdeiapeoiaa.Qm
/- Contracts: a byte between quotes, as JSON has it, by the specification. -/
namespace Go.Proofs.Ytpgpkdeiapeoiaa
open Go.RowKit
set_option maxRecDepth 100000 in
set_option maxHeartbeats 1000000 in
theorem l7Escape_any (b : UInt8) (w : World) :
    Calls Try.prog 63 #[.int .u8 b.toNat] w fun e w' => e = .returned (.string ⟨(Qm.jesc b).toArray⟩) ∧ Below w.heap.size w w' := by
  have hb := b.toNat_lt
  by_cases h2 : b = 34 ∨ b = 92
  · have hcv := conv_two w w.heap.size 92 34 rfl
    have hcw := conv_two w w.heap.size 92 92 rfl
    have he : Qm.jesc b = [92, b] := by rw [Qm.jesc, if_pos h2]
    rcases h2 with rfl | rfl
    all_goals
      go_enter Try.func63, Try.ntmps63
      go_wp2_with fail
      go_ret
      exact ⟨ret_str (by rw [he]; simp [strOfNums]), (by (repeat' (first | assumption | exact Below.refl _ _ | refine Below.alloc ?_ ?_ _ | refine Below.setCell ?_ ?_ _ | refine Below.drew ?_ | refine below_drewN ?_ _)) <;> (first | omega | (simp <;> omega)))⟩
  · have t34 : ¬ (b.toNat = 34) := fun h => h2 (.inl (UInt8.toNat_inj.1 h))
    have t92 : ¬ (b.toNat = 92) := fun h => h2 (.inr (UInt8.toNat_inj.1 h))
    have e34 : ((b.toNat : Int) == 34) = false := by simp; omega
    have e92 : ((b.toNat : Int) == 92) = false := by simp; omega
    by_cases hp : Qm.plain b.toNat = true
    · have hcv := qconv_one w w.heap.size b.toNat rfl
      have he : Qm.jesc b = [b] := Qm.jesc_plain hp
      have hr : (32 : Int) ≤ (b.toNat : Int) ∧ (b.toNat : Int) < 127 := by simp [Qm.plain] at hp; omega
      obtain ⟨r1, r2⟩ := hr
      have HE : Hid (Qm.jesc b = [b]) := he
      clear hp h2 he
      go_enter Try.func63, Try.ntmps63
      go_wp2_with fail
      go_ret
      exact ⟨ret_str (by rw [HE.out]; simp [strOfNums]), (by (repeat' (first | assumption | exact Below.refl _ _ | refine Below.alloc ?_ ?_ _ | refine Below.setCell ?_ ?_ _ | refine Below.drew ?_ | refine below_drewN ?_ _)) <;> (first | omega | (simp <;> omega)))⟩
    · have hr : ¬ ((32 : Int) ≤ (b.toNat : Int) ∧ (b.toNat : Int) < 127) := by
        intro h
        apply hp
        simp [Qm.plain]
        omega
      obtain ⟨i, hi⟩ : ∃ i : Nat, i = b.toNat / 16 := ⟨_, rfl⟩
      obtain ⟨j, hj⟩ : ∃ j : Nat, j = b.toNat % 16 := ⟨_, rfl⟩
      have q1 : IntKind.u8.wrap ((b.toNat : Int).tdiv 16) = (i : Int) := by rw [IntKind.wrap_u8, Int.tdiv_eq_ediv_of_nonneg (by omega)]; omega
      have q2 : IntKind.u8.wrap ((b.toNat : Int).tmod 16) = (j : Int) := by rw [IntKind.wrap_u8, Int.tmod_eq_emod_of_nonneg (by omega)]; omega
      have q3 : (b.toNat : Int).tdiv 16 = (i : Int) := by rw [Int.tdiv_eq_ediv_of_nonneg (by omega)]; omega
      have q4 : (b.toNat : Int).tmod 16 = (j : Int) := by rw [Int.tmod_eq_emod_of_nonneg (by omega)]; omega
      have q5 : (b.toNat : Int) / 16 = (i : Int) := by omega
      have q6 : (b.toNat : Int) % 16 = (j : Int) := by omega
      have i1 : (0 : Int) ≤ (i : Int) := by omega
      have j1 : (0 : Int) ≤ (j : Int) := by omega
      have i2 : (i : Int) < 16 := by omega
      have j2 : (j : Int) < 16 := by omega
      have Hi : Hid (i = b.toNat / 16) := hi
      have Hj : Hid (j = b.toNat % 16) := hj
      have HE : Hid (Qm.jesc b = [92, 117, 48, 48, Qm.hexd i, Qm.hexd j]) := by unfold Hid; rw [Qm.jesc, if_neg h2, if_neg hp, hi, hj]
      clear hi hj hp h2
      have hrr : ¬ (32 : Int) ≤ (b.toNat : Int) ∨ ¬ (b.toNat : Int) < 127 := by omega
      rcases hrr with hr1 | hr1
      all_goals
        clear hr
        go_enter Try.func63, Try.ntmps63
        go_wp2_with fail
        have hcv := fun c d => conv_two_drew w w.heap.size c d rfl
        have hs2 : ∀ c d, (strOfNums [c, d]).size = 2 := fun c d => strOfNums_size [c, d]
        go_region
        go_wp2_with fail
        go_ret
        have he : Qm.jesc b = [92, 117, 48, 48, Qm.hexd i, Qm.hexd j] := HE.out
        exact ⟨ret_str (by rw [he, hex_at, hex_at]; simp [strOfNums, ByteArray.data_append]), (by (repeat' (first | assumption | exact Below.refl _ _ | refine Below.alloc ?_ ?_ _ | refine Below.setCell ?_ ?_ _ | refine Below.drew ?_ | refine below_drewN ?_ _)) <;> (first | omega | (simp <;> omega)))⟩
end Go.Proofs.Ytpgpkdeiapeoiaa
/- Plain mathematics: reading a text between quotes. -/
namespace Go.Proofs.Ytpgpkdeiapeoiaa.Qm
def hexv (c : UInt8) : Int := if fig c.toNat then (c.toNat : Int) - 48 else if 97 ≤ c.toNat ∧ c.toNat ≤ 102 then (c.toNat : Int) - 87 else -1
def hx : List UInt8 → UInt8 × Nat
  | x :: y :: _ => if 0 ≤ hexv x ∧ 0 ≤ hexv y then (UInt8.ofNat (hexv x * 16 + hexv y).toNat, 4) else (0, 0)
  | _ => (0, 0)
def nx : List UInt8 → UInt8 × Nat
  | [] => (0, 0)
  | c :: t => if plain c.toNat then (c, 1) else if c ≠ 92 then (0, 0) else
    match t with
    | [] => (0, 0)
    | d :: t2 => if d = 110 then (10, 2) else if d = 34 ∨ d = 92 then (d, 2) else if d = 120 then hx t2 else (0, 0)
def gq : Nat → List UInt8 → List UInt8 → Option (List UInt8)
  | _, [], acc => some acc
  | 0, _ :: _, _ => none
  | f + 1, c :: t, acc => if (nx (c :: t)).2 = 0 then none else gq f ((c :: t).drop (nx (c :: t)).2) (acc ++ [(nx (c :: t)).1])
/-- what lies between the first byte and the last -/
def mid (l : List UInt8) : List UInt8 := (l.drop 1).take (l.length - 2)
def quoted (l : List UInt8) : Bool := decide (2 ≤ l.length) && (l.getD 0 0 == 34) && (l.getD (l.length - 1) 0 == 34)
def qget (l : List UInt8) : Option (List UInt8) := if quoted l then gq l.length (mid l) [] else none

theorem hexv_le (c : UInt8) : -1 ≤ hexv c ∧ hexv c ≤ 15 := by
  unfold hexv fig; split
  · rename_i h; simp at h; omega
  · split <;> omega
theorem hx_le (l : List UInt8) : (hx l).2 ≤ l.length + 2 := by
  unfold hx; split
  · split <;> simp
  · simp
theorem nx_le (l : List UInt8) : (nx l).2 ≤ l.length := by
  unfold nx; split
  · simp
  · split
    · simp
    · split
      · simp
      · split
        · simp
        · split
          · simp
          · split
            · simp
            · split
              · have := hx_le ‹_›; simp; omega
              · simp
theorem gq_nil (f : Nat) (acc : List UInt8) : gq f [] acc = some acc := by cases f <;> rfl
theorem gq_stop (f : Nat) (l acc : List UInt8) (h : l ≠ []) (h0 : (nx l).2 = 0) : gq f l acc = none := by
  cases l with
  | nil => exact absurd rfl h
  | cons c t => cases f with
    | zero => rfl
    | succ f => simp only [gq, h0, if_true]
theorem gq_step (f : Nat) (l acc : List UInt8) (h : l ≠ []) (h0 : (nx l).2 ≠ 0) : gq (f + 1) l acc = gq f (l.drop (nx l).2) (acc ++ [(nx l).1]) := by
  cases l with
  | nil => exact absurd rfl h
  | cons c t => simp only [gq, if_neg h0]
theorem nx_nil : nx [] = (0, 0) := rfl
theorem nx_plain (c : UInt8) (t : List UInt8) (h : plain c.toNat = true) : nx (c :: t) = (c, 1) := by simp [nx, h]
theorem nx_other (c : UInt8) (t : List UInt8) (h : plain c.toNat = false) (h2 : c ≠ 92) : nx (c :: t) = (0, 0) := by simp [nx, h, h2]
theorem nx_bare : nx [92] = (0, 0) := rfl
theorem nx_n (t : List UInt8) : nx (92 :: 110 :: t) = (10, 2) := rfl
theorem nx_q (d : UInt8) (t : List UInt8) (h : d = 34 ∨ d = 92) : nx (92 :: d :: t) = (d, 2) := by rcases h with rfl | rfl <;> rfl
theorem nx_x (t : List UInt8) : nx (92 :: 120 :: t) = hx t := rfl
theorem nx_no (d : UInt8) (t : List UInt8) (h1 : d ≠ 110) (h2 : d ≠ 34) (h3 : d ≠ 92) (h4 : d ≠ 120) : nx (92 :: d :: t) = (0, 0) := by
  have hp : plain 92 = false := rfl
  simp [nx, hp, h1, h2, h3, h4]
theorem hx_short (t : List UInt8) (h : t.length < 2) : hx t = (0, 0) := by
  match t, h with
  | [], _ => rfl
  | [_], _ => rfl
theorem hx_two (x y : UInt8) (t : List UInt8) : hx (x :: y :: t) = if 0 ≤ hexv x ∧ 0 ≤ hexv y then (UInt8.ofNat (hexv x * 16 + hexv y).toNat, 4) else (0, 0) := rfl
theorem mid_length (l : List UInt8) : (mid l).length = l.length - 2 := by simp [mid]; omega
/-- the model's look-up of a figure is the figure's number -/
theorem byte_of (x y : UInt8) (h1 : 0 ≤ hexv x) (h2 : 0 ≤ hexv y) : ((UInt8.ofNat (hexv x * 16 + hexv y).toNat).toNat : Int) = hexv x * 16 + hexv y := by
  have := hexv_le x; have := hexv_le y
  rw [UInt8.toNat_ofNat']; omega
end Go.Proofs.Ytpgpkdeiapeoiaa.Qm
/- The library's contract on strings.IndexByte at this dump; the figures of sixteen. -/
namespace Go.Proofs.Ytpgpkdeiapeoiaa
open Go.Shelf Go.RowKit
def ren137 : Ren := ⟨fun | 137 => 80 | 217 => 86 | 266 => 90 | n => n, fun | 9 => 9 | 5 => 5 | 3 => 3 | n => n, fun | n => n⟩
theorem lays137 : Lays.n137 Try.prog ren137 := {
  mixed := by kernel_rfl
  f137 := Try.func80.trans (congrArg some (by kernel_rfl))
  f217 := Try.func86.trans (congrArg some (by kernel_rfl))
  f266 := Try.func90.trans (congrArg some (by kernel_rfl))
  t3 := Try.underlying3
  a3 := Try.isAgg3
  z3 := Try.sizeOf3
  v3 := Try.zeroValue3
  t5 := Try.underlying5
  a5 := Try.isAgg5
  z5 := Try.sizeOf5
  v5 := Try.zeroValue5
  t9 := Try.underlying9
  a9 := Try.isAgg9
  z9 := Try.sizeOf9
  v9 := Try.zeroValue9 }
theorem indexByte_lib (s : ByteArray) (c : Int) (w : World) :
    Calls Try.prog 80 #[.string s, .int .u8 c] w fun e w' => e = .returned (.int .i64 (Lib.indexByte s.data.toList c.toNat.toUInt8)) ∧ w' = w := Any.strings_IndexByte lays137 s c w
theorem hex_all : ∀ n : Fin 256, Lib.indexByte Qm.hexs (UInt8.ofNat n.val) = Qm.hexv (UInt8.ofNat n.val) := by decide +kernel
theorem hex_index (c : UInt8) : Lib.indexByte Qm.hexs ((c.toNat : Int).toNat.toUInt8) = Qm.hexv c := by
  have h := hex_all ⟨c.toNat, c.toNat_lt⟩
  have e : UInt8.ofNat c.toNat = c := by simp
  rw [e] at h
  rw [Int.toNat_natCast]
  show Lib.indexByte Qm.hexs (UInt8.ofNat c.toNat) = _
  rw [e]; exact h
theorem hexIndex_any (c : UInt8) (w : World) :
    Calls Try.prog 80 #[.string ⟨#[48, 49, 50, 51, 52, 53, 54, 55, 56, 57, 97, 98, 99, 100, 101, 102]⟩, .int .u8 c.toNat] w fun e w' => e = .returned (.int .i64 (Qm.hexv c)) ∧ w' = w := by
  refine (indexByte_lib _ _ w).mono ?_
  rintro e w' ⟨rfl, hw⟩
  refine ⟨?_, hw⟩
  rw [← hex_index c]; rfl
end Go.Proofs.Ytpgpkdeiapeoiaa
/- The library's contracts on strings.Builder at this dump: WriteByte, WriteString, String. -/
namespace Go.Proofs.Ytpgpkdeiapeoiaa
open Go.Shelf Go.RowKit
def ren167 : Ren := ⟨fun | 167 => 68 | 240 => 75 | 276 => 84 | n => n, fun | 0 => 0 | 4 => 4 | 5 => 5 | 9 => 9 | 20 => 20 | 37 => 46 | 70 => 45 | 72 => 48 | 75 => 75 | 164 => 113 | 80 => 55 | n => n, fun | n => n⟩
theorem lays167 : Lays.n167 Try.prog ren167 := {
  mixed := by kernel_rfl
  f167 := Try.func68.trans (congrArg some (by kernel_rfl))
  f240 := Try.func75.trans (congrArg some (by kernel_rfl))
  f276 := Try.func84.trans (congrArg some (by kernel_rfl))
  t0 := Try.underlying0
  a0 := Try.isAgg0
  z0 := Try.sizeOf0
  v0 := Try.zeroValue0
  t4 := Try.underlying4
  a4 := Try.isAgg4
  z4 := Try.sizeOf4
  v4 := Try.zeroValue4
  t5 := Try.underlying5
  a5 := Try.isAgg5
  z5 := Try.sizeOf5
  v5 := Try.zeroValue5
  t9 := Try.underlying9
  a9 := Try.isAgg9
  z9 := Try.sizeOf9
  v9 := Try.zeroValue9
  t20 := Try.underlying20
  a20 := Try.isAgg20
  z20 := Try.sizeOf20
  v20 := Try.zeroValue20
  t37 := Try.underlying46
  a37 := Try.isAgg46
  z37 := Try.sizeOf46
  v37 := Try.zeroValue46
  t70 := Try.underlying45
  a70 := Try.isAgg45
  z70 := Try.sizeOf45
  v70 := Try.zeroValue45
  t72 := Try.underlying48
  a72 := Try.isAgg48
  z72 := Try.sizeOf48
  v72 := Try.zeroValue48
  t75 := Try.underlying75
  a75 := Try.isAgg75
  z75 := Try.sizeOf75
  v75 := Try.zeroValue75
  t164 := Try.underlying113
  a164 := Try.isAgg113
  z164 := Try.sizeOf113
  v164 := Try.zeroValue113 }
theorem extra167 : Builder.Extra Try.prog ren167 := {
  sizeBuilder := by kernel_rfl
  liesBuilder := by kernel_rfl
  t5 := Try.underlying5
  a5 := Try.isAgg5
  z5 := Try.sizeOf5
  v5 := Try.zeroValue5
  infoByte := by kernel_rfl
  cellsByte := by kernel_rfl
  sizeByte := by kernel_rfl
  neB5 := by decide }
def ren166 : Ren := ⟨fun | 166 => 81 | 240 => 75 | 276 => 84 | n => n, fun | 0 => 0 | 3 => 3 | 4 => 4 | 9 => 9 | 20 => 20 | 37 => 46 | 70 => 45 | 72 => 48 | 75 => 75 | 164 => 113 | 80 => 55 | 5 => 5 | n => n, fun | n => n⟩
theorem lays166 : Lays.n166 Try.prog ren166 := {
  mixed := by kernel_rfl
  f166 := Try.func81.trans (congrArg some (by kernel_rfl))
  f240 := Try.func75.trans (congrArg some (by kernel_rfl))
  f276 := Try.func84.trans (congrArg some (by kernel_rfl))
  t0 := Try.underlying0
  a0 := Try.isAgg0
  z0 := Try.sizeOf0
  v0 := Try.zeroValue0
  t3 := Try.underlying3
  a3 := Try.isAgg3
  z3 := Try.sizeOf3
  v3 := Try.zeroValue3
  t4 := Try.underlying4
  a4 := Try.isAgg4
  z4 := Try.sizeOf4
  v4 := Try.zeroValue4
  t9 := Try.underlying9
  a9 := Try.isAgg9
  z9 := Try.sizeOf9
  v9 := Try.zeroValue9
  t20 := Try.underlying20
  a20 := Try.isAgg20
  z20 := Try.sizeOf20
  v20 := Try.zeroValue20
  t37 := Try.underlying46
  a37 := Try.isAgg46
  z37 := Try.sizeOf46
  v37 := Try.zeroValue46
  t70 := Try.underlying45
  a70 := Try.isAgg45
  z70 := Try.sizeOf45
  v70 := Try.zeroValue45
  t72 := Try.underlying48
  a72 := Try.isAgg48
  z72 := Try.sizeOf48
  v72 := Try.zeroValue48
  t75 := Try.underlying75
  a75 := Try.isAgg75
  z75 := Try.sizeOf75
  v75 := Try.zeroValue75
  t164 := Try.underlying113
  a164 := Try.isAgg113
  z164 := Try.sizeOf113
  v164 := Try.zeroValue113 }
theorem extra166 : Builder.Extra Try.prog ren166 := {
  sizeBuilder := by kernel_rfl
  liesBuilder := by kernel_rfl
  t5 := Try.underlying5
  a5 := Try.isAgg5
  z5 := Try.sizeOf5
  v5 := Try.zeroValue5
  infoByte := by kernel_rfl
  cellsByte := by kernel_rfl
  sizeByte := by kernel_rfl
  neB5 := by decide }
def ren169 : Ren := ⟨fun | 169 => 28 | n => n, fun | 0 => 0 | 3 => 3 | 9 => 9 | 37 => 46 | 70 => 45 | 72 => 48 | 127 => 85 | 5 => 5 | n => n, fun | n => n⟩
theorem lays169 : Lays.n169 Try.prog ren169 := {
  mixed := by kernel_rfl
  f169 := Try.func28.trans (congrArg some (by kernel_rfl))
  t0 := Try.underlying0
  a0 := Try.isAgg0
  z0 := Try.sizeOf0
  v0 := Try.zeroValue0
  t3 := Try.underlying3
  a3 := Try.isAgg3
  z3 := Try.sizeOf3
  v3 := Try.zeroValue3
  t9 := Try.underlying9
  a9 := Try.isAgg9
  z9 := Try.sizeOf9
  v9 := Try.zeroValue9
  t37 := Try.underlying46
  a37 := Try.isAgg46
  z37 := Try.sizeOf46
  v37 := Try.zeroValue46
  t70 := Try.underlying45
  a70 := Try.isAgg45
  z70 := Try.sizeOf45
  v70 := Try.zeroValue45
  t72 := Try.underlying48
  a72 := Try.isAgg48
  z72 := Try.sizeOf48
  v72 := Try.zeroValue48
  t127 := Try.underlying85
  a127 := Try.isAgg85
  z127 := Try.sizeOf85
  v127 := Try.zeroValue85 }
theorem extra169 : Builder.Extra Try.prog ren169 := {
  sizeBuilder := by kernel_rfl
  liesBuilder := by kernel_rfl
  t5 := Try.underlying5
  a5 := Try.isAgg5
  z5 := Try.sizeOf5
  v5 := Try.zeroValue5
  infoByte := by kernel_rfl
  cellsByte := by kernel_rfl
  sizeByte := by kernel_rfl
  neB5 := by decide }
theorem bWriteByte (B b : Nat) (bs : List Value) (c : Int) (w : World) (h : Lib.IsBuilderF 48 5 B b bs w) (hlen : bs.length + 1 ≤ 140737488355328) (hBw : B ≤ w.heap.size) :
    Calls Try.prog 68 #[.pointer (some ⟨b, 0, none⟩), .int .u8 c] w fun e w' => e = .returned .nilIface ∧ Lib.IsBuilderF 48 5 B b (bs ++ [.int .u8 c]) w' ∧ Below B w w' ∧ Lib.OthersKept 5 (some b) w w' :=
  (Any.Builder_WriteByte_k lays167 extra167 B b bs c w h hlen hBw).mono fun _ _ ⟨e, h1, h2, h3⟩ => ⟨e, Or.inr h1, h2, h3⟩
theorem bWriteString (B b : Nat) (bs : List Value) (s : ByteArray) (w : World) (h : Lib.IsBuilderF 48 5 B b bs w) (hlen : bs.length + s.size ≤ 140737488355328) (hBw : B ≤ w.heap.size) :
    Calls Try.prog 81 #[.pointer (some ⟨b, 0, none⟩), .string s] w fun e w' => e = .returned (.tuple #[.int .i64 s.size, .nilIface]) ∧ Lib.IsBuilderF 48 5 B b (bs ++ Lib.strCells s) w' ∧ Below B w w' ∧ Lib.OthersKept 5 (some b) w w' :=
  (Any.Builder_WriteString_k lays166 extra166 B b bs s w h hlen hBw).mono fun _ _ ⟨e, h1, h2, h3⟩ => ⟨e, Or.inr h1, h2, h3⟩
theorem bString (B b : Nat) (l : List UInt8) (w : World) (h : Lib.IsBuilderF 48 5 B b (Lib.byteCells l) w) (hBw : B ≤ w.heap.size) :
    Calls Try.prog 28 #[.pointer (some ⟨b, 0, none⟩)] w fun e w' => e = .returned (.string ⟨l.toArray⟩) ∧ Lib.IsBuilderF 48 5 B b (Lib.byteCells l) w' ∧ Below B w w' ∧ Lib.OthersKept 5 (some b) w w' :=
  Any.Builder_String_any_k lays169 extra169 B b l w h hBw
end Go.Proofs.Ytpgpkdeiapeoiaa
/- Contracts: how texts are put between quotes, of the program (quoting as papers have it). -/
namespace Go.Proofs.Ytpgpkdeiapeoiaa
open Go.RowKit
/-- how texts stand in papers -/
abbrev pq : Value := .agg #[.string ⟨#[92, 120]⟩, .string ⟨#[34, 92, 110]⟩, .string ⟨#[34, 92, 10]⟩, .int .i64 3]
theorem arr_size (l : List UInt8) : (⟨l.toArray⟩ : ByteArray).size = l.length := by show l.toArray.size = _; simp
theorem arr_append (a b : List UInt8) : (⟨a.toArray⟩ : ByteArray) ++ ⟨b.toArray⟩ = ⟨(a ++ b).toArray⟩ := by
  have : ∀ x y : ByteArray, x.data.toList = y.data.toList → x = y := by intro x y h; cases x; cases y; simpa using h
  apply this; simp [ByteArray.data_append]
theorem arr_back (s : ByteArray) : (⟨s.data.toList.toArray⟩ : ByteArray) = s := by cases s; simp
/-- the builder in block k holds these bytes -/
abbrev Holds (B k : Nat) (acc : List UInt8) (w : World) : Prop := Lib.IsBuilderF 48 5 B k (Lib.byteCells acc) w
theorem Holds.byte {B k : Nat} {acc : List UInt8} {c : UInt8} {n : Int} {w : World} (h : Lib.IsBuilderF 48 5 B k (Lib.byteCells acc ++ [.int .u8 n]) w) (hn : n = c.toNat) : Holds B k (acc ++ [c]) w := by
  subst hn
  unfold Holds
  rw [Lib.byteCells_append]; exact h
theorem Holds.text {B k : Nat} {acc l : List UInt8} {s : ByteArray} {w : World} (h : Lib.IsBuilderF 48 5 B k (Lib.byteCells acc ++ Lib.strCells s) w) (hs : s.data.toList = l) : Holds B k (acc ++ l) w := by
  subst hs
  unfold Holds
  rw [Lib.byteCells_append]; exact h
theorem kept_trans {e : TypeId} {b : Option Nat} {w1 w2 w3 : World} (h : Lib.OthersKept e b w1 w2) (h' : Lib.OthersKept e b w2 w3) : Lib.OthersKept e b w1 w3 := h.trans h'
theorem wByte (B k : Nat) (acc : List UInt8) (c : UInt8) (n : Int) (hn : n = c.toNat) (w : World) (h : Holds B k acc w) (hlen : acc.length ≤ 100000000) (hBw : B ≤ w.heap.size) :
    Calls Try.prog 68 #[.pointer (some ⟨k, 0, none⟩), .int .u8 n] w fun e w' => e = .returned .nilIface ∧ Holds B k (acc ++ [c]) w' ∧ Below B w w' ∧ Lib.OthersKept 5 (some k) w w' :=
  (bWriteByte B k _ n w h (by rw [Lib.byteCells_length]; omega) hBw).mono fun _ _ ⟨e, h1, h2, h3⟩ => ⟨e, Holds.byte h1 hn, h2, h3⟩
theorem wText (B k : Nat) (acc l : List UInt8) (s : ByteArray) (hs : s.data.toList = l) (w : World) (h : Holds B k acc w) (hlen : acc.length + s.size ≤ 100000000) (hBw : B ≤ w.heap.size) :
    Calls Try.prog 81 #[.pointer (some ⟨k, 0, none⟩), .string s] w fun e w' => e = .returned (.tuple #[.int .i64 s.size, .nilIface]) ∧ Holds B k (acc ++ l) w' ∧ Below B w w' ∧ Lib.OthersKept 5 (some k) w w' :=
  (bWriteString B k _ s w h (by rw [Lib.byteCells_length]; omega) hBw).mono fun _ _ ⟨e, h1, h2, h3⟩ => ⟨e, Holds.text h1 hs, h2, h3⟩
/-- the quoting lies in a box -/
def Qbox (q : Nat) (W : World) : Prop := W.heap[q]? = some (.cells #[.string ⟨#[92, 120]⟩, .string ⟨#[34, 92, 110]⟩, .string ⟨#[34, 92, 10]⟩, .int .i64 3] 50)
theorem qbox_new (W : World) : Qbox W.heap.size (W.alloc (.cells #[.string ⟨#[92, 120]⟩, .string ⟨#[34, 92, 110]⟩, .string ⟨#[34, 92, 10]⟩, .int .i64 3] 50)) := by
  show (W.heap.push _)[W.heap.size]? = _
  rw [Array.getElem?_push, if_pos rfl]
theorem qbox_stays {k q : Nat} {W W' : World} (h : Qbox q W) (hne : q ≠ k) (hk : Lib.OthersKept 5 (some k) W W') : Qbox q W' :=
  hk q _ h (fun e => hne (Option.some.inj e)) (fun c fz e => by cases e)
theorem qbox_cells {q : Nat} {W : World} (h : Qbox q W) : W.cell? ⟨q, 0, none⟩ = some (.string ⟨#[92, 120]⟩) ∧ W.cell? ⟨q, 1, none⟩ = some (.string ⟨#[34, 92, 110]⟩) ∧ W.cell? ⟨q, 2, none⟩ = some (.string ⟨#[34, 92, 10]⟩) ∧ W.cell? ⟨q, 3, none⟩ = some (.int .i64 3) := by
  unfold Qbox at h
  refine ⟨?_, ?_, ?_, ?_⟩ <;> simp [World.cell?, h]
theorem mk_at {i : Nat} {x : UInt8} (hx : (⟨#[34, 92, 110]⟩ : ByteArray).data[i]? = some x) (h : i < (⟨#[34, 92, 110]⟩ : ByteArray).size) : (⟨#[34, 92, 110]⟩ : ByteArray)[i]'h = x := by
  obtain ⟨h2, e⟩ := Array.getElem?_eq_some_iff.1 hx
  exact e
theorem mark_none : ∀ n : Fin 256, n.val ≠ 34 → n.val ≠ 92 → n.val ≠ 10 → Lib.indexByte ((⟨#[34, 92, 10]⟩ : ByteArray).extract 0 3).data.toList (UInt8.ofNat n.val) = -1 := by decide +kernel
set_option maxHeartbeats 1000000 in
theorem putByte_any (b : UInt8) (acc : List UInt8) (B k : Nat) (w : World) (h : Holds B k acc w) (hk : k < w.heap.size) (hlen : acc.length ≤ 90000000) (hBw : B ≤ w.heap.size) :
    Calls Try.prog 70 #[pq, .pointer (some ⟨k, 0, none⟩), .int .u8 b.toNat] w fun e w' => e = .returned (.tuple #[]) ∧ Holds B k (acc ++ Qm.esc b) w' ∧ Below B w w' := by
  have hb := b.toNat_lt
  have hH0 : Holds B k acc (w.alloc (.cells #[.string ⟨#[92, 120]⟩, .string ⟨#[34, 92, 110]⟩, .string ⟨#[34, 92, 10]⟩, .int .i64 3] 50)) := h.alloc _
  have hq0 := qbox_new w
  have hB0 := (Below.refl B w).alloc hBw (.cells #[.string ⟨#[92, 120]⟩, .string ⟨#[34, 92, 110]⟩, .string ⟨#[34, 92, 10]⟩, .int .i64 3] 50)
  have hz0 := hB0.size
  have hne : w.heap.size ≠ k := by omega
  by_cases hp : Qm.plain b.toNat = true
  · have he : Qm.esc b = [b] := by rw [Qm.esc, if_pos hp]
    rw [he]
    go_enter Try.func70, Try.ntmps70
    go_wp2_with (go_at_call 79; refine (standsForItself_any _ _).mono ?_; rintro e w' ⟨rfl, hw⟩; subst w')
    refine (wByte B k acc b _ rfl _ hH0 (by omega) (by omega)).mono ?_
    rintro e w1 ⟨rfl, h1, b1, k1⟩
    go_wp2_with fail
    exact bodyPost_ret (v := .tuple #[]) (by simp [results, Try.results70]) rfl ⟨rfl, h1, hB0.trans b1⟩
  · have hp' : Qm.plain b.toNat = false := by simpa using hp
    by_cases hm : b = 34 ∨ b = 92 ∨ b = 10
    · obtain ⟨x, i, hx, hix, he, hmk⟩ : ∃ (x : UInt8) (i : Nat), i < 3 ∧ Lib.indexByte ((⟨#[34, 92, 10]⟩ : ByteArray).extract 0 3).data.toList ((b.toNat : Int).toNat.toUInt8) = (i : Int) ∧ Qm.esc b = [92, x] ∧ (⟨#[34, 92, 110]⟩ : ByteArray).data[i]? = some x := by
        rcases hm with rfl | rfl | rfl
        · exact ⟨34, 0, by omega, by decide +kernel, by decide +kernel, by decide +kernel⟩
        · exact ⟨92, 1, by omega, by decide +kernel, by decide +kernel, by decide +kernel⟩
        · exact ⟨110, 2, by omega, by decide +kernel, by decide +kernel, by decide +kernel⟩
      rw [he]
      clear he hm
      go_enter Try.func70, Try.ntmps70
      go_wp2_with (go_at_call 79; refine (standsForItself_any _ _).mono ?_; rintro e w' ⟨rfl, hw⟩; subst w')
      refine (indexByte_lib _ _ _).mono ?_
      rintro e w' ⟨rfl, hw⟩
      subst w'
      rw [hix]
      have hi0 : (0 : Int) ≤ (i : Int) := by omega
      have hi3 : (i : Int) < 3 := by omega
      generalize w.alloc (.cells #[.string ⟨#[92, 120]⟩, .string ⟨#[34, 92, 110]⟩, .string ⟨#[34, 92, 10]⟩, .int .i64 3] 50) = W0 at *
      go_wp2_with fail
      refine (wByte B k acc 92 92 rfl _ hH0 (by omega) (by omega)).mono ?_
      rintro e w1 ⟨rfl, h1, b1, k1⟩
      obtain ⟨_, c1, _, _⟩ := qbox_cells (qbox_stays hq0 hne k1)
      have hz1 := b1.size
      go_wp2_with fail
      rw [mk_at hmk]
      refine (wByte B k _ x _ rfl _ h1 (by simp; omega) (by omega)).mono ?_
      rintro e w2 ⟨rfl, h2, b2, k2⟩
      go_wp2_with fail
      exact bodyPost_ret (v := .tuple #[]) (by simp [results, Try.results70]) rfl ⟨rfl, by simpa using h2, (hB0.trans b1).trans b2⟩
    · have t10 : ¬ (b.toNat = 10) := fun h => hm (.inr (.inr (UInt8.toNat_inj.1 h)))
      have t34 : ¬ (b.toNat = 34) := fun h => hm (.inl (UInt8.toNat_inj.1 h))
      have t92 : ¬ (b.toNat = 92) := fun h => hm (.inr (.inl (UInt8.toNat_inj.1 h)))
      have hix : Lib.indexByte ((⟨#[34, 92, 10]⟩ : ByteArray).extract 0 3).data.toList ((b.toNat : Int).toNat.toUInt8) = -1 := by
        rw [Int.toNat_natCast]
        exact mark_none ⟨b.toNat, hb⟩ t34 t92 t10
      have he : Qm.esc b = [92, 120, Qm.hexd (b.toNat / 16), Qm.hexd (b.toNat % 16)] := by rw [Qm.esc, if_neg hp, if_neg (fun h => hm (.inr (.inr h))), if_neg (fun h => hm (h.elim .inl (fun h => .inr (.inl h))))]
      rw [he]
      clear he hm
      have q1 : (0 : Int) ≤ (b.toNat : Int) / 16 := by omega
      have q2 : (b.toNat : Int) / 16 < 16 := by omega
      have q3 : (0 : Int) ≤ (b.toNat : Int) % 16 := by omega
      have q4 : (b.toNat : Int) % 16 < 16 := by omega
      go_enter Try.func70, Try.ntmps70
      go_wp2_with (go_at_call 79; refine (standsForItself_any _ _).mono ?_; rintro e w' ⟨rfl, hw⟩; subst w')
      refine (indexByte_lib _ _ _).mono ?_
      rintro e w' ⟨rfl, hw⟩
      subst w'
      rw [hix]
      generalize w.alloc (.cells #[.string ⟨#[92, 120]⟩, .string ⟨#[34, 92, 110]⟩, .string ⟨#[34, 92, 10]⟩, .int .i64 3] 50) = W0 at *
      obtain ⟨c0, _, _, _⟩ := qbox_cells hq0
      go_wp2_with fail
      refine (wText B k acc [92, 120] _ rfl _ hH0 (by show acc.length + 2 ≤ _; omega) (by omega)).mono ?_
      rintro e w1 ⟨rfl, h1, b1, k1⟩
      have hz1 := b1.size
      go_wp2_with fail
      rw [hex_at]
      refine (wByte B k _ (Qm.hexd (b.toNat / 16)) _ rfl _ h1 (by simp; omega) (by omega)).mono ?_
      rintro e w2 ⟨rfl, h2, b2, k2⟩
      have hz2 := b2.size
      go_wp2_with fail
      rw [hex_at]
      refine (wByte B k _ (Qm.hexd (b.toNat % 16)) _ rfl _ h2 (by simp; omega) (by omega)).mono ?_
      rintro e w3 ⟨rfl, h3, b3, k3⟩
      go_wp2_with fail
      exact bodyPost_end (v := .tuple #[]) (by simp [results, Try.results70]) rfl ⟨rfl, by simpa using h3, ((hB0.trans b1).trans b2).trans b3⟩
end Go.Proofs.Ytpgpkdeiapeoiaa
/- Contracts: a byte between quotes, as JSON has it, by the program. -/
namespace Go.Proofs.Ytpgpkdeiapeoiaa
open Go.RowKit
abbrev jpq : Value := .agg #[.string ⟨#[92, 117, 48, 48]⟩, .string ⟨#[34, 92, 47, 98, 102, 110, 114, 116]⟩, .string ⟨#[34, 92, 47, 8, 12, 10, 13, 9]⟩, .int .i64 2]
set_option maxHeartbeats 400000 in
theorem jsonQuoting_any (w : World) :
    Calls Try.prog 46 #[] w fun e w' => e = .returned jpq ∧ Below w.heap.size w w' := by
  go_enter Try.func46, Try.ntmps46
  go_wp2_with fail
  exact bodyPost_ret (v := jpq) (by simp [results, Try.results46, go_sem]) rfl ⟨rfl, (by (repeat' (first | assumption | exact Below.refl _ _ | refine Below.alloc ?_ ?_ _ | refine Below.setCell ?_ ?_ _ | refine Below.drew ?_ | refine below_drewN ?_ _)) <;> (first | omega | (simp <;> omega)))⟩
/-- the quoting lies in a box -/
def JQbox (q : Nat) (W : World) : Prop := W.heap[q]? = some (.cells #[.string ⟨#[92, 117, 48, 48]⟩, .string ⟨#[34, 92, 47, 98, 102, 110, 114, 116]⟩, .string ⟨#[34, 92, 47, 8, 12, 10, 13, 9]⟩, .int .i64 2] 50)
theorem jqbox_new (W : World) : JQbox W.heap.size (W.alloc (.cells #[.string ⟨#[92, 117, 48, 48]⟩, .string ⟨#[34, 92, 47, 98, 102, 110, 114, 116]⟩, .string ⟨#[34, 92, 47, 8, 12, 10, 13, 9]⟩, .int .i64 2] 50)) := by
  show (W.heap.push _)[W.heap.size]? = _
  rw [Array.getElem?_push, if_pos rfl]
theorem jqbox_stays {k q : Nat} {W W' : World} (h : JQbox q W) (hne : q ≠ k) (hk : Lib.OthersKept 5 (some k) W W') : JQbox q W' :=
  hk q _ h (fun e => hne (Option.some.inj e)) (fun c fz e => by cases e)
theorem jqbox_cells {q : Nat} {W : World} (h : JQbox q W) : W.cell? ⟨q, 0, none⟩ = some (.string ⟨#[92, 117, 48, 48]⟩) ∧ W.cell? ⟨q, 1, none⟩ = some (.string ⟨#[34, 92, 47, 98, 102, 110, 114, 116]⟩) ∧ W.cell? ⟨q, 2, none⟩ = some (.string ⟨#[34, 92, 47, 8, 12, 10, 13, 9]⟩) ∧ W.cell? ⟨q, 3, none⟩ = some (.int .i64 2) := by
  unfold JQbox at h
  refine ⟨?_, ?_, ?_, ?_⟩ <;> simp [World.cell?, h]
theorem jmk_at {i : Nat} {x : UInt8} (hx : (⟨#[34, 92, 47, 98, 102, 110, 114, 116]⟩ : ByteArray).data[i]? = some x) (h : i < (⟨#[34, 92, 47, 98, 102, 110, 114, 116]⟩ : ByteArray).size) : (⟨#[34, 92, 47, 98, 102, 110, 114, 116]⟩ : ByteArray)[i]'h = x := by
  obtain ⟨h2, e⟩ := Array.getElem?_eq_some_iff.1 hx
  exact e
theorem jmark_none : ∀ n : Fin 256, n.val ≠ 34 → n.val ≠ 92 → Lib.indexByte ((⟨#[34, 92, 47, 8, 12, 10, 13, 9]⟩ : ByteArray).extract 0 2).data.toList (UInt8.ofNat n.val) = -1 := by decide +kernel
set_option maxHeartbeats 1000000 in
theorem jputByte_any (b : UInt8) (acc : List UInt8) (B k : Nat) (w : World) (h : Holds B k acc w) (hk : k < w.heap.size) (hlen : acc.length ≤ 90000000) (hBw : B ≤ w.heap.size) :
    Calls Try.prog 70 #[jpq, .pointer (some ⟨k, 0, none⟩), .int .u8 b.toNat] w fun e w' => e = .returned (.tuple #[]) ∧ Holds B k (acc ++ Qm.jesc b) w' ∧ Below B w w' := by
  have hb := b.toNat_lt
  have hH0 : Holds B k acc (w.alloc (.cells #[.string ⟨#[92, 117, 48, 48]⟩, .string ⟨#[34, 92, 47, 98, 102, 110, 114, 116]⟩, .string ⟨#[34, 92, 47, 8, 12, 10, 13, 9]⟩, .int .i64 2] 50)) := h.alloc _
  have hq0 := jqbox_new w
  have hB0 := (Below.refl B w).alloc hBw (.cells #[.string ⟨#[92, 117, 48, 48]⟩, .string ⟨#[34, 92, 47, 98, 102, 110, 114, 116]⟩, .string ⟨#[34, 92, 47, 8, 12, 10, 13, 9]⟩, .int .i64 2] 50)
  have hz0 := hB0.size
  have hne : w.heap.size ≠ k := by omega
  by_cases hp : Qm.plain b.toNat = true
  · have he : Qm.jesc b = [b] := Qm.jesc_plain hp
    rw [he]
    go_enter Try.func70, Try.ntmps70
    go_wp2_with (go_at_call 79; refine (standsForItself_any _ _).mono ?_; rintro e w' ⟨rfl, hw⟩; subst w')
    refine (wByte B k acc b _ rfl _ hH0 (by omega) (by omega)).mono ?_
    rintro e w1 ⟨rfl, h1, b1, k1⟩
    go_wp2_with fail
    exact bodyPost_ret (v := .tuple #[]) (by simp [results, Try.results70]) rfl ⟨rfl, h1, hB0.trans b1⟩
  · have hp' : Qm.plain b.toNat = false := by simpa using hp
    by_cases hm : b = 34 ∨ b = 92
    · obtain ⟨x, i, hx, hix, he, hmk⟩ : ∃ (x : UInt8) (i : Nat), i < 2 ∧ Lib.indexByte ((⟨#[34, 92, 47, 8, 12, 10, 13, 9]⟩ : ByteArray).extract 0 2).data.toList ((b.toNat : Int).toNat.toUInt8) = (i : Int) ∧ Qm.jesc b = [92, x] ∧ (⟨#[34, 92, 47, 98, 102, 110, 114, 116]⟩ : ByteArray).data[i]? = some x := by
        rcases hm with rfl | rfl
        · exact ⟨34, 0, by omega, by decide +kernel, by decide +kernel, by decide +kernel⟩
        · exact ⟨92, 1, by omega, by decide +kernel, by decide +kernel, by decide +kernel⟩
      rw [he]
      clear he hm
      go_enter Try.func70, Try.ntmps70
      go_wp2_with (go_at_call 79; refine (standsForItself_any _ _).mono ?_; rintro e w' ⟨rfl, hw⟩; subst w')
      refine (indexByte_lib _ _ _).mono ?_
      rintro e w' ⟨rfl, hw⟩
      subst w'
      rw [hix]
      have hi0 : (0 : Int) ≤ (i : Int) := by omega
      have hi3 : (i : Int) < 2 := by omega
      have hi8 : (i : Int) < 8 := by omega
      generalize w.alloc (.cells #[.string ⟨#[92, 117, 48, 48]⟩, .string ⟨#[34, 92, 47, 98, 102, 110, 114, 116]⟩, .string ⟨#[34, 92, 47, 8, 12, 10, 13, 9]⟩, .int .i64 2] 50) = W0 at *
      go_wp2_with fail
      refine (wByte B k acc 92 92 rfl _ hH0 (by omega) (by omega)).mono ?_
      rintro e w1 ⟨rfl, h1, b1, k1⟩
      obtain ⟨_, c1, _, _⟩ := jqbox_cells (jqbox_stays hq0 hne k1)
      have hz1 := b1.size
      go_wp2_with fail
      rw [jmk_at hmk]
      refine (wByte B k _ x _ rfl _ h1 (by simp; omega) (by omega)).mono ?_
      rintro e w2 ⟨rfl, h2, b2, k2⟩
      go_wp2_with fail
      exact bodyPost_ret (v := .tuple #[]) (by simp [results, Try.results70]) rfl ⟨rfl, by simpa using h2, (hB0.trans b1).trans b2⟩
    · have t34 : ¬ (b.toNat = 34) := fun h => hm (.inl (UInt8.toNat_inj.1 h))
      have t92 : ¬ (b.toNat = 92) := fun h => hm (.inr (UInt8.toNat_inj.1 h))
      have hix : Lib.indexByte ((⟨#[34, 92, 47, 8, 12, 10, 13, 9]⟩ : ByteArray).extract 0 2).data.toList ((b.toNat : Int).toNat.toUInt8) = -1 := by
        rw [Int.toNat_natCast]
        exact jmark_none ⟨b.toNat, hb⟩ t34 t92
      have he : Qm.jesc b = [92, 117, 48, 48, Qm.hexd (b.toNat / 16), Qm.hexd (b.toNat % 16)] := by rw [Qm.jesc, if_neg hm, if_neg hp]
      rw [he]
      clear he hm
      have q1 : (0 : Int) ≤ (b.toNat : Int) / 16 := by omega
      have q2 : (b.toNat : Int) / 16 < 16 := by omega
      have q3 : (0 : Int) ≤ (b.toNat : Int) % 16 := by omega
      have q4 : (b.toNat : Int) % 16 < 16 := by omega
      go_enter Try.func70, Try.ntmps70
      go_wp2_with (go_at_call 79; refine (standsForItself_any _ _).mono ?_; rintro e w' ⟨rfl, hw⟩; subst w')
      refine (indexByte_lib _ _ _).mono ?_
      rintro e w' ⟨rfl, hw⟩
      subst w'
      rw [hix]
      generalize w.alloc (.cells #[.string ⟨#[92, 117, 48, 48]⟩, .string ⟨#[34, 92, 47, 98, 102, 110, 114, 116]⟩, .string ⟨#[34, 92, 47, 8, 12, 10, 13, 9]⟩, .int .i64 2] 50) = W0 at *
      obtain ⟨c0, _, _, _⟩ := jqbox_cells hq0
      go_wp2_with fail
      refine (wText B k acc [92, 117, 48, 48] _ rfl _ hH0 (by show acc.length + 4 ≤ _; omega) (by omega)).mono ?_
      rintro e w1 ⟨rfl, h1, b1, k1⟩
      have hz1 := b1.size
      go_wp2_with fail
      rw [hex_at]
      refine (wByte B k _ (Qm.hexd (b.toNat / 16)) _ rfl _ h1 (by simp; omega) (by omega)).mono ?_
      rintro e w2 ⟨rfl, h2, b2, k2⟩
      have hz2 := b2.size
      go_wp2_with fail
      rw [hex_at]
      refine (wByte B k _ (Qm.hexd (b.toNat % 16)) _ rfl _ h2 (by simp; omega) (by omega)).mono ?_
      rintro e w3 ⟨rfl, h3, b3, k3⟩
      go_wp2_with fail
      exact bodyPost_end (v := .tuple #[]) (by simp [results, Try.results70]) rfl ⟨rfl, by simpa using h3, ((hB0.trans b1).trans b2).trans b3⟩
end Go.Proofs.Ytpgpkdeiapeoiaa
/- Contracts: QuotePut of both sides. -/
namespace Go.Proofs.Ytpgpkdeiapeoiaa
open Go.RowKit
/-- the quoting lies in its box, and nothing up to it changed -/
abbrev HeldQb (W0 : World) (q : Nat) (W : World) : Prop := (W.cell? ⟨q, 0, none⟩ = some (.string ⟨#[92, 120]⟩) ∧ W.cell? ⟨q, 1, none⟩ = some (.string ⟨#[34, 92, 110]⟩) ∧ W.cell? ⟨q, 2, none⟩ = some (.string ⟨#[34, 92, 10]⟩) ∧ W.cell? ⟨q, 3, none⟩ = some (.int .i64 3)) ∧ Below (q + 1) W0 W
theorem HeldQb.grow {W0 w w' : World} {q : Nat} (h : HeldQb W0 q w) (hb : Below (q + 1) w w') : HeldQb W0 q w' := by
  obtain ⟨⟨x0, x1, x2, x3⟩, h3⟩ := h
  exact ⟨⟨(hb.cell (p := ⟨q, 0, none⟩) (Nat.lt_succ_self _)).trans x0, (hb.cell (p := ⟨q, 1, none⟩) (Nat.lt_succ_self _)).trans x1, (hb.cell (p := ⟨q, 2, none⟩) (Nat.lt_succ_self _)).trans x2, (hb.cell (p := ⟨q, 3, none⟩) (Nat.lt_succ_self _)).trans x3⟩, h3.trans hb⟩
theorem HeldQb.drew {W0 w : World} {q : Nat} (h : HeldQb W0 q w) : HeldQb W0 q w.drew := h.grow ((Below.refl _ _).drew)
theorem holds_lt {B k : Nat} {acc : List UInt8} {w : World} (h : Holds B k acc w) : k < w.heap.size := by
  rcases h with ⟨_, v, h, _⟩ | ⟨_, v, h, _⟩ <;> exact (Array.getElem?_eq_some_iff.1 h).1
set_option maxHeartbeats 1000000 in
theorem put_any (s : ByteArray) (w : World) (hs : s.size ≤ 20000000) :
    Calls Try.prog 49 #[pq, .string s] w fun e w' => e = .returned (.string ⟨(Qm.quote s.data.toList).toArray⟩) ∧ Below w.heap.size w w' := by
  go_enter Try.func49, Try.ntmps49
  go_wp2_with fail
  have hq0 := qbox_new w
  have hB0 := (Below.refl _ w).alloc (Nat.le_refl _) (.cells #[.string ⟨#[92, 120]⟩, .string ⟨#[34, 92, 110]⟩, .string ⟨#[34, 92, 10]⟩, .int .i64 3] 50)
  have h0 : Holds (w.heap.size + 1) (w.heap.size + 1) [] ((w.alloc (.cells #[.string ⟨#[92, 120]⟩, .string ⟨#[34, 92, 110]⟩, .string ⟨#[34, 92, 10]⟩, .int .i64 3] 50)).alloc (.cells #[.pointer none, .slice none 0 0] 48)) := by
    have := Lib.IsBuilderF.of (Lib.fresh_isBuilder 48 5 (w.alloc (.cells #[.string ⟨#[92, 120]⟩, .string ⟨#[34, 92, 110]⟩, .string ⟨#[34, 92, 10]⟩, .int .i64 3] 50)))
    simp at this
    exact this
  have b0 : Below (w.heap.size + 1) (w.alloc (.cells #[.string ⟨#[92, 120]⟩, .string ⟨#[34, 92, 110]⟩, .string ⟨#[34, 92, 10]⟩, .int .i64 3] 50)) ((w.alloc (.cells #[.string ⟨#[92, 120]⟩, .string ⟨#[34, 92, 110]⟩, .string ⟨#[34, 92, 10]⟩, .int .i64 3] 50)).alloc (.cells #[.pointer none, .slice none 0 0] 48)) := (Below.refl _ _).alloc (by simp) _
  have hsz : w.heap.size + 1 ≤ (w.alloc (.cells #[.string ⟨#[92, 120]⟩, .string ⟨#[34, 92, 110]⟩, .string ⟨#[34, 92, 10]⟩, .int .i64 3] 50)).heap.size := by simp
  generalize w.alloc (.cells #[.string ⟨#[92, 120]⟩, .string ⟨#[34, 92, 110]⟩, .string ⟨#[34, 92, 10]⟩, .int .i64 3] 50) = W0 at *
  have hz0 := b0.size
  refine (wByte _ _ [] 34 34 rfl _ h0 (by simp) (by omega)).mono ?_
  rintro e w1 ⟨rfl, h1, b1, k1⟩
  have hB1 := b0.trans b1
  clear h0 b0 b1 k1 hz0
  have HQ : Hid (∀ W, Below (w.heap.size + 1) W0 W → Qbox w.heap.size W) := fun W h => (h.block _ (by omega)).trans hq0
  have HB : Hid (∀ W, Below (w.heap.size + 1) W0 W → Below w.heap.size w W) := fun W h => hB0.trans (h.mono (by omega))
  clear hq0 hB0
  go_wp2_with fail
  go_loopw [10] (fun i wr => ∃ k : Nat, k ≤ s.size ∧ i = .int .i64 k ∧ Holds (w.heap.size + 1) (w.heap.size + 1) (34 :: (s.data.toList.take k).flatMap Qm.esc) wr ∧ Below (w.heap.size + 1) W0 wr) (fun i _ => s.size - (intOf i).toNat)
  case atStart => exact ⟨0, Nat.zero_le _, rfl, h1, hB1⟩
  case round =>
    obtain ⟨k, hk, rfl, hH, hB⟩ := hrel
    have hfl := Qm.flat_length (s.data.toList.take k)
    have htl : (s.data.toList.take k).length ≤ k := List.length_take_le _ _
    have hz := hB.size
    have hkk := holds_lt hH
    obtain ⟨c0, c1, c2, c3⟩ := qbox_cells (HQ.out _ hB)
    by_cases hlt : k < s.size
    · have HS : Hid ((s.data.toList.take (k + 1)).flatMap Qm.esc = (s.data.toList.take k).flatMap Qm.esc ++ Qm.esc s[k]) := Qm.flat_take s k hlt
      have hS0 : HeldQb W0 w.heap.size wr := ⟨⟨c0, c1, c2, c3⟩, hB⟩
      have hkl : (k : Int) < (s.size : Int) := by omega
      clear c0 c1 c2 c3
      go_wp2_with fail
      refine wp_region_held_drew (S := fun w' => HeldQb W0 w.heap.size w') (by kernel_rfl) hS0.drew (fun hHeld => ?_)
      refine wpAnyH_take (i := 0) (v := pq) rfl (by kernel_rfl) (by kernel_rfl) (by kernel_rfl) (fun _ _ _ h => h) (Or.inl ⟨by rfl, ?_⟩) (by assumption) ?_
      · intro w hSw
        (try dsimp only at hSw)
        go_simp
      (try simp only [Act.put, List.getElem_toArray, List.getElem_cons_zero, List.setIfInBounds_toArray, List.set_cons_zero, List.set_cons_succ])
      refine wpAnyH_take (i := 1) (v := .string s) rfl (by kernel_rfl) (by kernel_rfl) (by kernel_rfl) (fun _ _ _ h => h) (Or.inl ⟨by rfl, ?_⟩) (by assumption) ?_
      · intro w hSw
        (try dsimp only at hSw)
        go_simp
      (try simp only [Act.put, List.getElem_toArray, List.getElem_cons_zero, List.getElem_cons_succ, List.setIfInBounds_toArray, List.set_cons_zero, List.set_cons_succ])
      refine wpAnyH_take (i := 2) (v := .int .i64 k) rfl (by kernel_rfl) (by kernel_rfl) (by kernel_rfl) (fun _ _ _ h => h) (Or.inl ⟨by rfl, ?_⟩) (by assumption) ?_
      · intro w hSw
        (try dsimp only at hSw)
        go_simp
      (try simp only [Act.put, List.getElem_toArray, List.getElem_cons_zero, List.getElem_cons_succ, List.setIfInBounds_toArray, List.set_cons_zero, List.set_cons_succ])
      refine wpAnyH_take (i := 3) (v := .int .u8 s[k].toNat) rfl (by kernel_rfl) (by kernel_rfl) (by kernel_rfl) (fun _ _ _ h => h) (Or.inl ⟨by rfl, ?_⟩) (by assumption) ?_
      · intro w hSw
        (try dsimp only at hSw)
        go_simp
      (try simp only [Act.put, List.getElem_toArray, List.getElem_cons_zero, List.getElem_cons_succ, List.setIfInBounds_toArray, List.set_cons_zero, List.set_cons_succ])
      refine wpAnyH_ready (rs := [4]) (by kernel_rfl) (by simp) ?_
      refine AllReadyH.cons rfl (fun K hK => ?_) AllReadyH.nil
      go_simp
      refine (putByte_any s[k] _ (w.heap.size + 1) (w.heap.size + 1) _ (show Holds _ _ _ wr.drew from hH) (by show _ < wr.heap.size; exact hkk) (by rw [List.length_cons]; omega) (by show _ ≤ wr.heap.size; omega)).mono ?_
      rintro r w2 ⟨rfl, hH2, hb2⟩
      have hS := HeldQb.grow (by assumption) hb2
      go_wp2_with fail
      refine hK.out _ _ hS (fun hHeld => ?_)
      clear hK K hS
      refine wpAnyH_done (by kernel_rfl) ?_ _
      go_wp2_with fail
      go_round
      case rel => exact ⟨k + 1, by omega, by go_num, by rw [HS.out]; exact hH2, hHeld.2⟩
      case measure => simp [intOf]; omega
    · have ht : s.data.toList.take k = s.data.toList := List.take_of_length_le (by rw [Qm.len_eq]; omega)
      rw [ht] at hH hfl htl
      clear ht
      have hkl : ¬ (k : Int) < (s.size : Int) := by omega
      go_wp2_with fail
      refine (wByte _ _ _ 34 34 rfl _ hH (by rw [List.length_cons]; omega) (by omega)).mono ?_
      rintro e w2 ⟨rfl, h2, b2, k2⟩
      have b2' := hB.trans b2
      have hz2 := b2'.size
      go_wp2_with fail
      refine (bString _ _ _ _ h2 (by omega)).mono ?_
      rintro e w3 ⟨rfl, h3, b3, k3⟩
      have hBe := HB.out _ (b2'.trans b3)
      go_wp2_with fail
      go_ret
      exact ⟨rfl, hBe⟩
end Go.Proofs.Ytpgpkdeiapeoiaa
/- Contracts: a text between quotes, as JSON has it. -/
namespace Go.Proofs.Ytpgpkdeiapeoiaa
open Go.RowKit
set_option maxHeartbeats 1000000 in
theorem l7Quote_any (s : ByteArray) (w : World) (hs : s.size ≤ 10000000) :
    Calls Try.prog 43 #[.string s] w fun e w' => e = .returned (.string ⟨(Qm.jquote s.data.toList).toArray⟩) ∧ Below w.heap.size w w' := by
  go_enter Try.func43, Try.ntmps43
  go_wp2_with fail
  go_loopw [3, 4] (fun o i wr => ∃ k : Nat, k ≤ s.size ∧ i = .int .i64 k ∧ o = .string ⟨(34 :: (s.data.toList.take k).flatMap Qm.jesc).toArray⟩ ∧ Below w.heap.size w wr) (fun _ i _ => s.size - (intOf i).toNat)
  case atStart => exact ⟨0, Nat.zero_le _, rfl, rfl, Below.refl _ _⟩
  case round =>
    obtain ⟨k, hk, rfl, rfl, hB⟩ := hrel
    have hfl := Qm.jflat_length (s.data.toList.take k)
    have htl : (s.data.toList.take k).length ≤ k := List.length_take_le _ _
    by_cases hlt : k < s.size
    · have HS : Hid ((s.data.toList.take (k + 1)).flatMap Qm.jesc = (s.data.toList.take k).flatMap Qm.jesc ++ Qm.jesc s[k]) := Qm.jflat_take s k hlt
      have hel := Qm.jesc_length s[k]
      have hsz1 := arr_size (34 :: (s.data.toList.take k).flatMap Qm.jesc)
      have hsz2 := arr_size (Qm.jesc s[k])
      rw [List.length_cons] at hsz1
      go_wp2_with (go_at_call 63; refine (l7Escape_any _ _).mono ?_; rintro e w1 ⟨rfl, hb1⟩)
      go_roundw
      case rel => exact ⟨k + 1, by omega, by go_num, by rw [arr_append, HS.out, List.cons_append], hB.trans (hb1.mono hB.size)⟩
      case measure => simp [intOf]; omega
    · have ht : s.data.toList.take k = s.data.toList := List.take_of_length_le (by rw [Qm.len_eq]; omega)
      have HT : Hid (Qm.jquote s.data.toList = 34 :: ((s.data.toList.take k).flatMap Qm.jesc ++ [34])) := by unfold Hid; rw [ht]; rfl
      clear ht
      generalize (s.data.toList.take k).flatMap Qm.jesc = F at *
      have hsz1 := arr_size (34 :: F)
      rw [List.length_cons] at hsz1
      go_wp2_with fail
      go_ret
      exact ⟨ret_str (by rw [HT.out, show (⟨#[34]⟩ : ByteArray) = ⟨[34].toArray⟩ from rfl, arr_append]; rfl), hB⟩

/-- the quoting lies in its box, and nothing up to it changed -/
abbrev JHeldQb (W0 : World) (q : Nat) (W : World) : Prop := (W.cell? ⟨q, 0, none⟩ = some (.string ⟨#[92, 117, 48, 48]⟩) ∧ W.cell? ⟨q, 1, none⟩ = some (.string ⟨#[34, 92, 47, 98, 102, 110, 114, 116]⟩) ∧ W.cell? ⟨q, 2, none⟩ = some (.string ⟨#[34, 92, 47, 8, 12, 10, 13, 9]⟩) ∧ W.cell? ⟨q, 3, none⟩ = some (.int .i64 2)) ∧ Below (q + 1) W0 W
theorem JHeldQb.grow {W0 w w' : World} {q : Nat} (h : JHeldQb W0 q w) (hb : Below (q + 1) w w') : JHeldQb W0 q w' := by
  obtain ⟨⟨x0, x1, x2, x3⟩, h3⟩ := h
  exact ⟨⟨(hb.cell (p := ⟨q, 0, none⟩) (Nat.lt_succ_self _)).trans x0, (hb.cell (p := ⟨q, 1, none⟩) (Nat.lt_succ_self _)).trans x1, (hb.cell (p := ⟨q, 2, none⟩) (Nat.lt_succ_self _)).trans x2, (hb.cell (p := ⟨q, 3, none⟩) (Nat.lt_succ_self _)).trans x3⟩, h3.trans hb⟩
theorem JHeldQb.drew {W0 w : World} {q : Nat} (h : JHeldQb W0 q w) : JHeldQb W0 q w.drew := h.grow ((Below.refl _ _).drew)
set_option maxHeartbeats 1000000 in
theorem jput_any (s : ByteArray) (w : World) (hs : s.size ≤ 10000000) :
    Calls Try.prog 49 #[jpq, .string s] w fun e w' => e = .returned (.string ⟨(Qm.jquote s.data.toList).toArray⟩) ∧ Below w.heap.size w w' := by
  go_enter Try.func49, Try.ntmps49
  go_wp2_with fail
  have hq0 := jqbox_new w
  have hB0 := (Below.refl _ w).alloc (Nat.le_refl _) (.cells #[.string ⟨#[92, 117, 48, 48]⟩, .string ⟨#[34, 92, 47, 98, 102, 110, 114, 116]⟩, .string ⟨#[34, 92, 47, 8, 12, 10, 13, 9]⟩, .int .i64 2] 50)
  have h0 : Holds (w.heap.size + 1) (w.heap.size + 1) [] ((w.alloc (.cells #[.string ⟨#[92, 117, 48, 48]⟩, .string ⟨#[34, 92, 47, 98, 102, 110, 114, 116]⟩, .string ⟨#[34, 92, 47, 8, 12, 10, 13, 9]⟩, .int .i64 2] 50)).alloc (.cells #[.pointer none, .slice none 0 0] 48)) := by
    have := Lib.IsBuilderF.of (Lib.fresh_isBuilder 48 5 (w.alloc (.cells #[.string ⟨#[92, 117, 48, 48]⟩, .string ⟨#[34, 92, 47, 98, 102, 110, 114, 116]⟩, .string ⟨#[34, 92, 47, 8, 12, 10, 13, 9]⟩, .int .i64 2] 50)))
    simp at this
    exact this
  have b0 : Below (w.heap.size + 1) (w.alloc (.cells #[.string ⟨#[92, 117, 48, 48]⟩, .string ⟨#[34, 92, 47, 98, 102, 110, 114, 116]⟩, .string ⟨#[34, 92, 47, 8, 12, 10, 13, 9]⟩, .int .i64 2] 50)) ((w.alloc (.cells #[.string ⟨#[92, 117, 48, 48]⟩, .string ⟨#[34, 92, 47, 98, 102, 110, 114, 116]⟩, .string ⟨#[34, 92, 47, 8, 12, 10, 13, 9]⟩, .int .i64 2] 50)).alloc (.cells #[.pointer none, .slice none 0 0] 48)) := (Below.refl _ _).alloc (by simp) _
  have hsz : w.heap.size + 1 ≤ (w.alloc (.cells #[.string ⟨#[92, 117, 48, 48]⟩, .string ⟨#[34, 92, 47, 98, 102, 110, 114, 116]⟩, .string ⟨#[34, 92, 47, 8, 12, 10, 13, 9]⟩, .int .i64 2] 50)).heap.size := by simp
  generalize w.alloc (.cells #[.string ⟨#[92, 117, 48, 48]⟩, .string ⟨#[34, 92, 47, 98, 102, 110, 114, 116]⟩, .string ⟨#[34, 92, 47, 8, 12, 10, 13, 9]⟩, .int .i64 2] 50) = W0 at *
  have hz0 := b0.size
  refine (wByte _ _ [] 34 34 rfl _ h0 (by simp) (by omega)).mono ?_
  rintro e w1 ⟨rfl, h1, b1, k1⟩
  have hB1 := b0.trans b1
  clear h0 b0 b1 k1 hz0
  have HQ : Hid (∀ W, Below (w.heap.size + 1) W0 W → JQbox w.heap.size W) := fun W h => (h.block _ (by omega)).trans hq0
  have HB : Hid (∀ W, Below (w.heap.size + 1) W0 W → Below w.heap.size w W) := fun W h => hB0.trans (h.mono (by omega))
  clear hq0 hB0
  go_wp2_with fail
  go_loopw [10] (fun i wr => ∃ k : Nat, k ≤ s.size ∧ i = .int .i64 k ∧ Holds (w.heap.size + 1) (w.heap.size + 1) (34 :: (s.data.toList.take k).flatMap Qm.jesc) wr ∧ Below (w.heap.size + 1) W0 wr) (fun i _ => s.size - (intOf i).toNat)
  case atStart => exact ⟨0, Nat.zero_le _, rfl, h1, hB1⟩
  case round =>
    obtain ⟨k, hk, rfl, hH, hB⟩ := hrel
    have hfl := Qm.jflat_length (s.data.toList.take k)
    have htl : (s.data.toList.take k).length ≤ k := List.length_take_le _ _
    have hz := hB.size
    have hkk := holds_lt hH
    obtain ⟨c0, c1, c2, c3⟩ := jqbox_cells (HQ.out _ hB)
    by_cases hlt : k < s.size
    · have HS : Hid ((s.data.toList.take (k + 1)).flatMap Qm.jesc = (s.data.toList.take k).flatMap Qm.jesc ++ Qm.jesc s[k]) := Qm.jflat_take s k hlt
      have hS0 : JHeldQb W0 w.heap.size wr := ⟨⟨c0, c1, c2, c3⟩, hB⟩
      have hkl : (k : Int) < (s.size : Int) := by omega
      clear c0 c1 c2 c3
      go_wp2_with fail
      refine wp_region_held_drew (S := fun w' => JHeldQb W0 w.heap.size w') (by kernel_rfl) hS0.drew (fun hHeld => ?_)
      refine wpAnyH_take (i := 0) (v := jpq) rfl (by kernel_rfl) (by kernel_rfl) (by kernel_rfl) (fun _ _ _ h => h) (Or.inl ⟨by rfl, ?_⟩) (by assumption) ?_
      · intro w hSw
        (try dsimp only at hSw)
        go_simp
      (try simp only [Act.put, List.getElem_toArray, List.getElem_cons_zero, List.setIfInBounds_toArray, List.set_cons_zero, List.set_cons_succ])
      refine wpAnyH_take (i := 1) (v := .string s) rfl (by kernel_rfl) (by kernel_rfl) (by kernel_rfl) (fun _ _ _ h => h) (Or.inl ⟨by rfl, ?_⟩) (by assumption) ?_
      · intro w hSw
        (try dsimp only at hSw)
        go_simp
      (try simp only [Act.put, List.getElem_toArray, List.getElem_cons_zero, List.getElem_cons_succ, List.setIfInBounds_toArray, List.set_cons_zero, List.set_cons_succ])
      refine wpAnyH_take (i := 2) (v := .int .i64 k) rfl (by kernel_rfl) (by kernel_rfl) (by kernel_rfl) (fun _ _ _ h => h) (Or.inl ⟨by rfl, ?_⟩) (by assumption) ?_
      · intro w hSw
        (try dsimp only at hSw)
        go_simp
      (try simp only [Act.put, List.getElem_toArray, List.getElem_cons_zero, List.getElem_cons_succ, List.setIfInBounds_toArray, List.set_cons_zero, List.set_cons_succ])
      refine wpAnyH_take (i := 3) (v := .int .u8 s[k].toNat) rfl (by kernel_rfl) (by kernel_rfl) (by kernel_rfl) (fun _ _ _ h => h) (Or.inl ⟨by rfl, ?_⟩) (by assumption) ?_
      · intro w hSw
        (try dsimp only at hSw)
        go_simp
      (try simp only [Act.put, List.getElem_toArray, List.getElem_cons_zero, List.getElem_cons_succ, List.setIfInBounds_toArray, List.set_cons_zero, List.set_cons_succ])
      refine wpAnyH_ready (rs := [4]) (by kernel_rfl) (by simp) ?_
      refine AllReadyH.cons rfl (fun K hK => ?_) AllReadyH.nil
      go_simp
      refine (jputByte_any s[k] _ (w.heap.size + 1) (w.heap.size + 1) _ (show Holds _ _ _ wr.drew from hH) (by show _ < wr.heap.size; exact hkk) (by rw [List.length_cons]; omega) (by show _ ≤ wr.heap.size; omega)).mono ?_
      rintro r w2 ⟨rfl, hH2, hb2⟩
      have hS := JHeldQb.grow (by assumption) hb2
      go_wp2_with fail
      refine hK.out _ _ hS (fun hHeld => ?_)
      clear hK K hS
      refine wpAnyH_done (by kernel_rfl) ?_ _
      go_wp2_with fail
      go_round
      case rel => exact ⟨k + 1, by omega, by go_num, by rw [HS.out]; exact hH2, hHeld.2⟩
      case measure => simp [intOf]; omega
    · have ht : s.data.toList.take k = s.data.toList := List.take_of_length_le (by rw [Qm.len_eq]; omega)
      rw [ht] at hH hfl htl
      clear ht
      have hkl : ¬ (k : Int) < (s.size : Int) := by omega
      go_wp2_with fail
      refine (wByte _ _ _ 34 34 rfl _ hH (by rw [List.length_cons]; omega) (by omega)).mono ?_
      rintro e w2 ⟨rfl, h2, b2, k2⟩
      have b2' := hB.trans b2
      have hz2 := b2'.size
      go_wp2_with fail
      refine (bString _ _ _ _ h2 (by omega)).mono ?_
      rintro e w3 ⟨rfl, h3, b3, k3⟩
      have hBe := HB.out _ (b2'.trans b3)
      go_wp2_with fail
      go_ret
      exact ⟨rfl, hBe⟩
end Go.Proofs.Ytpgpkdeiapeoiaa
/- Trees: a list of trees as it lies in memory. Its first, what stands below the first, and the rest. -/
namespace Go.Proofs.Ytpgpkdeiapeoiaa
open Go.RowKit
/-- a list of trees: kind, text, number, where its own list lies (with length and capacity), that list, the rest -/
inductive Fo
  | nil
  | cons (kind : Int) (text : ByteArray) (man exp : Int) (at_ : Option Addr) (cap : Nat) (kids : Fo) (next : Fo)
def Fo.len : Fo → Nat
  | .nil => 0
  | .cons _ _ _ _ _ _ _ next => next.len + 1
def Fo.size : Fo → Nat
  | .nil => 0
  | .cons _ _ _ _ _ _ kids next => kids.size + 1 + next.size
def Fo.deep : Fo → Nat
  | .nil => 0
  | .cons _ _ _ _ _ _ kids next => max (kids.deep + 1) next.deep
/-- what the laws' own measure counts -/
def Fo.wt : Fo → Nat
  | .nil => 0
  | .cons _ t _ _ _ _ kids next => t.size + kids.wt + 1 + next.wt
theorem Fo.len_wt (F : Fo) : F.len ≤ F.wt := by
  induction F with
  | nil => exact Nat.le_refl _
  | cons k t m e a c kids next _ ih => show next.len + 1 ≤ t.size + kids.wt + 1 + next.wt; omega
theorem Fo.size_wt (F : Fo) : F.size ≤ F.wt := by
  induction F with
  | nil => exact Nat.le_refl _
  | cons k t m e a c kids next ih1 ih2 => show kids.size + 1 + next.size ≤ t.size + kids.wt + 1 + next.wt; omega
/-- what is left, or -1 -/
def leftOf (need l : Nat) : Int := if need ≤ l then ((l - need : Nat) : Int) else -1
theorem Fo.len_le (F : Fo) : F.len ≤ F.size := by
  induction F with
  | nil => exact Nat.le_refl _
  | cons k t m e a c kids next _ ih => show next.len + 1 ≤ kids.size + 1 + next.size; omega
theorem Fo.deep_le (F : Fo) : F.deep ≤ F.size := by
  induction F with
  | nil => exact Nat.le_refl _
  | cons k t m e a c kids next ih1 ih2 => show max (kids.deep + 1) next.deep ≤ kids.size + 1 + next.size; omega
/-- the list lies from cell o of block b on -/
def Fo.From (w : World) : Fo → Nat → Nat → Prop
  | .nil, _, _ => True
  | .cons k t m e a c kids next, b, o =>
    (w.cell? ⟨b, o, none⟩ = some (.int .i64 k) ∧ w.cell? ⟨b, o + 1, none⟩ = some (.string t) ∧ w.cell? ⟨b, o + 2, none⟩ = some (.int .i64 m) ∧ w.cell? ⟨b, o + 3, none⟩ = some (.int .i64 e) ∧ w.cell? ⟨b, o + 4, none⟩ = some (.slice a kids.len c)) ∧
    (kids = .nil ∨ ∃ b' o', a = some ⟨b', o', none⟩ ∧ kids.From w b' o') ∧ kids.len ≤ c ∧ c ≤ maxLen ∧ t.size ≤ maxLen ∧ next.From w b (o + 5)
/-- the list of a slice -/
def Fo.In (w : World) (F : Fo) (a : Option Addr) : Prop := F = .nil ∨ ∃ b o, a = some ⟨b, o, none⟩ ∧ F.From w b o
theorem Fo.from_below {B : Nat} {w w' : World} (h : Below B w w') : ∀ (F : Fo) (b o : Nat), F.From w b o → (∀ b' o' v, w.cell? ⟨b', o', none⟩ = some v → b' < B) → F.From w' b o := by
  intro F
  induction F with
  | nil => intro b o _ _; trivial
  | cons k t m e a c kids next ih1 ih2 =>
    rintro b o ⟨⟨h1, h2, h3, h4, h5⟩, hk, hc, hm, ht, hn⟩ hlt
    have hb : b < B := hlt _ _ _ h1
    refine ⟨⟨(h.cell (p := ⟨b, o, none⟩) hb).trans h1, (h.cell (p := ⟨b, o + 1, none⟩) hb).trans h2, (h.cell (p := ⟨b, o + 2, none⟩) hb).trans h3, (h.cell (p := ⟨b, o + 3, none⟩) hb).trans h4, (h.cell (p := ⟨b, o + 4, none⟩) hb).trans h5⟩, ?_, hc, hm, ht, ih2 _ _ hn hlt⟩
    rcases hk with hk | ⟨b', o', e1, e2⟩
    · exact .inl hk
    · exact .inr ⟨b', o', e1, ih1 _ _ e2 hlt⟩
theorem Fo.from_grow {w w' : World} (h : Below w.heap.size w w') (F : Fo) (b o : Nat) (hF : F.From w b o) : F.From w' b o :=
  Fo.from_below h F b o hF fun _ _ _ hc => World.block_lt_of_cell? w _ hc
theorem Fo.In.grow {w w' : World} {F : Fo} {a : Option Addr} (hF : F.In w a) (h : Below w.heap.size w w') : F.In w' a := by
  rcases hF with rfl | ⟨b, o, rfl, hF⟩
  · exact .inl rfl
  · exact .inr ⟨b, o, rfl, Fo.from_grow h F b o hF⟩
/-- a tree's value -/
abbrev nodeV (k : Int) (t : ByteArray) (m e : Int) (a : Option Addr) (n c : Nat) : Value := .agg #[.int .i64 k, .string t, .int .i64 m, .int .i64 e, .slice a n c]

end Go.Proofs.Ytpgpkdeiapeoiaa
/- Plain mathematics of decimals: no program in it. -/
namespace Go.Proofs.Ytpgpkdeiapeoiaa.Dm
theorem tm (m : Int) : 10 * m.tdiv 10 + m.tmod 10 = m := Int.mul_tdiv_add_tmod m 10
theorem tmb (m : Int) : -10 < m.tmod 10 ∧ m.tmod 10 < 10 ∧ (0 ≤ m → 0 ≤ m.tmod 10) ∧ (m ≤ 0 → m.tmod 10 ≤ 0) := by
  refine ⟨?_, ?_, fun h => Int.tmod_nonneg _ h, fun h => ?_⟩
  · by_cases h : 0 ≤ m
    · have := Int.tmod_nonneg 10 h; omega
    · have h1 : (-m).tmod 10 < 10 := Int.tmod_lt_of_pos _ (by omega)
      rw [Int.neg_tmod] at h1; omega
  · exact Int.tmod_lt_of_pos _ (by omega)
  · have h1 : 0 ≤ (-m).tmod 10 := Int.tmod_nonneg _ (by omega)
    rw [Int.neg_tmod] at h1; omega
def strip : Nat → Int → Int → Int × Int
  | 0, m, e => (m, e)
  | k + 1, m, e => if m.tmod 10 = 0 then strip k (m.tdiv 10) (e + 1) else (m, e)

theorem tdiv_lt (m : Int) (h : m ≠ 0) : (m.tdiv 10).natAbs < m.natAbs := by
  have := tm m; have := tmb m; omega
/-- one more of fuel than is needed changes nothing -/
theorem strip_succ (k : Nat) : ∀ (m e : Int), m ≠ 0 → m.natAbs < 10 ^ k → strip (k + 1) m e = strip k m e := by
  induction k with
  | zero => intro m e h0 h; simp at h; omega
  | succ k ih =>
    intro m e h0 h
    rw [strip]
    conv => rhs; rw [strip]
    by_cases hz : m.tmod 10 = 0
    · rw [if_pos hz, if_pos hz]
      have := tm m
      rw [hz] at this
      apply ih
      · omega
      · rw [Nat.pow_succ] at h; omega
    · rw [if_neg hz, if_neg hz]
theorem strip_more (k j : Nat) (m e : Int) (h0 : m ≠ 0) (h : m.natAbs < 10 ^ k) : strip (k + j) m e = strip k m e := by
  induction j with
  | zero => rfl
  | succ j ih =>
    rw [← Nat.add_assoc, strip_succ _ _ _ h0 (Nat.lt_of_lt_of_le h (Nat.pow_le_pow_right (by omega) (by omega))), ih]
theorem strip_ne (k : Nat) : ∀ (m e : Int), m ≠ 0 → (strip k m e).1 ≠ 0 := by
  induction k with
  | zero => intro m e h; exact h
  | succ k ih =>
    intro m e h
    rw [strip]
    by_cases hz : m.tmod 10 = 0
    · rw [if_pos hz]; have := tm m; apply ih; omega
    · rw [if_neg hz]; exact h
theorem strip_at (k : Nat) (m e : Int) (h : m.tmod 10 ≠ 0) : strip k m e = (m, e) := by
  cases k with
  | zero => rfl
  | succ k => rw [strip, if_neg h]

/-- in its form -/
def ok (m e : Int) : Bool := if m = 0 then e == 0 else decide (-99999999 ≤ m) && decide (m ≤ 99999999) && decide (-8 ≤ e) && decide (e ≤ 8) && (m.tmod 10 != 0)
theorem ok_iff (m e : Int) : ok m e = true ↔ (m = 0 ∧ e = 0) ∨ (m ≠ 0 ∧ -99999999 ≤ m ∧ m ≤ 99999999 ∧ -8 ≤ e ∧ e ≤ 8 ∧ m.tmod 10 ≠ 0) := by
  unfold ok
  by_cases h : m = 0 <;> simp [h, and_assoc]
/-- the number in its form, if it has room -/
def norm (m e : Int) : Int × Int × Bool :=
  if m = 0 then (0, 0, true) else if ok (strip 20 m e).1 (strip 20 m e).2 then ((strip 20 m e).1, (strip 20 m e).2, true) else (0, 0, false)
/-- what a stripping loop has come to behind j rounds -/
def Strip (m e : Int) (j : Nat) (m' e' : Int) : Prop :=
  m' ≠ 0 ∧ m'.natAbs * 10 ^ j ≤ 1000000000000000000 ∧ e' = e + j ∧ strip (20 - j) m' e' = strip 20 m e
theorem Strip.start (m e : Int) (h0 : m ≠ 0) (h1 : -1000000000000000000 ≤ m) (h2 : m ≤ 1000000000000000000) : Strip m e 0 m e :=
  ⟨h0, by omega, by omega, rfl⟩
theorem pow10_le {a j : Nat} (ha : 1 ≤ a) (h : a * 10 ^ j ≤ 1000000000000000000) : j ≤ 18 := by
  by_cases hj : j ≤ 18
  · exact hj
  · have h1 : 10 ^ 19 ≤ 10 ^ j := Nat.pow_le_pow_right (by omega) (by omega)
    have h2 : 1 * 10 ^ j ≤ a * 10 ^ j := Nat.mul_le_mul_right _ ha
    omega
theorem Strip.bound {m e m' e' : Int} {j : Nat} (h : Strip m e j m' e') : j ≤ 18 ∧ -1000000000000000000 ≤ m' ∧ m' ≤ 1000000000000000000 := by
  obtain ⟨h0, h1, h2, h3⟩ := h
  have hj := pow10_le (a := m'.natAbs) (by omega) h1
  have : m'.natAbs * 1 ≤ m'.natAbs * 10 ^ j := Nat.mul_le_mul_left _ (Nat.one_le_pow j 10 (by omega))
  omega
theorem Strip.step {m e m' e' : Int} {j : Nat} (h : Strip m e j m' e') (hz : m'.tmod 10 = 0) : Strip m e (j + 1) (m'.tdiv 10) (e' + 1) := by
  have hb := h.bound
  obtain ⟨h0, h1, h2, h3⟩ := h
  have ht := tm m'
  rw [hz] at ht
  refine ⟨by omega, ?_, by omega, ?_⟩
  · have : m'.natAbs = 10 * (m'.tdiv 10).natAbs := by omega
    rw [this] at h1
    rw [Nat.pow_succ, Nat.mul_comm (10 ^ j) 10, ← Nat.mul_assoc, Nat.mul_comm _ 10]
    exact h1
  · rw [← h3, show 20 - j = (20 - (j + 1)) + 1 from by omega, strip, if_pos hz]
theorem Strip.stop {m e m' e' : Int} {j : Nat} (h : Strip m e j m' e') (hz : m'.tmod 10 ≠ 0) : strip 20 m e = (m', e') := by
  obtain ⟨h0, h1, h2, h3⟩ := h
  rw [← h3, strip_at _ _ _ hz]
theorem Strip.norm_ok {m e m' e' : Int} {j : Nat} (h : Strip m e j m' e') (hm : m ≠ 0) (hz : m'.tmod 10 ≠ 0) (ho : ok m' e' = true) : norm m e = (m', e', true) := by
  rw [norm, if_neg hm, h.stop hz]; simp [ho]
theorem Strip.norm_no {m e m' e' : Int} {j : Nat} (h : Strip m e j m' e') (hm : m ≠ 0) (hz : m'.tmod 10 ≠ 0) (ho : ok m' e' = false) : norm m e = (0, 0, false) := by
  rw [norm, if_neg hm, h.stop hz]; simp [ho]
/-- DecNew -/
def new (m e : Int) : Int × Int × Bool :=
  if (-100000000000000000 ≤ m ∧ m ≤ 100000000000000000) ∧ (-32 ≤ e ∧ e ≤ 32) then norm m e else (0, 0, false)
/-- DecMul -/
def mul (m x n y : Int) : Int × Int × Bool := if ok m x = true ∧ ok n y = true then norm (m * n) (x + y) else (0, 0, false)
theorem ok_bd {m e : Int} (h : ok m e = true) : -99999999 ≤ m ∧ m ≤ 99999999 ∧ -8 ≤ e ∧ e ≤ 8 := by
  rw [ok_iff] at h; omega
theorem mul_bd {m n : Int} (a : Int) (b : Int) (ha : 0 ≤ a) (h1 : -a ≤ m) (h2 : m ≤ a) (h3 : -b ≤ n) (h4 : n ≤ b) : -(a * b) ≤ m * n ∧ m * n ≤ a * b := by
  have e1 : m.natAbs * n.natAbs ≤ a.toNat * b.toNat := Nat.mul_le_mul (by omega) (by omega)
  have e2 : (m * n).natAbs = m.natAbs * n.natAbs := Int.natAbs_mul m n
  have e3 : ((a.toNat * b.toNat : Nat) : Int) = a * b := by
    rw [Int.natCast_mul, Int.toNat_of_nonneg ha, Int.toNat_of_nonneg (by omega)]
  omega
/-- a whole number times a power of ten -/
def p10 (k : Int) : Int := (10 : Int) ^ k.toNat
theorem p10_zero : p10 0 = 1 := rfl
theorem p10_nonpos (k : Int) (h : k ≤ 0) : p10 k = 1 := by unfold p10; rw [show k.toNat = 0 from by omega]; rfl
theorem p10_succ (k : Int) (h : 0 ≤ k) : p10 (k + 1) = p10 k * 10 := by
  unfold p10; rw [show (k + 1).toNat = k.toNat + 1 from by omega, Int.pow_succ]
theorem p10_pos (k : Int) : 1 ≤ p10 k := by
  have : (0 : Int) < 10 ^ k.toNat := Int.pow_pos (by omega)
  unfold p10; omega
theorem p10_mono {j k : Int} (h : j ≤ k) : p10 j ≤ p10 k := by
  unfold p10
  have : (10 : Nat) ^ j.toNat ≤ 10 ^ k.toNat := Nat.pow_le_pow_right (by omega) (by omega)
  exact_mod_cast this
theorem p10_lt (j : Int) (h : j ≤ 18) : p10 j ≤ 1000000000000000000 := p10_mono (k := 18) h
/-- manAt -/
def manAt (m x p : Int) : Int × Bool := if m = 0 then (0, true) else if 8 < x - p then (0, false) else (m * p10 (x - p), true)
/-- l1Up behind so many rounds: nothing, if it went too far on the way -/
def up : Nat → Int → Int × Bool
  | 0, n => (n, true)
  | k + 1, n => if 1000000000 < n * 10 ∨ n * 10 < -1000000000 then (0, false) else up k (n * 10)
/-- DecAdd of two in their form -/
def add1 (m x n y : Int) : Int × Int × Bool :=
  if (manAt m x (min x y)).2 = true ∧ (manAt n y (min x y)).2 = true then new ((manAt m x (min x y)).1 + (manAt n y (min x y)).1) (min x y) else (0, 0, false)
def add (m x n y : Int) : Int × Int × Bool := if ok m x = true ∧ ok n y = true then add1 m x n y else (0, 0, false)
/-- l1Add -/
def addS (m x n y : Int) : Int × Int × Bool :=
  if m = 0 then (n, y, true) else if n = 0 then (m, x, true) else
    if (up (x - min x y).toNat m).2 = true ∧ (up (y - min x y).toNat n).2 = true then norm ((up (x - min x y).toNat m).1 + (up (y - min x y).toNat n).1) (min x y) else (0, 0, false)
theorem up_eq (k : Nat) : ∀ n : Int, n ≠ 0 → -1000000000 ≤ n → n ≤ 1000000000 → up k n = if -1000000000 ≤ n * 10 ^ k ∧ n * 10 ^ k ≤ 1000000000 then (n * 10 ^ k, true) else (0, false) := by
  induction k with
  | zero => intro n h0 h1 h2; rw [up, if_pos]; simp; simp; omega
  | succ k ih =>
    intro n h0 h1 h2
    have hp : (1 : Int) ≤ 10 ^ k := by have : (0 : Int) < 10 ^ k := Int.pow_pos (by omega); omega
    rw [up, Int.pow_succ, Int.mul_comm (10 ^ k) 10, ← Int.mul_assoc]
    by_cases hc : 1000000000 < n * 10 ∨ n * 10 < -1000000000
    · rw [if_pos hc, if_neg]
      rcases hc with hc | hc
      · have : n * 10 * 1 ≤ n * 10 * 10 ^ k := Int.mul_le_mul_of_nonneg_left hp (by omega)
        omega
      · have : (-(n * 10)) * 1 ≤ (-(n * 10)) * 10 ^ k := Int.mul_le_mul_of_nonneg_left hp (by omega)
        have e : (-(n * 10)) * (10 : Int) ^ k = -(n * 10 * 10 ^ k) := Int.neg_mul _ _
        omega
    · rw [if_neg hc]
      exact ih (n * 10) (by omega) (by omega) (by omega)
theorem strip_mul (j k : Nat) : ∀ (m e : Int), m.tmod 10 ≠ 0 → strip (k + 1 + j) (m * 10 ^ k) e = (m, e + k) := by
  induction k with
  | zero => intro m e h; rw [strip_at _ _ _ (by simpa using h)]; simp
  | succ k ih =>
    intro m e h
    rw [show k + 1 + 1 + j = (k + 1 + j) + 1 from by omega, strip, Int.pow_succ, ← Int.mul_assoc]
    rw [if_pos (Int.mul_tmod_left _ _), Int.mul_tdiv_cancel _ (by omega), ih m (e + 1) h]
    simp; omega
theorem norm_big {m e : Int} (h0 : m.tmod 10 ≠ 0) (h : 99999999 < m ∨ m < -99999999) : norm m e = (0, 0, false) := by
  have hm : m ≠ 0 := by intro h; subst h; simp at h0
  rw [norm, if_neg hm, strip_at _ _ _ h0]
  have : ok m e = false := by
    rw [Bool.eq_false_iff, Ne, ok_iff]; omega
  simp [this]
theorem new_norm {m e : Int} (h1 : -100000000000000000 ≤ m) (h2 : m ≤ 100000000000000000) (h3 : -32 ≤ e) (h4 : e ≤ 32) : new m e = norm m e := by
  rw [new, if_pos ⟨⟨h1, h2⟩, h3, h4⟩]
theorem norm_self {m e : Int} (h : ok m e = true) : norm m e = (m, e, true) := by
  by_cases h0 : m = 0
  · subst h0; rw [ok_iff] at h; rw [norm, if_pos rfl]; simp at h; simp [h]
  · have h' := h
    rw [ok_iff] at h'
    rw [norm, if_neg h0, strip_at _ _ _ (by omega)]
    simp [h]
theorem norm_pow {m e : Int} (k : Nat) (hk : k ≤ 19) (h0 : m ≠ 0) (h : ok m (e + k) = true) : norm (m * 10 ^ k) e = (m, e + k, true) := by
  have h' := h
  rw [ok_iff] at h'
  have hp : (10 : Int) ^ k ≠ 0 := Int.pow_ne_zero (by omega)
  rw [norm, if_neg (Int.mul_ne_zero h0 hp)]
  have hs : strip 20 (m * 10 ^ k) e = (m, e + k) := by
    have e1 := strip_mul (19 - k) k m e (by omega)
    rw [show k + 1 + (19 - k) = 20 from by omega] at e1
    exact e1
  rw [hs]; simp [h]
theorem tmod_add {u v : Int} (h : u.tmod 10 = 0) (hv : v.tmod 10 ≠ 0) : (u + v).tmod 10 ≠ 0 := by
  have := tm u; have := tm v; have := tm (u + v); have := tmb v
  intro hh; omega
theorem ite_and_comm {p q : Prop} [Decidable p] [Decidable q] (a b : Int × Int × Bool) : (if p ∧ q then a else b) = if q ∧ p then a else b := by
  by_cases hp : p <;> by_cases hq : q <;> simp [hp, hq]
theorem p10_tmod (k : Int) (h : 1 ≤ k) (m : Int) : (m * p10 k).tmod 10 = 0 := by
  have e := p10_succ (k - 1) (by omega)
  rw [show k - 1 + 1 = k from by omega] at e
  rw [e, ← Int.mul_assoc]; exact Int.mul_tmod_left _ _
theorem ok_ne {m x : Int} (h : ok m x = true) (h0 : m ≠ 0) : m.tmod 10 ≠ 0 := by rw [ok_iff] at h; omega
theorem add_zero_left {n y : Int} (hn : ok n y = true) : add1 0 0 n y = (n, y, true) := by
  have bn := ok_bd hn
  unfold add1 manAt
  by_cases hn0 : n = 0
  · have hy : y = 0 := by rw [ok_iff] at hn; omega
    subst hn0 hy; decide
  · by_cases hy : 0 ≤ y
    · rw [show min 0 y = 0 from by omega]
      simp only [if_true, if_neg hn0, Int.sub_zero, if_neg (show ¬ 8 < y from by omega), and_self, Int.zero_add]
      have hp : p10 y = 10 ^ y.toNat := rfl
      have hb := mul_bd (m := n) (n := p10 y) 99999999 100000000 (by omega) (by omega) (by omega) (by have := p10_pos y; omega) (p10_mono (k := 8) (by omega))
      rw [new_norm (by omega) (by omega) (by omega) (by omega), hp, norm_pow y.toNat (by omega) hn0 (by rw [show 0 + (y.toNat : Int) = y from by omega]; exact hn)]
      simp; omega
    · rw [show min 0 y = y from by omega]
      simp only [if_true, if_neg hn0, Int.sub_self, if_neg (show ¬ (8 : Int) < 0 from by omega), and_self, Int.zero_add, p10_zero, Int.mul_one]
      rw [new_norm (by omega) (by omega) (by omega) (by omega), norm_self hn]
theorem add_comm1 (m x n y : Int) : add1 m x n y = add1 n y m x := by
  unfold add1
  rw [Int.min_comm y x, Int.add_comm (manAt n y (min x y)).1, ite_and_comm]
theorem manAt_bd {m x : Int} (p : Int) (h : ok m x = true) : -9999999900000000 ≤ (manAt m x p).1 ∧ (manAt m x p).1 ≤ 9999999900000000 := by
  have b := ok_bd h
  unfold manAt
  by_cases h0 : m = 0
  · rw [if_pos h0]; exact ⟨by decide, by decide⟩
  · rw [if_neg h0]
    by_cases h8 : 8 < x - p
    · rw [if_pos h8]; exact ⟨by decide, by decide⟩
    · rw [if_neg h8]
      have hb := mul_bd (m := m) (n := p10 (x - p)) 99999999 100000000 (by omega) (by omega) (by omega) (by have := p10_pos (x - p); omega) (p10_mono (k := 8) (by omega))
      simp only; omega
/-- both far apart: the spec's way and the impl's -/
theorem add_gt {m x n y : Int} (hm : ok m x = true) (hn : ok n y = true) (hm0 : m ≠ 0) (hn0 : n ≠ 0) (hxy : y < x) : addS m x n y = add1 m x n y := by
  have bm := ok_bd hm
  have bn := ok_bd hn
  have tn := ok_ne hn hn0
  unfold addS add1 manAt
  rw [show min x y = y from by omega]
  simp only [if_neg hm0, if_neg hn0, Int.sub_self, if_neg (show ¬ (8 : Int) < 0 from by omega), p10_zero, Int.mul_one]
  rw [show (0 : Int).toNat = 0 from rfl, up, up_eq _ m hm0 (by omega) (by omega)]
  have hp : (10 : Int) ^ (x - y).toNat = p10 (x - y) := rfl
  rw [hp]
  have ht := p10_tmod (x - y) (by omega) m
  have htt := tmod_add ht tn
  by_cases h8 : 8 < x - y
  · have h9 : p10 9 ≤ p10 (x - y) := p10_mono (by omega)
    rw [show p10 9 = 1000000000 from rfl] at h9
    rw [if_pos h8]
    simp only [Bool.false_eq_true, false_and, if_false]
    by_cases hc : -1000000000 ≤ m * p10 (x - y) ∧ m * p10 (x - y) ≤ 1000000000
    · rw [if_pos hc]
      simp only [and_self, if_true]
      apply norm_big htt
      rcases Int.lt_or_gt_of_ne hm0 with h | h
      · have : 1 * p10 (x - y) ≤ (-m) * p10 (x - y) := Int.mul_le_mul_of_nonneg_right (by omega) (by omega)
        have e : (-m) * p10 (x - y) = -(m * p10 (x - y)) := Int.neg_mul _ _
        omega
      · have : 1 * p10 (x - y) ≤ m * p10 (x - y) := Int.mul_le_mul_of_nonneg_right (by omega) (by omega)
        omega
    · rw [if_neg hc]; simp
  · rw [if_neg h8]
    have hb := mul_bd (m := m) (n := p10 (x - y)) 99999999 100000000 (by omega) (by omega) (by omega) (by have := p10_pos (x - y); omega) (p10_mono (k := 8) (by omega))
    simp only [and_self, if_true]
    rw [new_norm (by omega) (by omega) (by omega) (by omega)]
    by_cases hc : -1000000000 ≤ m * p10 (x - y) ∧ m * p10 (x - y) ≤ 1000000000
    · rw [if_pos hc]; simp
    · rw [if_neg hc]
      simp only [Bool.false_eq_true, false_and, if_false]
      exact (norm_big htt (by omega)).symm
theorem addS_comm {m x n y : Int} (hm : m ≠ 0) (hn : n ≠ 0) : addS m x n y = addS n y m x := by
  unfold addS
  rw [if_neg hm, if_neg hn, if_neg hn, if_neg hm, Int.min_comm y x, Int.add_comm (up (y - min x y).toNat n).1, ite_and_comm]
theorem addS_eq {m x n y : Int} (hm : ok m x = true) (hn : ok n y = true) : addS m x n y = add1 m x n y := by
  by_cases hm0 : m = 0
  · have hx : x = 0 := by rw [ok_iff] at hm; omega
    subst hm0 hx
    rw [add_zero_left hn]; simp [addS]
  · by_cases hn0 : n = 0
    · have hy : y = 0 := by rw [ok_iff] at hn; omega
      subst hn0 hy
      rw [add_comm1, add_zero_left hm]; simp [addS, hm0]
    · rcases Int.lt_trichotomy x y with h | h | h
      · rw [addS_comm hm0 hn0, add_comm1]; exact add_gt hn hm hn0 hm0 h
      · subst h
        have bm := ok_bd hm
        have bn := ok_bd hn
        unfold addS add1 manAt
        rw [show min x x = x from by omega]
        simp only [if_neg hm0, if_neg hn0, Int.sub_self, if_neg (show ¬ (8 : Int) < 0 from by omega), p10_zero, Int.mul_one]
        rw [show (0 : Int).toNat = 0 from rfl, up, up]
        simp only [and_self, if_true]
        rw [new_norm (by omega) (by omega) (by omega) (by omega)]
      · exact add_gt hm hn hm0 hn0 h
theorem ok_neg (n y : Int) : ok (-n) y = ok n y := by
  rw [Bool.eq_iff_iff, ok_iff, ok_iff, Int.neg_tmod]; omega
/-- DecSub -/
def sub (m x n y : Int) : Int × Int × Bool := if ok m x = true ∧ ok n y = true then add1 m x (-n) y else (0, 0, false)
theorem sub_add (m x n y : Int) : add m x (-n) y = sub m x n y := by
  rw [add, sub]; simp only [ok_neg]
theorem sub_min (m x y : Int) : sub m x (-9223372036854775808) y = (0, 0, false) := by
  rw [sub, if_neg]; rw [ok_iff (-9223372036854775808) y]; omega
theorem add_min (m x y : Int) : add m x (-9223372036854775808) y = (0, 0, false) := by
  rw [add, if_neg]; rw [ok_iff (-9223372036854775808) y]; omega
end Go.Proofs.Ytpgpkdeiapeoiaa.Dm
/- Which trees are ok: plain mathematics over lists of trees. -/
namespace Go.Proofs.Ytpgpkdeiapeoiaa
/-- what stands at a place of a list -/
def Fo.kindAt : Fo → Nat → Int
  | .nil, _ => 0
  | .cons k _ _ _ _ _ _ _, 0 => k
  | .cons _ _ _ _ _ _ _ next, i + 1 => next.kindAt i
def Fo.textAt : Fo → Nat → ByteArray
  | .nil, _ => ⟨#[]⟩
  | .cons _ t _ _ _ _ _ _, 0 => t
  | .cons _ _ _ _ _ _ _ next, i + 1 => next.textAt i
def Fo.manAt : Fo → Nat → Int
  | .nil, _ => 0
  | .cons _ _ m _ _ _ _ _, 0 => m
  | .cons _ _ _ _ _ _ _ next, i + 1 => next.manAt i
def Fo.expAt : Fo → Nat → Int
  | .nil, _ => 0
  | .cons _ _ _ e _ _ _ _, 0 => e
  | .cons _ _ _ _ _ _ _ next, i + 1 => next.expAt i
def Fo.addrAt : Fo → Nat → Option Addr
  | .nil, _ => none
  | .cons _ _ _ _ a _ _ _, 0 => a
  | .cons _ _ _ _ _ _ _ next, i + 1 => next.addrAt i
def Fo.capAt : Fo → Nat → Nat
  | .nil, _ => 0
  | .cons _ _ _ _ _ c _ _, 0 => c
  | .cons _ _ _ _ _ _ _ next, i + 1 => next.capAt i
def Fo.kidsAt : Fo → Nat → Fo
  | .nil, _ => .nil
  | .cons _ _ _ _ _ _ kids _, 0 => kids
  | .cons _ _ _ _ _ _ _ next, i + 1 => next.kidsAt i
theorem Fo.from_at : ∀ {F : Fo} {w : World} {b o i : Nat}, F.From w b o → i < F.len →
    (w.cell? ⟨b, o + i * 5, none⟩ = some (.int .i64 (F.kindAt i)) ∧ w.cell? ⟨b, o + i * 5 + 1, none⟩ = some (.string (F.textAt i)) ∧ w.cell? ⟨b, o + i * 5 + 2, none⟩ = some (.int .i64 (F.manAt i)) ∧ w.cell? ⟨b, o + i * 5 + 3, none⟩ = some (.int .i64 (F.expAt i)) ∧
      w.cell? ⟨b, o + i * 5 + 4, none⟩ = some (.slice (F.addrAt i) (F.kidsAt i).len (F.capAt i))) ∧ (F.kidsAt i).In w (F.addrAt i) ∧ (F.kidsAt i).len ≤ F.capAt i ∧ F.capAt i ≤ maxLen ∧ (F.textAt i).size ≤ maxLen := by
  intro F
  induction F with
  | nil => intro w b o i _ h; exact absurd h (Nat.not_lt_zero _)
  | cons k t m e a c kids next _ ih =>
    rintro w b o i ⟨hc, hk, h1, h2, h3, hn⟩ hi
    cases i with
    | zero => simp only [Nat.zero_mul, Nat.add_zero]; exact ⟨hc, hk, h1, h2, h3⟩
    | succ i =>
      have := ih hn (show i < next.len from Nat.lt_of_succ_lt_succ hi)
      rw [show o + 5 + i * 5 = o + (i + 1) * 5 by omega] at this
      exact this
theorem Fo.size_at : ∀ {F : Fo} {i : Nat}, i < F.len → (F.kidsAt i).size < F.size := by
  intro F
  induction F with
  | nil => intro i h; exact absurd h (Nat.not_lt_zero _)
  | cons k t m e a c kids next _ ih =>
    intro i hi
    cases i with
    | zero => show kids.size < kids.size + 1 + next.size; omega
    | succ i => have := ih (show i < next.len from Nat.lt_of_succ_lt_succ hi); show (next.kidsAt i).size < kids.size + 1 + next.size; omega
/-- of the first n how many are of a kind -/
def Fo.cnt (F : Fo) (q : Int) : Nat → Nat
  | 0 => 0
  | n + 1 => F.cnt q n + (if F.kindAt n = q then 1 else 0)
theorem Fo.cnt_le (F : Fo) (q : Int) (n : Nat) : F.cnt q n ≤ n := by
  induction n with
  | zero => exact Nat.le_refl _
  | succ n ih => show F.cnt q n + (if F.kindAt n = q then 1 else 0) ≤ n + 1; split <;> omega
/-- the text at a place is none of those ahead of it -/
def Fo.newAt (F : Fo) (i : Nat) : Nat → Bool
  | 0 => true
  | j + 1 => F.newAt i j && !((F.textAt i).toList == (F.textAt j).toList)
/-- of the first n no two have one text -/
def Fo.dist (F : Fo) : Nat → Bool
  | 0 => true
  | n + 1 => F.dist n && F.newAt n n
theorem Fo.newAt_false {F : Fo} {i j n : Nat} (h : ((F.textAt i).toList == (F.textAt j).toList) = true) (hj : j < n) : F.newAt i n = false := by
  induction n with
  | zero => omega
  | succ n ih =>
    show (F.newAt i n && !((F.textAt i).toList == (F.textAt n).toList)) = false
    rcases Nat.lt_succ_iff_lt_or_eq.1 hj with hj | rfl
    · rw [ih hj]; rfl
    · rw [h]; simp
theorem Fo.dist_false {F : Fo} {i n : Nat} (h : F.newAt i i = false) (hi : i < n) : F.dist n = false := by
  induction n with
  | zero => omega
  | succ n ih =>
    show (F.dist n && F.newAt n n) = false
    rcases Nat.lt_succ_iff_lt_or_eq.1 hi with hi | rfl
    · rw [ih hi]; rfl
    · rw [h]; simp
namespace Om
def std1 : List (List UInt8) := [[108, 101, 110, 103, 116, 104], [107, 101, 121, 115], [116, 101, 120, 116], [116, 121, 112, 101], [115, 111, 114, 116], [114, 97, 110, 103, 101]]
def std2 : List (List UInt8) := [[109, 97, 112], [102, 105, 108, 116, 101, 114], [106, 111, 105, 110], [104, 97, 115]]
def std3 : List (List UInt8) := [[102, 111, 108, 100]]
/-- how many a function that is there from the beginning is given -/
def std (l : List UInt8) : Nat := if Qm.has std1 l then 1 else if Qm.has std2 l then 2 else if Qm.has std3 l then 3 else 0
theorem std_le (l : List UInt8) : std l ≤ 3 := by unfold std; split <;> (try split) <;> (try split) <;> omega
/-- signs between two -/
def signs : List (List UInt8) := [[124, 124], [38, 38], [61, 61], [33, 61], [60], [60, 61], [62], [62, 61], [43], [45], [42], [47], [37]]
/-- how many a kind has below, at least and at most -/
def low (k : Int) : Nat := if k = 10 ∨ k = 11 ∨ k = 12 ∨ k = 18 then 1 else if k = 13 ∨ k = 15 ∨ k = 19 ∨ k = 21 then 2 else if k = 14 then 3 else if k = 16 ∨ k = 17 then 1 else 0
def high (k : Int) : Nat := if k = 10 ∨ k = 11 ∨ k = 12 ∨ k = 18 then 1 else if k = 13 ∨ k = 15 ∨ k = 19 ∨ k = 21 then 2 else if k = 14 then 3 else if k = 16 ∨ k = 17 ∨ k = 20 ∨ k = 22 ∨ k = 24 then 8 else 0
/-- the program's table has them so for a field and for a function that is there from the beginning -/
def low' (k : Int) : Nat := if k = 23 ∨ k = 24 then 1 else low k
def high' (k : Int) : Nat := if k = 23 then 1 else if k = 24 then 3 else high k
/-- the sort of text: 0 none, 1 short, 2 a name, 3 a sign, 4 a function -/
def sort (k : Int) : Nat := if k = 5 then 1 else if k = 6 ∨ k = 8 ∨ k = 18 ∨ k = 15 ∨ k = 21 ∨ k = 9 ∨ k = 23 then 2 else if k = 13 then 3 else if k = 24 then 4 else 0
def textOf (q : Nat) (t : ByteArray) : Bool := if q = 1 then decide (t.size ≤ 1500) else if q = 2 then Qm.name t else if q = 3 then Qm.has signs t.toList else if q = 4 then decide (0 < std t.toList) else (t.toList == [])
/-- the number is as the kind asks -/
def num (k m e : Int) : Bool := if k = 4 then Dm.ok m e && decide (0 ≤ m) else if k = 23 then decide (e = 0) && (decide (0 ≤ m) && decide (m ≤ 2)) else decide (m = 0) && decide (e = 0)
/-- what is right below is as the kind asks -/
def below (k : Int) (t : ByteArray) (F : Fo) : Bool :=
  if k = 22 then decide (F.cnt 23 F.len = F.len) && F.dist F.len
  else if k = 16 then decide (F.cnt 6 (F.len - 1) = F.len - 1) && (F.dist (F.len - 1) && decide (F.cnt 23 F.len = 0))
  else if k = 24 then decide (std t.toList = F.len) && decide (F.cnt 23 F.len = 0)
  else decide (F.cnt 23 F.len = 0)
/-- a node with those right below is as its kind asks -/
def fit (k : Int) (t : ByteArray) (m e : Int) (F : Fo) : Bool :=
  (decide (1 ≤ k) && decide (k ≤ 24)) && ((decide (low' k ≤ F.len) && decide (F.len ≤ high' k)) && textOf (sort k) t) && (num k m e && below k t F)
end Om
end Go.Proofs.Ytpgpkdeiapeoiaa
