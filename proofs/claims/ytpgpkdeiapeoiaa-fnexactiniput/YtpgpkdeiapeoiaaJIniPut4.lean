/- My own texts, joined: Qm LexA Qq QuoA Jq Ja Qg Idx QuoP Jb QuoR Jc Fo Om OkI FoC DecX FoD FoG. -/
import Derived.Test.YtpgpkdeiapeoiaaRows
import Derived.WalkKit
import Derived.WalkSpells
import Derived.WalkLawsBesides
import Derived.Deep.RegionHeld3
import Derived.Deep.DeepCutAuto
import Derived.Below
import Derived.Laws.BytesArg
import Derived.Shelf.Small.Strs
import Derived.Test.YtpgpkdeiapeoiaaJIniPut3
import Derived.Shelf.Strings.BuilderK
import Derived.Test.YtpgpkdeiapeoiaaProg
import Derived.Lib.SmallJoins
import Derived.Test.YtpgpkdeiapeoiaaJIniPut0
import Derived.RangeFuncNested
import Derived.RangeFuncBound
import Derived.RangeFuncCalls
import Derived.RangeFuncLeaves
import Derived.RangeFuncFrom
import Derived.RangeFuncBox
import Derived.Shelf.Abstract
import Derived.Shelf.RegionOpen
import Derived.OwnWalkIn
import Derived.TacticsInMore
import Derived.LoopNIn
import Derived.LoopIn
import Derived.Laws.MakeOwn
/- Plain mathematics of chapter 2: letters, figures, runs, names, words. -/
namespace Go.Proofs.Ytpgpkdeiapeoiaa.Qm

def low (c : Int) : Bool := (decide (97 ≤ c) && decide (c ≤ 122)) || decide (c = 95)
def fig (c : Int) : Bool := decide (48 ≤ c) && decide (c ≤ 57)
def part (c : Int) : Bool := low c || fig c
def okAt (k : Nat) (c : Int) : Bool := low c || (decide (k ≠ 0) && fig c)
def letters : Nat → List UInt8 → Bool
  | _, [] => true
  | k, c :: t => okAt k c.toNat && letters (k + 1) t
def run (p : Int → Bool) : List UInt8 → Nat
  | [] => 0
  | c :: t => if p c.toNat then 1 + run p t else 0
/-- the words that are no names -/
def words : List (List UInt8) := [[110, 117, 108, 108], [116, 114, 117, 101], [102, 97, 108, 115, 101], [105, 102], [116, 104, 101, 110], [101, 108, 115, 101], [108, 111, 99, 97, 108], [102, 117, 110, 99, 116, 105, 111, 110], [115, 101, 108, 102], [115, 117, 112, 101, 114], [101, 114, 114, 111, 114], [105, 109, 112, 111, 114, 116], [102, 111, 114], [105, 110], [115, 116, 100]]
def has : List (List UInt8) → List UInt8 → Bool
  | [], _ => false
  | x :: t, l => (l == x) || has t l
def name (s : ByteArray) : Bool := letters 0 s.data.toList && (decide (1 ≤ s.size) && decide (s.size ≤ 12)) && !has words s.toList

theorem len_eq (s : ByteArray) : s.data.toList.length = s.size := by rw [Array.length_toList]; rfl
theorem drop_at (s : ByteArray) (k : Nat) (h : k < s.size) : s.data.toList.drop k = s[k] :: s.data.toList.drop (k + 1) := by
  rw [List.drop_eq_getElem_cons (by simpa using h)]; rfl
theorem drop_end (s : ByteArray) (k : Nat) (h : ¬ k < s.size) : s.data.toList.drop k = [] := by
  apply List.drop_eq_nil_of_le; simpa using h
theorem letters_step (s : ByteArray) (k : Nat) (h : k < s.size) : letters k (s.data.toList.drop k) = (okAt k s[k].toNat && letters (k + 1) (s.data.toList.drop (k + 1))) := by
  rw [drop_at s k h]; rfl
theorem run_step (p : Int → Bool) (s : ByteArray) (k : Nat) (h : k < s.size) : run p (s.data.toList.drop k) = if p s[k].toNat then 1 + run p (s.data.toList.drop (k + 1)) else 0 := by
  rw [drop_at s k h]; rfl
theorem run_end (p : Int → Bool) (s : ByteArray) (k : Nat) (h : ¬ k < s.size) : run p (s.data.toList.drop k) = 0 := by
  rw [drop_end s k h]; rfl
theorem run_le (p : Int → Bool) (l : List UInt8) : run p l ≤ l.length := by
  induction l with
  | nil => exact Nat.le_refl _
  | cons c t ih => simp only [run, List.length_cons]; split <;> omega
theorem run_iff (p : Int → Bool) (l : List UInt8) : run p l = l.length ↔ l.all (fun c => p c.toNat) = true := by
  induction l with
  | nil => simp [run]
  | cons c t ih =>
    have := run_le p t
    by_cases h : p c.toNat = true
    · have e : run p (c :: t) = 1 + run p t := by simp [run, h]
      rw [e, List.all_cons, h, Bool.true_and, ← ih, List.length_cons]; omega
    · have e : run p (c :: t) = 0 := by simp [run, h]
      rw [e, List.all_cons, Bool.eq_false_iff.2 h]; simp
theorem run_all (p : Int → Bool) (l : List UInt8) : decide (run p l = l.length) = l.all (fun c => p c.toNat) := by
  rw [Bool.eq_iff_iff, decide_eq_true_iff]; exact run_iff p l
theorem letters_succ (k : Nat) (l : List UInt8) : letters (k + 1) l = l.all (fun c => part c.toNat) := by
  induction l generalizing k with
  | nil => rfl
  | cons c t ih => simp only [letters, List.all_cons, ih (k + 1)]; simp [okAt, part]
theorem letters_part (c : UInt8) (t : List UInt8) : letters 0 (c :: t) = (low c.toNat && decide (run part (c :: t) = (c :: t).length)) := by
  rw [run_all]; simp only [letters, letters_succ, List.all_cons]
  simp [okAt, part]
  cases low c.toNat <;> simp
/-- how the program asks it -/
theorem name_eq (s : ByteArray) (h : 0 < s.size) : name s = (decide (s.size ≤ 12) && (low s[0].toNat && (decide (run part s.data.toList = s.size) && !has words s.toList))) := by
  unfold name
  have e : s.data.toList = s[0] :: s.data.toList.drop 1 := by have := drop_at s 0 h; simpa using this
  have e1 : letters 0 s.data.toList = (low s[0].toNat && decide (run part s.data.toList = s.size)) := by
    have h2 := letters_part s[0] (s.data.toList.drop 1)
    rw [← e] at h2
    rw [h2]; simp
  rw [e1]
  have h1 : decide (1 ≤ s.size) = true := decide_eq_true h
  rw [h1]
  cases decide (s.size ≤ 12) <;> cases low s[0].toNat <;> cases decide (run part s.data.toList = s.size) <;> simp
theorem name_none (s : ByteArray) (h : ¬ 0 < s.size) : name s = false := by
  unfold name
  have : decide (1 ≤ s.size) = false := by simpa using h
  rw [this]; simp
theorem name_long (s : ByteArray) (h : ¬ s.size ≤ 12) : name s = false := by
  unfold name
  have : decide (s.size ≤ 12) = false := by simpa using h
  rw [this]; simp
theorem has_drop (L : List (List UInt8)) (l : List UInt8) (k : Nat) (h : k < L.length) : has (L.drop k) l = ((l == L[k]) || has (L.drop (k + 1)) l) := by
  rw [List.drop_eq_getElem_cons h]; rfl
theorem has_end (L : List (List UInt8)) (l : List UInt8) (k : Nat) (h : ¬ k < L.length) : has (L.drop k) l = false := by
  rw [List.drop_eq_nil_of_le (by omega)]; rfl
end Go.Proofs.Ytpgpkdeiapeoiaa.Qm
/- Contracts of the leaves of chapter 2: letters, figures, runs, words, NameOk of both sides. -/
namespace Go.Proofs.Ytpgpkdeiapeoiaa
open Go.RowKit

theorem lret_bool {a b : Bool} (h : a = b) : Ending.returned (.bool a) = .returned (.bool b) := by rw [h]
theorem lret_int {k : IntKind} {a b : Int} (h : a = b) : Ending.returned (.int k a) = .returned (.int k b) := by rw [h]

set_option maxHeartbeats 400000 in
theorem isLetter_any (c : Int) (w : World) :
    Calls Try.prog 125 #[.int .u8 c] w fun e w' => e = .returned (.bool (Qm.low c)) ∧ w' = w := by
  go_enter Try.func125, Try.ntmps125
  go_wp2
  all_goals
    go_ret
    exact ⟨lret_bool (by rw [Bool.eq_iff_iff]; simp [Qm.low]; try omega), rfl⟩
set_option maxHeartbeats 400000 in
theorem l2Low_any (c : Int) (w : World) :
    Calls Try.prog 91 #[.int .u8 c] w fun e w' => e = .returned (.bool (Qm.low c)) ∧ w' = w := by
  go_enter Try.func91, Try.ntmps91
  go_wp2
  all_goals
    go_ret
    exact ⟨lret_bool (by rw [Bool.eq_iff_iff]; simp [Qm.low]; try omega), rfl⟩
set_option maxHeartbeats 400000 in
theorem isFigure_any (c : Int) (w : World) :
    Calls Try.prog 129 #[.int .u8 c] w fun e w' => e = .returned (.bool (Qm.fig c)) ∧ w' = w := by
  go_enter Try.func129, Try.ntmps129
  go_wp2
  all_goals
    go_ret
    exact ⟨lret_bool (by rw [Bool.eq_iff_iff]; simp [Qm.fig]; try omega), rfl⟩
set_option maxHeartbeats 400000 in
theorem l2Figure_any (c : Int) (w : World) :
    Calls Try.prog 92 #[.int .u8 c] w fun e w' => e = .returned (.bool (Qm.fig c)) ∧ w' = w := by
  go_enter Try.func92, Try.ntmps92
  go_wp2
  all_goals
    go_ret
    exact ⟨lret_bool (by rw [Bool.eq_iff_iff]; simp [Qm.fig]; try omega), rfl⟩
set_option maxHeartbeats 400000 in
theorem isNamePart_any (c : Int) (w : World) :
    Calls Try.prog 127 #[.int .u8 c] w fun e w' => e = .returned (.bool (Qm.part c)) ∧ w' = w := by
  go_enter Try.func127, Try.ntmps127
  go_wp2_with (first | (go_at_call 125; refine (isLetter_any _ _).mono ?_; rintro e w' ⟨rfl, rfl⟩) | (go_at_call 129; refine (isFigure_any _ _).mono ?_; rintro e w' ⟨rfl, rfl⟩))
  all_goals
    go_ret
    exact ⟨lret_bool (by simp_all [Qm.part]), rfl⟩
set_option maxHeartbeats 400000 in
theorem l1In_l (n a b : Int) (w : World) :
    Calls Try.prog 82 #[.int .i64 n, .int .i64 a, .int .i64 b] w fun e w' => e = .returned (.bool (decide (a ≤ n) && decide (n ≤ b))) ∧ w' = w := by
  go_enter Try.func82, Try.ntmps82
  go_wp2
  all_goals
    go_ret
    exact ⟨lret_bool (by simp; try omega), rfl⟩

/-- how many bytes a text begins with that are name's parts -/
theorem runLength_part (s : ByteArray) (w : World) (hs : s.size ≤ maxLen) :
    Calls Try.prog 126 #[.string s, .func (.func 127) #[] #[]] w fun e w' => e = .returned (.int .i64 (Qm.run Qm.part s.data.toList)) ∧ w' = w := by
  unfold maxLen at hs
  go_enter Try.func126, Try.ntmps126
  go_wp2_with fail
  go_loop [5] (fun i => ∃ k : Nat, k ≤ s.size ∧ i = .int .i64 k ∧ Qm.run Qm.part s.data.toList = k + Qm.run Qm.part (s.data.toList.drop k)) (fun i => s.size - (intOf i).toNat)
  case atStart => exact ⟨0, Nat.zero_le _, rfl, by simp⟩
  case round =>
    obtain ⟨k, hk, rfl, hr⟩ := hrel
    have HR : Hid (Qm.run Qm.part s.data.toList = k + Qm.run Qm.part (s.data.toList.drop k)) := hr
    clear hr
    by_cases hlt : k < s.size
    · have HS : Hid (Qm.run Qm.part (s.data.toList.drop k) = if Qm.part s[k].toNat then 1 + Qm.run Qm.part (s.data.toList.drop (k + 1)) else 0) := Qm.run_step _ s k hlt
      cases hp : Qm.part s[k].toNat
      · go_wp2_with (go_at_call 127; refine (isNamePart_any _ _).mono ?_; rintro e w' ⟨rfl, rfl⟩)
        go_ret
        exact ⟨lret_int (by rw [HR.out, HS.out, hp]; simp), rfl⟩
      · go_wp2_with (go_at_call 127; refine (isNamePart_any _ _).mono ?_; rintro e w' ⟨rfl, rfl⟩)
        go_round
        case rel => exact ⟨k + 1, by omega, by go_num, by rw [HR.out, HS.out, hp]; simp; omega⟩
        case measure => simp [intOf]; omega
    · have HE := Qm.run_end Qm.part s k hlt
      have HE' : Hid (Qm.run Qm.part (s.data.toList.drop k) = 0) := HE
      clear HE
      go_wp2_with fail
      go_ret
      exact ⟨lret_int (by rw [HR.out, HE'.out]; simp), rfl⟩
end Go.Proofs.Ytpgpkdeiapeoiaa
/- Plain mathematics of texts between quotes. -/
namespace Go.Proofs.Ytpgpkdeiapeoiaa.Qm
def plain (c : Int) : Bool := decide (32 ≤ c) && decide (c ≤ 126) && decide (c ≠ 34) && decide (c ≠ 92)
def hexs : List UInt8 := [48, 49, 50, 51, 52, 53, 54, 55, 56, 57, 97, 98, 99, 100, 101, 102]
def hexd (n : Nat) : UInt8 := hexs.getD n 0
def esc (b : UInt8) : List UInt8 :=
  if plain b.toNat then [b] else if b = 10 then [92, 110] else if b = 34 ∨ b = 92 then [92, b] else [92, 120, hexd (b.toNat / 16), hexd (b.toNat % 16)]
def quote (l : List UInt8) : List UInt8 := 34 :: (l.flatMap esc ++ [34])
theorem esc_length (b : UInt8) : 1 ≤ (esc b).length ∧ (esc b).length ≤ 4 := by
  unfold esc; split
  · simp
  · split
    · simp
    · split <;> simp
theorem flat_length (l : List UInt8) : (l.flatMap esc).length ≤ 4 * l.length := by
  induction l with
  | nil => simp
  | cons c t ih => have := esc_length c; simp only [List.flatMap_cons, List.length_append, List.length_cons]; omega
theorem flat_take (s : ByteArray) (k : Nat) (h : k < s.size) : (s.data.toList.take (k + 1)).flatMap esc = (s.data.toList.take k).flatMap esc ++ esc s[k] := by
  rw [List.take_succ_eq_append_getElem (by simpa using h), List.flatMap_append, List.flatMap_singleton]; rfl
end Go.Proofs.Ytpgpkdeiapeoiaa.Qm
/- Contracts: a byte between quotes, of both sides. -/
namespace Go.Proofs.Ytpgpkdeiapeoiaa
open Go.RowKit

set_option maxHeartbeats 400000 in
theorem standsForItself_any (c : Int) (w : World) :
    Calls Try.prog 79 #[.int .u8 c] w fun e w' => e = .returned (.bool (Qm.plain c)) ∧ w' = w := by
  go_enter Try.func79, Try.ntmps79
  go_wp2
  all_goals
    go_ret
    exact ⟨lret_bool (by rw [Bool.eq_iff_iff]; simp [Qm.plain]; try omega), rfl⟩

/-- a new row of one or two bytes, as a text -/
theorem qconv_one (W : World) (k : Nat) (c : Int) (hk : k = W.heap.size) :
    (convert 46 9 (.slice (some ⟨k, 0, none⟩) 1 1)).run Try.prog (W.alloc (.cells #[.int .u8 c] 5)) = .ok (.string (strOfNums [c])) (W.alloc (.cells #[.int .u8 c] 5)) := by
  subst hk
  refine run_convert_bytes_arg _ 46 5 Try.underlying46 Try.underlying5 W.heap.size 0 1 1 [c] rfl (fun i hi => ?_) 9 Try.underlying9
  obtain rfl : i = 0 := by omega
  simp
theorem conv_two (W : World) (k : Nat) (c d : Int) (hk : k = W.heap.size) :
    (convert 46 9 (.slice (some ⟨k, 0, none⟩) 2 2)).run Try.prog (W.alloc (.cells #[.int .u8 c, .int .u8 d] 5)) = .ok (.string (strOfNums [c, d])) (W.alloc (.cells #[.int .u8 c, .int .u8 d] 5)) := by
  subst hk
  refine run_convert_bytes_arg _ 46 5 Try.underlying46 Try.underlying5 W.heap.size 0 2 2 [c, d] rfl (fun i hi => ?_) 9 Try.underlying9
  have : i = 0 ∨ i = 1 := by omega
  rcases this with rfl | rfl <;> simp
theorem conv_two_drew (W : World) (k : Nat) (c d : Int) (hk : k = W.heap.size) :
    (convert 46 9 (.slice (some ⟨k, 0, none⟩) 2 2)).run Try.prog (W.alloc (.cells #[.int .u8 c, .int .u8 d] 5)).drew = .ok (.string (strOfNums [c, d])) (W.alloc (.cells #[.int .u8 c, .int .u8 d] 5)).drew := by
  subst hk
  refine run_convert_bytes_arg _ 46 5 Try.underlying46 Try.underlying5 W.heap.size 0 2 2 [c, d] rfl (fun i hi => ?_) 9 Try.underlying9
  have : i = 0 ∨ i = 1 := by omega
  rcases this with rfl | rfl <;> simp
theorem hex_at (i : Nat) (h : i < (⟨#[48, 49, 50, 51, 52, 53, 54, 55, 56, 57, 97, 98, 99, 100, 101, 102]⟩ : ByteArray).size) : (⟨#[48, 49, 50, 51, 52, 53, 54, 55, 56, 57, 97, 98, 99, 100, 101, 102]⟩ : ByteArray)[i] = Qm.hexd i := by
  have h' : i < 16 := h
  have : i = 0 ∨ i = 1 ∨ i = 2 ∨ i = 3 ∨ i = 4 ∨ i = 5 ∨ i = 6 ∨ i = 7 ∨ i = 8 ∨ i = 9 ∨ i = 10 ∨ i = 11 ∨ i = 12 ∨ i = 13 ∨ i = 14 ∨ i = 15 := by omega
  rcases this with rfl | rfl | rfl | rfl | rfl | rfl | rfl | rfl | rfl | rfl | rfl | rfl | rfl | rfl | rfl | rfl <;> rfl
theorem ret_str {a b : ByteArray} (h : a.data.toList = b.data.toList) : Ending.returned (.string a) = .returned (.string b) := by
  have : a = b := by cases a; cases b; simpa using h
  rw [this]

end Go.Proofs.Ytpgpkdeiapeoiaa
/- Plain mathematics of texts between quotes, as JSON has them. -/
namespace Go.Proofs.Ytpgpkdeiapeoiaa.Qm
def jesc (b : UInt8) : List UInt8 :=
  if b = 34 ∨ b = 92 then [92, b] else if plain b.toNat then [b] else [92, 117, 48, 48, hexd (b.toNat / 16), hexd (b.toNat % 16)]
def jquote (l : List UInt8) : List UInt8 := 34 :: (l.flatMap jesc ++ [34])
theorem jesc_length (b : UInt8) : 1 ≤ (jesc b).length ∧ (jesc b).length ≤ 6 := by
  unfold jesc; split
  · simp
  · split <;> simp
theorem jflat_length (l : List UInt8) : (l.flatMap jesc).length ≤ 6 * l.length := by
  induction l with
  | nil => simp
  | cons c t ih => have := jesc_length c; simp only [List.flatMap_cons, List.length_append, List.length_cons]; omega
theorem jquote_length (l : List UInt8) : (jquote l).length ≤ 6 * l.length + 2 := by
  have := jflat_length l
  unfold jquote
  simp only [List.length_append, List.length_cons, List.length_nil]; omega
theorem jflat_take (s : ByteArray) (k : Nat) (h : k < s.size) : (s.data.toList.take (k + 1)).flatMap jesc = (s.data.toList.take k).flatMap jesc ++ jesc s[k] := by
  rw [List.take_succ_eq_append_getElem (by simpa using h), List.flatMap_append, List.flatMap_singleton]; rfl
theorem jesc_plain {b : UInt8} (h : plain b.toNat = true) : jesc b = [b] := by
  have h1 : ¬ (b = 34 ∨ b = 92) := by
    rintro (rfl | rfl) <;> revert h <;> decide
  rw [jesc, if_neg h1, if_pos h]
end Go.Proofs.Ytpgpkdeiapeoiaa.Qm
/- Contracts: a byte between quotes, as JSON has it, by the specification. -/
namespace Go.Proofs.Ytpgpkdeiapeoiaa
open Go.RowKit
set_option maxRecDepth 100000 in
set_option maxHeartbeats 1000000 in
theorem l7Escape_any (b : UInt8) (w : World) :
    Calls Try.prog 63 #[.int .u8 b.toNat] w fun e w' => e = .returned (.string ⟨(Qm.jesc b).toArray⟩) ∧ Below w.heap.size w w' := by
  have hb := b.toNat_lt
  by_cases h2 : b = 34 ∨ b = 92
  · have hcv := conv_two w w.heap.size 92 34 rfl
    have hcw := conv_two w w.heap.size 92 92 rfl
    have he : Qm.jesc b = [92, b] := by rw [Qm.jesc, if_pos h2]
    rcases h2 with rfl | rfl
    all_goals
      go_enter Try.func63, Try.ntmps63
      go_wp2_with fail
      go_ret
      exact ⟨ret_str (by rw [he]; simp [strOfNums]), (by (repeat' (first | assumption | exact Below.refl _ _ | refine Below.alloc ?_ ?_ _ | refine Below.setCell ?_ ?_ _ | refine Below.drew ?_ | refine below_drewN ?_ _)) <;> (first | omega | (simp <;> omega)))⟩
  · have t34 : ¬ (b.toNat = 34) := fun h => h2 (.inl (UInt8.toNat_inj.1 h))
    have t92 : ¬ (b.toNat = 92) := fun h => h2 (.inr (UInt8.toNat_inj.1 h))
    have e34 : ((b.toNat : Int) == 34) = false := by simp; omega
    have e92 : ((b.toNat : Int) == 92) = false := by simp; omega
    by_cases hp : Qm.plain b.toNat = true
    · have hcv := qconv_one w w.heap.size b.toNat rfl
      have he : Qm.jesc b = [b] := Qm.jesc_plain hp
      have hr : (32 : Int) ≤ (b.toNat : Int) ∧ (b.toNat : Int) < 127 := by simp [Qm.plain] at hp; omega
      obtain ⟨r1, r2⟩ := hr
      have HE : Hid (Qm.jesc b = [b]) := he
      clear hp h2 he
      go_enter Try.func63, Try.ntmps63
      go_wp2_with fail
      go_ret
      exact ⟨ret_str (by rw [HE.out]; simp [strOfNums]), (by (repeat' (first | assumption | exact Below.refl _ _ | refine Below.alloc ?_ ?_ _ | refine Below.setCell ?_ ?_ _ | refine Below.drew ?_ | refine below_drewN ?_ _)) <;> (first | omega | (simp <;> omega)))⟩
    · have hr : ¬ ((32 : Int) ≤ (b.toNat : Int) ∧ (b.toNat : Int) < 127) := by
        intro h
        apply hp
        simp [Qm.plain]
        omega
      obtain ⟨i, hi⟩ : ∃ i : Nat, i = b.toNat / 16 := ⟨_, rfl⟩
      obtain ⟨j, hj⟩ : ∃ j : Nat, j = b.toNat % 16 := ⟨_, rfl⟩
      have q1 : IntKind.u8.wrap ((b.toNat : Int).tdiv 16) = (i : Int) := by rw [IntKind.wrap_u8, Int.tdiv_eq_ediv_of_nonneg (by omega)]; omega
      have q2 : IntKind.u8.wrap ((b.toNat : Int).tmod 16) = (j : Int) := by rw [IntKind.wrap_u8, Int.tmod_eq_emod_of_nonneg (by omega)]; omega
      have q3 : (b.toNat : Int).tdiv 16 = (i : Int) := by rw [Int.tdiv_eq_ediv_of_nonneg (by omega)]; omega
      have q4 : (b.toNat : Int).tmod 16 = (j : Int) := by rw [Int.tmod_eq_emod_of_nonneg (by omega)]; omega
      have q5 : (b.toNat : Int) / 16 = (i : Int) := by omega
      have q6 : (b.toNat : Int) % 16 = (j : Int) := by omega
      have i1 : (0 : Int) ≤ (i : Int) := by omega
      have j1 : (0 : Int) ≤ (j : Int) := by omega
      have i2 : (i : Int) < 16 := by omega
      have j2 : (j : Int) < 16 := by omega
      have Hi : Hid (i = b.toNat / 16) := hi
      have Hj : Hid (j = b.toNat % 16) := hj
      have HE : Hid (Qm.jesc b = [92, 117, 48, 48, Qm.hexd i, Qm.hexd j]) := by unfold Hid; rw [Qm.jesc, if_neg h2, if_neg hp, hi, hj]
      clear hi hj hp h2
      have hrr : ¬ (32 : Int) ≤ (b.toNat : Int) ∨ ¬ (b.toNat : Int) < 127 := by omega
      rcases hrr with hr1 | hr1
      all_goals
        clear hr
        go_enter Try.func63, Try.ntmps63
        go_wp2_with fail
        have hcv := fun c d => conv_two_drew w w.heap.size c d rfl
        have hs2 : ∀ c d, (strOfNums [c, d]).size = 2 := fun c d => strOfNums_size [c, d]
        go_region
        go_wp2_with fail
        go_ret
        have he : Qm.jesc b = [92, 117, 48, 48, Qm.hexd i, Qm.hexd j] := HE.out
        exact ⟨ret_str (by rw [he, hex_at, hex_at]; simp [strOfNums, ByteArray.data_append]), (by (repeat' (first | assumption | exact Below.refl _ _ | refine Below.alloc ?_ ?_ _ | refine Below.setCell ?_ ?_ _ | refine Below.drew ?_ | refine below_drewN ?_ _)) <;> (first | omega | (simp <;> omega)))⟩
end Go.Proofs.Ytpgpkdeiapeoiaa
/- Plain mathematics: reading a text between quotes. -/
namespace Go.Proofs.Ytpgpkdeiapeoiaa.Qm
def hexv (c : UInt8) : Int := if fig c.toNat then (c.toNat : Int) - 48 else if 97 ≤ c.toNat ∧ c.toNat ≤ 102 then (c.toNat : Int) - 87 else -1
def hx : List UInt8 → UInt8 × Nat
  | x :: y :: _ => if 0 ≤ hexv x ∧ 0 ≤ hexv y then (UInt8.ofNat (hexv x * 16 + hexv y).toNat, 4) else (0, 0)
  | _ => (0, 0)
def nx : List UInt8 → UInt8 × Nat
  | [] => (0, 0)
  | c :: t => if plain c.toNat then (c, 1) else if c ≠ 92 then (0, 0) else
    match t with
    | [] => (0, 0)
    | d :: t2 => if d = 110 then (10, 2) else if d = 34 ∨ d = 92 then (d, 2) else if d = 120 then hx t2 else (0, 0)
def gq : Nat → List UInt8 → List UInt8 → Option (List UInt8)
  | _, [], acc => some acc
  | 0, _ :: _, _ => none
  | f + 1, c :: t, acc => if (nx (c :: t)).2 = 0 then none else gq f ((c :: t).drop (nx (c :: t)).2) (acc ++ [(nx (c :: t)).1])
/-- what lies between the first byte and the last -/
def mid (l : List UInt8) : List UInt8 := (l.drop 1).take (l.length - 2)
def quoted (l : List UInt8) : Bool := decide (2 ≤ l.length) && (l.getD 0 0 == 34) && (l.getD (l.length - 1) 0 == 34)
def qget (l : List UInt8) : Option (List UInt8) := if quoted l then gq l.length (mid l) [] else none

theorem hexv_le (c : UInt8) : -1 ≤ hexv c ∧ hexv c ≤ 15 := by
  unfold hexv fig; split
  · rename_i h; simp at h; omega
  · split <;> omega
theorem hx_le (l : List UInt8) : (hx l).2 ≤ l.length + 2 := by
  unfold hx; split
  · split <;> simp
  · simp
theorem nx_le (l : List UInt8) : (nx l).2 ≤ l.length := by
  unfold nx; split
  · simp
  · split
    · simp
    · split
      · simp
      · split
        · simp
        · split
          · simp
          · split
            · simp
            · split
              · have := hx_le ‹_›; simp; omega
              · simp
theorem gq_nil (f : Nat) (acc : List UInt8) : gq f [] acc = some acc := by cases f <;> rfl
theorem gq_stop (f : Nat) (l acc : List UInt8) (h : l ≠ []) (h0 : (nx l).2 = 0) : gq f l acc = none := by
  cases l with
  | nil => exact absurd rfl h
  | cons c t => cases f with
    | zero => rfl
    | succ f => simp only [gq, h0, if_true]
theorem gq_step (f : Nat) (l acc : List UInt8) (h : l ≠ []) (h0 : (nx l).2 ≠ 0) : gq (f + 1) l acc = gq f (l.drop (nx l).2) (acc ++ [(nx l).1]) := by
  cases l with
  | nil => exact absurd rfl h
  | cons c t => simp only [gq, if_neg h0]
theorem nx_nil : nx [] = (0, 0) := rfl
theorem nx_plain (c : UInt8) (t : List UInt8) (h : plain c.toNat = true) : nx (c :: t) = (c, 1) := by simp [nx, h]
theorem nx_other (c : UInt8) (t : List UInt8) (h : plain c.toNat = false) (h2 : c ≠ 92) : nx (c :: t) = (0, 0) := by simp [nx, h, h2]
theorem nx_bare : nx [92] = (0, 0) := rfl
theorem nx_n (t : List UInt8) : nx (92 :: 110 :: t) = (10, 2) := rfl
theorem nx_q (d : UInt8) (t : List UInt8) (h : d = 34 ∨ d = 92) : nx (92 :: d :: t) = (d, 2) := by rcases h with rfl | rfl <;> rfl
theorem nx_x (t : List UInt8) : nx (92 :: 120 :: t) = hx t := rfl
theorem nx_no (d : UInt8) (t : List UInt8) (h1 : d ≠ 110) (h2 : d ≠ 34) (h3 : d ≠ 92) (h4 : d ≠ 120) : nx (92 :: d :: t) = (0, 0) := by
  have hp : plain 92 = false := rfl
  simp [nx, hp, h1, h2, h3, h4]
theorem hx_short (t : List UInt8) (h : t.length < 2) : hx t = (0, 0) := by
  match t, h with
  | [], _ => rfl
  | [_], _ => rfl
theorem hx_two (x y : UInt8) (t : List UInt8) : hx (x :: y :: t) = if 0 ≤ hexv x ∧ 0 ≤ hexv y then (UInt8.ofNat (hexv x * 16 + hexv y).toNat, 4) else (0, 0) := rfl
theorem mid_length (l : List UInt8) : (mid l).length = l.length - 2 := by simp [mid]; omega
/-- the model's look-up of a figure is the figure's number -/
theorem byte_of (x y : UInt8) (h1 : 0 ≤ hexv x) (h2 : 0 ≤ hexv y) : ((UInt8.ofNat (hexv x * 16 + hexv y).toNat).toNat : Int) = hexv x * 16 + hexv y := by
  have := hexv_le x; have := hexv_le y
  rw [UInt8.toNat_ofNat']; omega
end Go.Proofs.Ytpgpkdeiapeoiaa.Qm
/- The library's contract on strings.IndexByte at this dump; the figures of sixteen. -/
namespace Go.Proofs.Ytpgpkdeiapeoiaa
open Go.Shelf Go.RowKit
def ren137 : Ren := ⟨fun | 137 => 80 | 217 => 86 | 266 => 90 | n => n, fun | 9 => 9 | 5 => 5 | 3 => 3 | n => n, fun | n => n⟩
theorem lays137 : Lays.n137 Try.prog ren137 := {
  mixed := by kernel_rfl
  f137 := Try.func80.trans (congrArg some (by kernel_rfl))
  f217 := Try.func86.trans (congrArg some (by kernel_rfl))
  f266 := Try.func90.trans (congrArg some (by kernel_rfl))
  t3 := Try.underlying3
  a3 := Try.isAgg3
  z3 := Try.sizeOf3
  v3 := Try.zeroValue3
  t5 := Try.underlying5
  a5 := Try.isAgg5
  z5 := Try.sizeOf5
  v5 := Try.zeroValue5
  t9 := Try.underlying9
  a9 := Try.isAgg9
  z9 := Try.sizeOf9
  v9 := Try.zeroValue9 }
theorem indexByte_lib (s : ByteArray) (c : Int) (w : World) :
    Calls Try.prog 80 #[.string s, .int .u8 c] w fun e w' => e = .returned (.int .i64 (Lib.indexByte s.data.toList c.toNat.toUInt8)) ∧ w' = w := Any.strings_IndexByte lays137 s c w
theorem hex_all : ∀ n : Fin 256, Lib.indexByte Qm.hexs (UInt8.ofNat n.val) = Qm.hexv (UInt8.ofNat n.val) := by decide +kernel
theorem hex_index (c : UInt8) : Lib.indexByte Qm.hexs ((c.toNat : Int).toNat.toUInt8) = Qm.hexv c := by
  have h := hex_all ⟨c.toNat, c.toNat_lt⟩
  have e : UInt8.ofNat c.toNat = c := by simp
  rw [e] at h
  rw [Int.toNat_natCast]
  show Lib.indexByte Qm.hexs (UInt8.ofNat c.toNat) = _
  rw [e]; exact h
theorem hexIndex_any (c : UInt8) (w : World) :
    Calls Try.prog 80 #[.string ⟨#[48, 49, 50, 51, 52, 53, 54, 55, 56, 57, 97, 98, 99, 100, 101, 102]⟩, .int .u8 c.toNat] w fun e w' => e = .returned (.int .i64 (Qm.hexv c)) ∧ w' = w := by
  refine (indexByte_lib _ _ w).mono ?_
  rintro e w' ⟨rfl, hw⟩
  refine ⟨?_, hw⟩
  rw [← hex_index c]; rfl
end Go.Proofs.Ytpgpkdeiapeoiaa
/- Contracts: how texts are put between quotes, of the program (quoting as papers have it). -/
namespace Go.Proofs.Ytpgpkdeiapeoiaa
open Go.RowKit
/-- how texts stand in papers -/
abbrev pq : Value := .agg #[.string ⟨#[92, 120]⟩, .string ⟨#[34, 92, 110]⟩, .string ⟨#[34, 92, 10]⟩, .int .i64 3]
theorem arr_size (l : List UInt8) : (⟨l.toArray⟩ : ByteArray).size = l.length := by show l.toArray.size = _; simp
theorem arr_append (a b : List UInt8) : (⟨a.toArray⟩ : ByteArray) ++ ⟨b.toArray⟩ = ⟨(a ++ b).toArray⟩ := by
  have : ∀ x y : ByteArray, x.data.toList = y.data.toList → x = y := by intro x y h; cases x; cases y; simpa using h
  apply this; simp [ByteArray.data_append]
theorem arr_back (s : ByteArray) : (⟨s.data.toList.toArray⟩ : ByteArray) = s := by cases s; simp
/-- the builder in block k holds these bytes -/
abbrev Holds (B k : Nat) (acc : List UInt8) (w : World) : Prop := Lib.IsBuilderF 48 5 B k (Lib.byteCells acc) w
theorem Holds.byte {B k : Nat} {acc : List UInt8} {c : UInt8} {n : Int} {w : World} (h : Lib.IsBuilderF 48 5 B k (Lib.byteCells acc ++ [.int .u8 n]) w) (hn : n = c.toNat) : Holds B k (acc ++ [c]) w := by
  subst hn
  unfold Holds
  rw [Lib.byteCells_append]; exact h
theorem Holds.text {B k : Nat} {acc l : List UInt8} {s : ByteArray} {w : World} (h : Lib.IsBuilderF 48 5 B k (Lib.byteCells acc ++ Lib.strCells s) w) (hs : s.data.toList = l) : Holds B k (acc ++ l) w := by
  subst hs
  unfold Holds
  rw [Lib.byteCells_append]; exact h
theorem kept_trans {e : TypeId} {b : Option Nat} {w1 w2 w3 : World} (h : Lib.OthersKept e b w1 w2) (h' : Lib.OthersKept e b w2 w3) : Lib.OthersKept e b w1 w3 := h.trans h'
theorem wByte (B k : Nat) (acc : List UInt8) (c : UInt8) (n : Int) (hn : n = c.toNat) (w : World) (h : Holds B k acc w) (hlen : acc.length ≤ 100000000) (hBw : B ≤ w.heap.size) :
    Calls Try.prog 68 #[.pointer (some ⟨k, 0, none⟩), .int .u8 n] w fun e w' => e = .returned .nilIface ∧ Holds B k (acc ++ [c]) w' ∧ Below B w w' ∧ Lib.OthersKept 5 (some k) w w' :=
  (bWriteByte B k _ n w h (by rw [Lib.byteCells_length]; omega) hBw).mono fun _ _ ⟨e, h1, h2, h3⟩ => ⟨e, Holds.byte h1 hn, h2, h3⟩
theorem wText (B k : Nat) (acc l : List UInt8) (s : ByteArray) (hs : s.data.toList = l) (w : World) (h : Holds B k acc w) (hlen : acc.length + s.size ≤ 100000000) (hBw : B ≤ w.heap.size) :
    Calls Try.prog 81 #[.pointer (some ⟨k, 0, none⟩), .string s] w fun e w' => e = .returned (.tuple #[.int .i64 s.size, .nilIface]) ∧ Holds B k (acc ++ l) w' ∧ Below B w w' ∧ Lib.OthersKept 5 (some k) w w' :=
  (bWriteString B k _ s w h (by rw [Lib.byteCells_length]; omega) hBw).mono fun _ _ ⟨e, h1, h2, h3⟩ => ⟨e, Holds.text h1 hs, h2, h3⟩
/-- the quoting lies in a box -/
def Qbox (q : Nat) (W : World) : Prop := W.heap[q]? = some (.cells #[.string ⟨#[92, 120]⟩, .string ⟨#[34, 92, 110]⟩, .string ⟨#[34, 92, 10]⟩, .int .i64 3] 50)
theorem qbox_new (W : World) : Qbox W.heap.size (W.alloc (.cells #[.string ⟨#[92, 120]⟩, .string ⟨#[34, 92, 110]⟩, .string ⟨#[34, 92, 10]⟩, .int .i64 3] 50)) := by
  show (W.heap.push _)[W.heap.size]? = _
  rw [Array.getElem?_push, if_pos rfl]
theorem qbox_stays {k q : Nat} {W W' : World} (h : Qbox q W) (hne : q ≠ k) (hk : Lib.OthersKept 5 (some k) W W') : Qbox q W' :=
  hk q _ h (fun e => hne (Option.some.inj e)) (fun c fz e => by cases e)
theorem qbox_cells {q : Nat} {W : World} (h : Qbox q W) : W.cell? ⟨q, 0, none⟩ = some (.string ⟨#[92, 120]⟩) ∧ W.cell? ⟨q, 1, none⟩ = some (.string ⟨#[34, 92, 110]⟩) ∧ W.cell? ⟨q, 2, none⟩ = some (.string ⟨#[34, 92, 10]⟩) ∧ W.cell? ⟨q, 3, none⟩ = some (.int .i64 3) := by
  unfold Qbox at h
  refine ⟨?_, ?_, ?_, ?_⟩ <;> simp [World.cell?, h]
theorem mk_at {i : Nat} {x : UInt8} (hx : (⟨#[34, 92, 110]⟩ : ByteArray).data[i]? = some x) (h : i < (⟨#[34, 92, 110]⟩ : ByteArray).size) : (⟨#[34, 92, 110]⟩ : ByteArray)[i]'h = x := by
  obtain ⟨h2, e⟩ := Array.getElem?_eq_some_iff.1 hx
  exact e
theorem mark_none : ∀ n : Fin 256, n.val ≠ 34 → n.val ≠ 92 → n.val ≠ 10 → Lib.indexByte ((⟨#[34, 92, 10]⟩ : ByteArray).extract 0 3).data.toList (UInt8.ofNat n.val) = -1 := by decide +kernel
set_option maxHeartbeats 1000000 in
theorem putByte_any (b : UInt8) (acc : List UInt8) (B k : Nat) (w : World) (h : Holds B k acc w) (hk : k < w.heap.size) (hlen : acc.length ≤ 90000000) (hBw : B ≤ w.heap.size) :
    Calls Try.prog 70 #[pq, .pointer (some ⟨k, 0, none⟩), .int .u8 b.toNat] w fun e w' => e = .returned (.tuple #[]) ∧ Holds B k (acc ++ Qm.esc b) w' ∧ Below B w w' := by
  have hb := b.toNat_lt
  have hH0 : Holds B k acc (w.alloc (.cells #[.string ⟨#[92, 120]⟩, .string ⟨#[34, 92, 110]⟩, .string ⟨#[34, 92, 10]⟩, .int .i64 3] 50)) := h.alloc _
  have hq0 := qbox_new w
  have hB0 := (Below.refl B w).alloc hBw (.cells #[.string ⟨#[92, 120]⟩, .string ⟨#[34, 92, 110]⟩, .string ⟨#[34, 92, 10]⟩, .int .i64 3] 50)
  have hz0 := hB0.size
  have hne : w.heap.size ≠ k := by omega
  by_cases hp : Qm.plain b.toNat = true
  · have he : Qm.esc b = [b] := by rw [Qm.esc, if_pos hp]
    rw [he]
    go_enter Try.func70, Try.ntmps70
    go_wp2_with (go_at_call 79; refine (standsForItself_any _ _).mono ?_; rintro e w' ⟨rfl, hw⟩; subst w')
    refine (wByte B k acc b _ rfl _ hH0 (by omega) (by omega)).mono ?_
    rintro e w1 ⟨rfl, h1, b1, k1⟩
    go_wp2_with fail
    exact bodyPost_ret (v := .tuple #[]) (by simp [results, Try.results70]) rfl ⟨rfl, h1, hB0.trans b1⟩
  · have hp' : Qm.plain b.toNat = false := by simpa using hp
    by_cases hm : b = 34 ∨ b = 92 ∨ b = 10
    · obtain ⟨x, i, hx, hix, he, hmk⟩ : ∃ (x : UInt8) (i : Nat), i < 3 ∧ Lib.indexByte ((⟨#[34, 92, 10]⟩ : ByteArray).extract 0 3).data.toList ((b.toNat : Int).toNat.toUInt8) = (i : Int) ∧ Qm.esc b = [92, x] ∧ (⟨#[34, 92, 110]⟩ : ByteArray).data[i]? = some x := by
        rcases hm with rfl | rfl | rfl
        · exact ⟨34, 0, by omega, by decide +kernel, by decide +kernel, by decide +kernel⟩
        · exact ⟨92, 1, by omega, by decide +kernel, by decide +kernel, by decide +kernel⟩
        · exact ⟨110, 2, by omega, by decide +kernel, by decide +kernel, by decide +kernel⟩
      rw [he]
      clear he hm
      go_enter Try.func70, Try.ntmps70
      go_wp2_with (go_at_call 79; refine (standsForItself_any _ _).mono ?_; rintro e w' ⟨rfl, hw⟩; subst w')
      refine (indexByte_lib _ _ _).mono ?_
      rintro e w' ⟨rfl, hw⟩
      subst w'
      rw [hix]
      have hi0 : (0 : Int) ≤ (i : Int) := by omega
      have hi3 : (i : Int) < 3 := by omega
      generalize w.alloc (.cells #[.string ⟨#[92, 120]⟩, .string ⟨#[34, 92, 110]⟩, .string ⟨#[34, 92, 10]⟩, .int .i64 3] 50) = W0 at *
      go_wp2_with fail
      refine (wByte B k acc 92 92 rfl _ hH0 (by omega) (by omega)).mono ?_
      rintro e w1 ⟨rfl, h1, b1, k1⟩
      obtain ⟨_, c1, _, _⟩ := qbox_cells (qbox_stays hq0 hne k1)
      have hz1 := b1.size
      go_wp2_with fail
      rw [mk_at hmk]
      refine (wByte B k _ x _ rfl _ h1 (by simp; omega) (by omega)).mono ?_
      rintro e w2 ⟨rfl, h2, b2, k2⟩
      go_wp2_with fail
      exact bodyPost_ret (v := .tuple #[]) (by simp [results, Try.results70]) rfl ⟨rfl, by simpa using h2, (hB0.trans b1).trans b2⟩
    · have t10 : ¬ (b.toNat = 10) := fun h => hm (.inr (.inr (UInt8.toNat_inj.1 h)))
      have t34 : ¬ (b.toNat = 34) := fun h => hm (.inl (UInt8.toNat_inj.1 h))
      have t92 : ¬ (b.toNat = 92) := fun h => hm (.inr (.inl (UInt8.toNat_inj.1 h)))
      have hix : Lib.indexByte ((⟨#[34, 92, 10]⟩ : ByteArray).extract 0 3).data.toList ((b.toNat : Int).toNat.toUInt8) = -1 := by
        rw [Int.toNat_natCast]
        exact mark_none ⟨b.toNat, hb⟩ t34 t92 t10
      have he : Qm.esc b = [92, 120, Qm.hexd (b.toNat / 16), Qm.hexd (b.toNat % 16)] := by rw [Qm.esc, if_neg hp, if_neg (fun h => hm (.inr (.inr h))), if_neg (fun h => hm (h.elim .inl (fun h => .inr (.inl h))))]
      rw [he]
      clear he hm
      have q1 : (0 : Int) ≤ (b.toNat : Int) / 16 := by omega
      have q2 : (b.toNat : Int) / 16 < 16 := by omega
      have q3 : (0 : Int) ≤ (b.toNat : Int) % 16 := by omega
      have q4 : (b.toNat : Int) % 16 < 16 := by omega
      go_enter Try.func70, Try.ntmps70
      go_wp2_with (go_at_call 79; refine (standsForItself_any _ _).mono ?_; rintro e w' ⟨rfl, hw⟩; subst w')
      refine (indexByte_lib _ _ _).mono ?_
      rintro e w' ⟨rfl, hw⟩
      subst w'
      rw [hix]
      generalize w.alloc (.cells #[.string ⟨#[92, 120]⟩, .string ⟨#[34, 92, 110]⟩, .string ⟨#[34, 92, 10]⟩, .int .i64 3] 50) = W0 at *
      obtain ⟨c0, _, _, _⟩ := qbox_cells hq0
      go_wp2_with fail
      refine (wText B k acc [92, 120] _ rfl _ hH0 (by show acc.length + 2 ≤ _; omega) (by omega)).mono ?_
      rintro e w1 ⟨rfl, h1, b1, k1⟩
      have hz1 := b1.size
      go_wp2_with fail
      rw [hex_at]
      refine (wByte B k _ (Qm.hexd (b.toNat / 16)) _ rfl _ h1 (by simp; omega) (by omega)).mono ?_
      rintro e w2 ⟨rfl, h2, b2, k2⟩
      have hz2 := b2.size
      go_wp2_with fail
      rw [hex_at]
      refine (wByte B k _ (Qm.hexd (b.toNat % 16)) _ rfl _ h2 (by simp; omega) (by omega)).mono ?_
      rintro e w3 ⟨rfl, h3, b3, k3⟩
      go_wp2_with fail
      exact bodyPost_end (v := .tuple #[]) (by simp [results, Try.results70]) rfl ⟨rfl, by simpa using h3, ((hB0.trans b1).trans b2).trans b3⟩
end Go.Proofs.Ytpgpkdeiapeoiaa
/- Contracts: a byte between quotes, as JSON has it, by the program. -/
namespace Go.Proofs.Ytpgpkdeiapeoiaa
open Go.RowKit
abbrev jpq : Value := .agg #[.string ⟨#[92, 117, 48, 48]⟩, .string ⟨#[34, 92, 47, 98, 102, 110, 114, 116]⟩, .string ⟨#[34, 92, 47, 8, 12, 10, 13, 9]⟩, .int .i64 2]
set_option maxHeartbeats 400000 in
theorem jsonQuoting_any (w : World) :
    Calls Try.prog 46 #[] w fun e w' => e = .returned jpq ∧ Below w.heap.size w w' := by
  go_enter Try.func46, Try.ntmps46
  go_wp2_with fail
  exact bodyPost_ret (v := jpq) (by simp [results, Try.results46, go_sem]) rfl ⟨rfl, (by (repeat' (first | assumption | exact Below.refl _ _ | refine Below.alloc ?_ ?_ _ | refine Below.setCell ?_ ?_ _ | refine Below.drew ?_ | refine below_drewN ?_ _)) <;> (first | omega | (simp <;> omega)))⟩
/-- the quoting lies in a box -/
def JQbox (q : Nat) (W : World) : Prop := W.heap[q]? = some (.cells #[.string ⟨#[92, 117, 48, 48]⟩, .string ⟨#[34, 92, 47, 98, 102, 110, 114, 116]⟩, .string ⟨#[34, 92, 47, 8, 12, 10, 13, 9]⟩, .int .i64 2] 50)
theorem jqbox_new (W : World) : JQbox W.heap.size (W.alloc (.cells #[.string ⟨#[92, 117, 48, 48]⟩, .string ⟨#[34, 92, 47, 98, 102, 110, 114, 116]⟩, .string ⟨#[34, 92, 47, 8, 12, 10, 13, 9]⟩, .int .i64 2] 50)) := by
  show (W.heap.push _)[W.heap.size]? = _
  rw [Array.getElem?_push, if_pos rfl]
theorem jqbox_stays {k q : Nat} {W W' : World} (h : JQbox q W) (hne : q ≠ k) (hk : Lib.OthersKept 5 (some k) W W') : JQbox q W' :=
  hk q _ h (fun e => hne (Option.some.inj e)) (fun c fz e => by cases e)
theorem jqbox_cells {q : Nat} {W : World} (h : JQbox q W) : W.cell? ⟨q, 0, none⟩ = some (.string ⟨#[92, 117, 48, 48]⟩) ∧ W.cell? ⟨q, 1, none⟩ = some (.string ⟨#[34, 92, 47, 98, 102, 110, 114, 116]⟩) ∧ W.cell? ⟨q, 2, none⟩ = some (.string ⟨#[34, 92, 47, 8, 12, 10, 13, 9]⟩) ∧ W.cell? ⟨q, 3, none⟩ = some (.int .i64 2) := by
  unfold JQbox at h
  refine ⟨?_, ?_, ?_, ?_⟩ <;> simp [World.cell?, h]
theorem jmk_at {i : Nat} {x : UInt8} (hx : (⟨#[34, 92, 47, 98, 102, 110, 114, 116]⟩ : ByteArray).data[i]? = some x) (h : i < (⟨#[34, 92, 47, 98, 102, 110, 114, 116]⟩ : ByteArray).size) : (⟨#[34, 92, 47, 98, 102, 110, 114, 116]⟩ : ByteArray)[i]'h = x := by
  obtain ⟨h2, e⟩ := Array.getElem?_eq_some_iff.1 hx
  exact e
theorem jmark_none : ∀ n : Fin 256, n.val ≠ 34 → n.val ≠ 92 → Lib.indexByte ((⟨#[34, 92, 47, 8, 12, 10, 13, 9]⟩ : ByteArray).extract 0 2).data.toList (UInt8.ofNat n.val) = -1 := by decide +kernel
set_option maxHeartbeats 1000000 in
theorem jputByte_any (b : UInt8) (acc : List UInt8) (B k : Nat) (w : World) (h : Holds B k acc w) (hk : k < w.heap.size) (hlen : acc.length ≤ 90000000) (hBw : B ≤ w.heap.size) :
    Calls Try.prog 70 #[jpq, .pointer (some ⟨k, 0, none⟩), .int .u8 b.toNat] w fun e w' => e = .returned (.tuple #[]) ∧ Holds B k (acc ++ Qm.jesc b) w' ∧ Below B w w' := by
  have hb := b.toNat_lt
  have hH0 : Holds B k acc (w.alloc (.cells #[.string ⟨#[92, 117, 48, 48]⟩, .string ⟨#[34, 92, 47, 98, 102, 110, 114, 116]⟩, .string ⟨#[34, 92, 47, 8, 12, 10, 13, 9]⟩, .int .i64 2] 50)) := h.alloc _
  have hq0 := jqbox_new w
  have hB0 := (Below.refl B w).alloc hBw (.cells #[.string ⟨#[92, 117, 48, 48]⟩, .string ⟨#[34, 92, 47, 98, 102, 110, 114, 116]⟩, .string ⟨#[34, 92, 47, 8, 12, 10, 13, 9]⟩, .int .i64 2] 50)
  have hz0 := hB0.size
  have hne : w.heap.size ≠ k := by omega
  by_cases hp : Qm.plain b.toNat = true
  · have he : Qm.jesc b = [b] := Qm.jesc_plain hp
    rw [he]
    go_enter Try.func70, Try.ntmps70
    go_wp2_with (go_at_call 79; refine (standsForItself_any _ _).mono ?_; rintro e w' ⟨rfl, hw⟩; subst w')
    refine (wByte B k acc b _ rfl _ hH0 (by omega) (by omega)).mono ?_
    rintro e w1 ⟨rfl, h1, b1, k1⟩
    go_wp2_with fail
    exact bodyPost_ret (v := .tuple #[]) (by simp [results, Try.results70]) rfl ⟨rfl, h1, hB0.trans b1⟩
  · have hp' : Qm.plain b.toNat = false := by simpa using hp
    by_cases hm : b = 34 ∨ b = 92
    · obtain ⟨x, i, hx, hix, he, hmk⟩ : ∃ (x : UInt8) (i : Nat), i < 2 ∧ Lib.indexByte ((⟨#[34, 92, 47, 8, 12, 10, 13, 9]⟩ : ByteArray).extract 0 2).data.toList ((b.toNat : Int).toNat.toUInt8) = (i : Int) ∧ Qm.jesc b = [92, x] ∧ (⟨#[34, 92, 47, 98, 102, 110, 114, 116]⟩ : ByteArray).data[i]? = some x := by
        rcases hm with rfl | rfl
        · exact ⟨34, 0, by omega, by decide +kernel, by decide +kernel, by decide +kernel⟩
        · exact ⟨92, 1, by omega, by decide +kernel, by decide +kernel, by decide +kernel⟩
      rw [he]
      clear he hm
      go_enter Try.func70, Try.ntmps70
      go_wp2_with (go_at_call 79; refine (standsForItself_any _ _).mono ?_; rintro e w' ⟨rfl, hw⟩; subst w')
      refine (indexByte_lib _ _ _).mono ?_
      rintro e w' ⟨rfl, hw⟩
      subst w'
      rw [hix]
      have hi0 : (0 : Int) ≤ (i : Int) := by omega
      have hi3 : (i : Int) < 2 := by omega
      have hi8 : (i : Int) < 8 := by omega
      generalize w.alloc (.cells #[.string ⟨#[92, 117, 48, 48]⟩, .string ⟨#[34, 92, 47, 98, 102, 110, 114, 116]⟩, .string ⟨#[34, 92, 47, 8, 12, 10, 13, 9]⟩, .int .i64 2] 50) = W0 at *
      go_wp2_with fail
      refine (wByte B k acc 92 92 rfl _ hH0 (by omega) (by omega)).mono ?_
      rintro e w1 ⟨rfl, h1, b1, k1⟩
      obtain ⟨_, c1, _, _⟩ := jqbox_cells (jqbox_stays hq0 hne k1)
      have hz1 := b1.size
      go_wp2_with fail
      rw [jmk_at hmk]
      refine (wByte B k _ x _ rfl _ h1 (by simp; omega) (by omega)).mono ?_
      rintro e w2 ⟨rfl, h2, b2, k2⟩
      go_wp2_with fail
      exact bodyPost_ret (v := .tuple #[]) (by simp [results, Try.results70]) rfl ⟨rfl, by simpa using h2, (hB0.trans b1).trans b2⟩
    · have t34 : ¬ (b.toNat = 34) := fun h => hm (.inl (UInt8.toNat_inj.1 h))
      have t92 : ¬ (b.toNat = 92) := fun h => hm (.inr (UInt8.toNat_inj.1 h))
      have hix : Lib.indexByte ((⟨#[34, 92, 47, 8, 12, 10, 13, 9]⟩ : ByteArray).extract 0 2).data.toList ((b.toNat : Int).toNat.toUInt8) = -1 := by
        rw [Int.toNat_natCast]
        exact jmark_none ⟨b.toNat, hb⟩ t34 t92
      have he : Qm.jesc b = [92, 117, 48, 48, Qm.hexd (b.toNat / 16), Qm.hexd (b.toNat % 16)] := by rw [Qm.jesc, if_neg hm, if_neg hp]
      rw [he]
      clear he hm
      have q1 : (0 : Int) ≤ (b.toNat : Int) / 16 := by omega
      have q2 : (b.toNat : Int) / 16 < 16 := by omega
      have q3 : (0 : Int) ≤ (b.toNat : Int) % 16 := by omega
      have q4 : (b.toNat : Int) % 16 < 16 := by omega
      go_enter Try.func70, Try.ntmps70
      go_wp2_with (go_at_call 79; refine (standsForItself_any _ _).mono ?_; rintro e w' ⟨rfl, hw⟩; subst w')
      refine (indexByte_lib _ _ _).mono ?_
      rintro e w' ⟨rfl, hw⟩
      subst w'
      rw [hix]
      generalize w.alloc (.cells #[.string ⟨#[92, 117, 48, 48]⟩, .string ⟨#[34, 92, 47, 98, 102, 110, 114, 116]⟩, .string ⟨#[34, 92, 47, 8, 12, 10, 13, 9]⟩, .int .i64 2] 50) = W0 at *
      obtain ⟨c0, _, _, _⟩ := jqbox_cells hq0
      go_wp2_with fail
      refine (wText B k acc [92, 117, 48, 48] _ rfl _ hH0 (by show acc.length + 4 ≤ _; omega) (by omega)).mono ?_
      rintro e w1 ⟨rfl, h1, b1, k1⟩
      have hz1 := b1.size
      go_wp2_with fail
      rw [hex_at]
      refine (wByte B k _ (Qm.hexd (b.toNat / 16)) _ rfl _ h1 (by simp; omega) (by omega)).mono ?_
      rintro e w2 ⟨rfl, h2, b2, k2⟩
      have hz2 := b2.size
      go_wp2_with fail
      rw [hex_at]
      refine (wByte B k _ (Qm.hexd (b.toNat % 16)) _ rfl _ h2 (by simp; omega) (by omega)).mono ?_
      rintro e w3 ⟨rfl, h3, b3, k3⟩
      go_wp2_with fail
      exact bodyPost_end (v := .tuple #[]) (by simp [results, Try.results70]) rfl ⟨rfl, by simpa using h3, ((hB0.trans b1).trans b2).trans b3⟩
end Go.Proofs.Ytpgpkdeiapeoiaa
/- Contracts: QuotePut of both sides. -/
namespace Go.Proofs.Ytpgpkdeiapeoiaa
open Go.RowKit
/-- the quoting lies in its box, and nothing up to it changed -/
abbrev HeldQb (W0 : World) (q : Nat) (W : World) : Prop := (W.cell? ⟨q, 0, none⟩ = some (.string ⟨#[92, 120]⟩) ∧ W.cell? ⟨q, 1, none⟩ = some (.string ⟨#[34, 92, 110]⟩) ∧ W.cell? ⟨q, 2, none⟩ = some (.string ⟨#[34, 92, 10]⟩) ∧ W.cell? ⟨q, 3, none⟩ = some (.int .i64 3)) ∧ Below (q + 1) W0 W
theorem HeldQb.grow {W0 w w' : World} {q : Nat} (h : HeldQb W0 q w) (hb : Below (q + 1) w w') : HeldQb W0 q w' := by
  obtain ⟨⟨x0, x1, x2, x3⟩, h3⟩ := h
  exact ⟨⟨(hb.cell (p := ⟨q, 0, none⟩) (Nat.lt_succ_self _)).trans x0, (hb.cell (p := ⟨q, 1, none⟩) (Nat.lt_succ_self _)).trans x1, (hb.cell (p := ⟨q, 2, none⟩) (Nat.lt_succ_self _)).trans x2, (hb.cell (p := ⟨q, 3, none⟩) (Nat.lt_succ_self _)).trans x3⟩, h3.trans hb⟩
theorem HeldQb.drew {W0 w : World} {q : Nat} (h : HeldQb W0 q w) : HeldQb W0 q w.drew := h.grow ((Below.refl _ _).drew)
theorem holds_lt {B k : Nat} {acc : List UInt8} {w : World} (h : Holds B k acc w) : k < w.heap.size := by
  rcases h with ⟨_, v, h, _⟩ | ⟨_, v, h, _⟩ <;> exact (Array.getElem?_eq_some_iff.1 h).1
set_option maxHeartbeats 1000000 in
theorem put_any (s : ByteArray) (w : World) (hs : s.size ≤ 20000000) :
    Calls Try.prog 49 #[pq, .string s] w fun e w' => e = .returned (.string ⟨(Qm.quote s.data.toList).toArray⟩) ∧ Below w.heap.size w w' := by
  go_enter Try.func49, Try.ntmps49
  go_wp2_with fail
  have hq0 := qbox_new w
  have hB0 := (Below.refl _ w).alloc (Nat.le_refl _) (.cells #[.string ⟨#[92, 120]⟩, .string ⟨#[34, 92, 110]⟩, .string ⟨#[34, 92, 10]⟩, .int .i64 3] 50)
  have h0 : Holds (w.heap.size + 1) (w.heap.size + 1) [] ((w.alloc (.cells #[.string ⟨#[92, 120]⟩, .string ⟨#[34, 92, 110]⟩, .string ⟨#[34, 92, 10]⟩, .int .i64 3] 50)).alloc (.cells #[.pointer none, .slice none 0 0] 48)) := by
    have := Lib.IsBuilderF.of (Lib.fresh_isBuilder 48 5 (w.alloc (.cells #[.string ⟨#[92, 120]⟩, .string ⟨#[34, 92, 110]⟩, .string ⟨#[34, 92, 10]⟩, .int .i64 3] 50)))
    simp at this
    exact this
  have b0 : Below (w.heap.size + 1) (w.alloc (.cells #[.string ⟨#[92, 120]⟩, .string ⟨#[34, 92, 110]⟩, .string ⟨#[34, 92, 10]⟩, .int .i64 3] 50)) ((w.alloc (.cells #[.string ⟨#[92, 120]⟩, .string ⟨#[34, 92, 110]⟩, .string ⟨#[34, 92, 10]⟩, .int .i64 3] 50)).alloc (.cells #[.pointer none, .slice none 0 0] 48)) := (Below.refl _ _).alloc (by simp) _
  have hsz : w.heap.size + 1 ≤ (w.alloc (.cells #[.string ⟨#[92, 120]⟩, .string ⟨#[34, 92, 110]⟩, .string ⟨#[34, 92, 10]⟩, .int .i64 3] 50)).heap.size := by simp
  generalize w.alloc (.cells #[.string ⟨#[92, 120]⟩, .string ⟨#[34, 92, 110]⟩, .string ⟨#[34, 92, 10]⟩, .int .i64 3] 50) = W0 at *
  have hz0 := b0.size
  refine (wByte _ _ [] 34 34 rfl _ h0 (by simp) (by omega)).mono ?_
  rintro e w1 ⟨rfl, h1, b1, k1⟩
  have hB1 := b0.trans b1
  clear h0 b0 b1 k1 hz0
  have HQ : Hid (∀ W, Below (w.heap.size + 1) W0 W → Qbox w.heap.size W) := fun W h => (h.block _ (by omega)).trans hq0
  have HB : Hid (∀ W, Below (w.heap.size + 1) W0 W → Below w.heap.size w W) := fun W h => hB0.trans (h.mono (by omega))
  clear hq0 hB0
  go_wp2_with fail
  go_loopw [10] (fun i wr => ∃ k : Nat, k ≤ s.size ∧ i = .int .i64 k ∧ Holds (w.heap.size + 1) (w.heap.size + 1) (34 :: (s.data.toList.take k).flatMap Qm.esc) wr ∧ Below (w.heap.size + 1) W0 wr) (fun i _ => s.size - (intOf i).toNat)
  case atStart => exact ⟨0, Nat.zero_le _, rfl, h1, hB1⟩
  case round =>
    obtain ⟨k, hk, rfl, hH, hB⟩ := hrel
    have hfl := Qm.flat_length (s.data.toList.take k)
    have htl : (s.data.toList.take k).length ≤ k := List.length_take_le _ _
    have hz := hB.size
    have hkk := holds_lt hH
    obtain ⟨c0, c1, c2, c3⟩ := qbox_cells (HQ.out _ hB)
    by_cases hlt : k < s.size
    · have HS : Hid ((s.data.toList.take (k + 1)).flatMap Qm.esc = (s.data.toList.take k).flatMap Qm.esc ++ Qm.esc s[k]) := Qm.flat_take s k hlt
      have hS0 : HeldQb W0 w.heap.size wr := ⟨⟨c0, c1, c2, c3⟩, hB⟩
      have hkl : (k : Int) < (s.size : Int) := by omega
      clear c0 c1 c2 c3
      go_wp2_with fail
      refine wp_region_held_drew (S := fun w' => HeldQb W0 w.heap.size w') (by kernel_rfl) hS0.drew (fun hHeld => ?_)
      refine wpAnyH_take (i := 0) (v := pq) rfl (by kernel_rfl) (by kernel_rfl) (by kernel_rfl) (fun _ _ _ h => h) (Or.inl ⟨by rfl, ?_⟩) (by assumption) ?_
      · intro w hSw
        (try dsimp only at hSw)
        go_simp
      (try simp only [Act.put, List.getElem_toArray, List.getElem_cons_zero, List.setIfInBounds_toArray, List.set_cons_zero, List.set_cons_succ])
      refine wpAnyH_take (i := 1) (v := .string s) rfl (by kernel_rfl) (by kernel_rfl) (by kernel_rfl) (fun _ _ _ h => h) (Or.inl ⟨by rfl, ?_⟩) (by assumption) ?_
      · intro w hSw
        (try dsimp only at hSw)
        go_simp
      (try simp only [Act.put, List.getElem_toArray, List.getElem_cons_zero, List.getElem_cons_succ, List.setIfInBounds_toArray, List.set_cons_zero, List.set_cons_succ])
      refine wpAnyH_take (i := 2) (v := .int .i64 k) rfl (by kernel_rfl) (by kernel_rfl) (by kernel_rfl) (fun _ _ _ h => h) (Or.inl ⟨by rfl, ?_⟩) (by assumption) ?_
      · intro w hSw
        (try dsimp only at hSw)
        go_simp
      (try simp only [Act.put, List.getElem_toArray, List.getElem_cons_zero, List.getElem_cons_succ, List.setIfInBounds_toArray, List.set_cons_zero, List.set_cons_succ])
      refine wpAnyH_take (i := 3) (v := .int .u8 s[k].toNat) rfl (by kernel_rfl) (by kernel_rfl) (by kernel_rfl) (fun _ _ _ h => h) (Or.inl ⟨by rfl, ?_⟩) (by assumption) ?_
      · intro w hSw
        (try dsimp only at hSw)
        go_simp
      (try simp only [Act.put, List.getElem_toArray, List.getElem_cons_zero, List.getElem_cons_succ, List.setIfInBounds_toArray, List.set_cons_zero, List.set_cons_succ])
      refine wpAnyH_ready (rs := [4]) (by kernel_rfl) (by simp) ?_
      refine AllReadyH.cons rfl (fun K hK => ?_) AllReadyH.nil
      go_simp
      refine (putByte_any s[k] _ (w.heap.size + 1) (w.heap.size + 1) _ (show Holds _ _ _ wr.drew from hH) (by show _ < wr.heap.size; exact hkk) (by rw [List.length_cons]; omega) (by show _ ≤ wr.heap.size; omega)).mono ?_
      rintro r w2 ⟨rfl, hH2, hb2⟩
      have hS := HeldQb.grow (by assumption) hb2
      go_wp2_with fail
      refine hK.out _ _ hS (fun hHeld => ?_)
      clear hK K hS
      refine wpAnyH_done (by kernel_rfl) ?_ _
      go_wp2_with fail
      go_round
      case rel => exact ⟨k + 1, by omega, by go_num, by rw [HS.out]; exact hH2, hHeld.2⟩
      case measure => simp [intOf]; omega
    · have ht : s.data.toList.take k = s.data.toList := List.take_of_length_le (by rw [Qm.len_eq]; omega)
      rw [ht] at hH hfl htl
      clear ht
      have hkl : ¬ (k : Int) < (s.size : Int) := by omega
      go_wp2_with fail
      refine (wByte _ _ _ 34 34 rfl _ hH (by rw [List.length_cons]; omega) (by omega)).mono ?_
      rintro e w2 ⟨rfl, h2, b2, k2⟩
      have b2' := hB.trans b2
      have hz2 := b2'.size
      go_wp2_with fail
      refine (bString _ _ _ _ h2 (by omega)).mono ?_
      rintro e w3 ⟨rfl, h3, b3, k3⟩
      have hBe := HB.out _ (b2'.trans b3)
      go_wp2_with fail
      go_ret
      exact ⟨rfl, hBe⟩
end Go.Proofs.Ytpgpkdeiapeoiaa
/- Contracts: a text between quotes, as JSON has it. -/
namespace Go.Proofs.Ytpgpkdeiapeoiaa
open Go.RowKit
set_option maxHeartbeats 1000000 in
theorem l7Quote_any (s : ByteArray) (w : World) (hs : s.size ≤ 10000000) :
    Calls Try.prog 43 #[.string s] w fun e w' => e = .returned (.string ⟨(Qm.jquote s.data.toList).toArray⟩) ∧ Below w.heap.size w w' := by
  go_enter Try.func43, Try.ntmps43
  go_wp2_with fail
  go_loopw [3, 4] (fun o i wr => ∃ k : Nat, k ≤ s.size ∧ i = .int .i64 k ∧ o = .string ⟨(34 :: (s.data.toList.take k).flatMap Qm.jesc).toArray⟩ ∧ Below w.heap.size w wr) (fun _ i _ => s.size - (intOf i).toNat)
  case atStart => exact ⟨0, Nat.zero_le _, rfl, rfl, Below.refl _ _⟩
  case round =>
    obtain ⟨k, hk, rfl, rfl, hB⟩ := hrel
    have hfl := Qm.jflat_length (s.data.toList.take k)
    have htl : (s.data.toList.take k).length ≤ k := List.length_take_le _ _
    by_cases hlt : k < s.size
    · have HS : Hid ((s.data.toList.take (k + 1)).flatMap Qm.jesc = (s.data.toList.take k).flatMap Qm.jesc ++ Qm.jesc s[k]) := Qm.jflat_take s k hlt
      have hel := Qm.jesc_length s[k]
      have hsz1 := arr_size (34 :: (s.data.toList.take k).flatMap Qm.jesc)
      have hsz2 := arr_size (Qm.jesc s[k])
      rw [List.length_cons] at hsz1
      go_wp2_with (go_at_call 63; refine (l7Escape_any _ _).mono ?_; rintro e w1 ⟨rfl, hb1⟩)
      go_roundw
      case rel => exact ⟨k + 1, by omega, by go_num, by rw [arr_append, HS.out, List.cons_append], hB.trans (hb1.mono hB.size)⟩
      case measure => simp [intOf]; omega
    · have ht : s.data.toList.take k = s.data.toList := List.take_of_length_le (by rw [Qm.len_eq]; omega)
      have HT : Hid (Qm.jquote s.data.toList = 34 :: ((s.data.toList.take k).flatMap Qm.jesc ++ [34])) := by unfold Hid; rw [ht]; rfl
      clear ht
      generalize (s.data.toList.take k).flatMap Qm.jesc = F at *
      have hsz1 := arr_size (34 :: F)
      rw [List.length_cons] at hsz1
      go_wp2_with fail
      go_ret
      exact ⟨ret_str (by rw [HT.out, show (⟨#[34]⟩ : ByteArray) = ⟨[34].toArray⟩ from rfl, arr_append]; rfl), hB⟩

/-- the quoting lies in its box, and nothing up to it changed -/
abbrev JHeldQb (W0 : World) (q : Nat) (W : World) : Prop := (W.cell? ⟨q, 0, none⟩ = some (.string ⟨#[92, 117, 48, 48]⟩) ∧ W.cell? ⟨q, 1, none⟩ = some (.string ⟨#[34, 92, 47, 98, 102, 110, 114, 116]⟩) ∧ W.cell? ⟨q, 2, none⟩ = some (.string ⟨#[34, 92, 47, 8, 12, 10, 13, 9]⟩) ∧ W.cell? ⟨q, 3, none⟩ = some (.int .i64 2)) ∧ Below (q + 1) W0 W
theorem JHeldQb.grow {W0 w w' : World} {q : Nat} (h : JHeldQb W0 q w) (hb : Below (q + 1) w w') : JHeldQb W0 q w' := by
  obtain ⟨⟨x0, x1, x2, x3⟩, h3⟩ := h
  exact ⟨⟨(hb.cell (p := ⟨q, 0, none⟩) (Nat.lt_succ_self _)).trans x0, (hb.cell (p := ⟨q, 1, none⟩) (Nat.lt_succ_self _)).trans x1, (hb.cell (p := ⟨q, 2, none⟩) (Nat.lt_succ_self _)).trans x2, (hb.cell (p := ⟨q, 3, none⟩) (Nat.lt_succ_self _)).trans x3⟩, h3.trans hb⟩
theorem JHeldQb.drew {W0 w : World} {q : Nat} (h : JHeldQb W0 q w) : JHeldQb W0 q w.drew := h.grow ((Below.refl _ _).drew)
set_option maxHeartbeats 1000000 in
theorem jput_any (s : ByteArray) (w : World) (hs : s.size ≤ 10000000) :
    Calls Try.prog 49 #[jpq, .string s] w fun e w' => e = .returned (.string ⟨(Qm.jquote s.data.toList).toArray⟩) ∧ Below w.heap.size w w' := by
  go_enter Try.func49, Try.ntmps49
  go_wp2_with fail
  have hq0 := jqbox_new w
  have hB0 := (Below.refl _ w).alloc (Nat.le_refl _) (.cells #[.string ⟨#[92, 117, 48, 48]⟩, .string ⟨#[34, 92, 47, 98, 102, 110, 114, 116]⟩, .string ⟨#[34, 92, 47, 8, 12, 10, 13, 9]⟩, .int .i64 2] 50)
  have h0 : Holds (w.heap.size + 1) (w.heap.size + 1) [] ((w.alloc (.cells #[.string ⟨#[92, 117, 48, 48]⟩, .string ⟨#[34, 92, 47, 98, 102, 110, 114, 116]⟩, .string ⟨#[34, 92, 47, 8, 12, 10, 13, 9]⟩, .int .i64 2] 50)).alloc (.cells #[.pointer none, .slice none 0 0] 48)) := by
    have := Lib.IsBuilderF.of (Lib.fresh_isBuilder 48 5 (w.alloc (.cells #[.string ⟨#[92, 117, 48, 48]⟩, .string ⟨#[34, 92, 47, 98, 102, 110, 114, 116]⟩, .string ⟨#[34, 92, 47, 8, 12, 10, 13, 9]⟩, .int .i64 2] 50)))
    simp at this
    exact this
  have b0 : Below (w.heap.size + 1) (w.alloc (.cells #[.string ⟨#[92, 117, 48, 48]⟩, .string ⟨#[34, 92, 47, 98, 102, 110, 114, 116]⟩, .string ⟨#[34, 92, 47, 8, 12, 10, 13, 9]⟩, .int .i64 2] 50)) ((w.alloc (.cells #[.string ⟨#[92, 117, 48, 48]⟩, .string ⟨#[34, 92, 47, 98, 102, 110, 114, 116]⟩, .string ⟨#[34, 92, 47, 8, 12, 10, 13, 9]⟩, .int .i64 2] 50)).alloc (.cells #[.pointer none, .slice none 0 0] 48)) := (Below.refl _ _).alloc (by simp) _
  have hsz : w.heap.size + 1 ≤ (w.alloc (.cells #[.string ⟨#[92, 117, 48, 48]⟩, .string ⟨#[34, 92, 47, 98, 102, 110, 114, 116]⟩, .string ⟨#[34, 92, 47, 8, 12, 10, 13, 9]⟩, .int .i64 2] 50)).heap.size := by simp
  generalize w.alloc (.cells #[.string ⟨#[92, 117, 48, 48]⟩, .string ⟨#[34, 92, 47, 98, 102, 110, 114, 116]⟩, .string ⟨#[34, 92, 47, 8, 12, 10, 13, 9]⟩, .int .i64 2] 50) = W0 at *
  have hz0 := b0.size
  refine (wByte _ _ [] 34 34 rfl _ h0 (by simp) (by omega)).mono ?_
  rintro e w1 ⟨rfl, h1, b1, k1⟩
  have hB1 := b0.trans b1
  clear h0 b0 b1 k1 hz0
  have HQ : Hid (∀ W, Below (w.heap.size + 1) W0 W → JQbox w.heap.size W) := fun W h => (h.block _ (by omega)).trans hq0
  have HB : Hid (∀ W, Below (w.heap.size + 1) W0 W → Below w.heap.size w W) := fun W h => hB0.trans (h.mono (by omega))
  clear hq0 hB0
  go_wp2_with fail
  go_loopw [10] (fun i wr => ∃ k : Nat, k ≤ s.size ∧ i = .int .i64 k ∧ Holds (w.heap.size + 1) (w.heap.size + 1) (34 :: (s.data.toList.take k).flatMap Qm.jesc) wr ∧ Below (w.heap.size + 1) W0 wr) (fun i _ => s.size - (intOf i).toNat)
  case atStart => exact ⟨0, Nat.zero_le _, rfl, h1, hB1⟩
  case round =>
    obtain ⟨k, hk, rfl, hH, hB⟩ := hrel
    have hfl := Qm.jflat_length (s.data.toList.take k)
    have htl : (s.data.toList.take k).length ≤ k := List.length_take_le _ _
    have hz := hB.size
    have hkk := holds_lt hH
    obtain ⟨c0, c1, c2, c3⟩ := jqbox_cells (HQ.out _ hB)
    by_cases hlt : k < s.size
    · have HS : Hid ((s.data.toList.take (k + 1)).flatMap Qm.jesc = (s.data.toList.take k).flatMap Qm.jesc ++ Qm.jesc s[k]) := Qm.jflat_take s k hlt
      have hS0 : JHeldQb W0 w.heap.size wr := ⟨⟨c0, c1, c2, c3⟩, hB⟩
      have hkl : (k : Int) < (s.size : Int) := by omega
      clear c0 c1 c2 c3
      go_wp2_with fail
      refine wp_region_held_drew (S := fun w' => JHeldQb W0 w.heap.size w') (by kernel_rfl) hS0.drew (fun hHeld => ?_)
      refine wpAnyH_take (i := 0) (v := jpq) rfl (by kernel_rfl) (by kernel_rfl) (by kernel_rfl) (fun _ _ _ h => h) (Or.inl ⟨by rfl, ?_⟩) (by assumption) ?_
      · intro w hSw
        (try dsimp only at hSw)
        go_simp
      (try simp only [Act.put, List.getElem_toArray, List.getElem_cons_zero, List.setIfInBounds_toArray, List.set_cons_zero, List.set_cons_succ])
      refine wpAnyH_take (i := 1) (v := .string s) rfl (by kernel_rfl) (by kernel_rfl) (by kernel_rfl) (fun _ _ _ h => h) (Or.inl ⟨by rfl, ?_⟩) (by assumption) ?_
      · intro w hSw
        (try dsimp only at hSw)
        go_simp
      (try simp only [Act.put, List.getElem_toArray, List.getElem_cons_zero, List.getElem_cons_succ, List.setIfInBounds_toArray, List.set_cons_zero, List.set_cons_succ])
      refine wpAnyH_take (i := 2) (v := .int .i64 k) rfl (by kernel_rfl) (by kernel_rfl) (by kernel_rfl) (fun _ _ _ h => h) (Or.inl ⟨by rfl, ?_⟩) (by assumption) ?_
      · intro w hSw
        (try dsimp only at hSw)
        go_simp
      (try simp only [Act.put, List.getElem_toArray, List.getElem_cons_zero, List.getElem_cons_succ, List.setIfInBounds_toArray, List.set_cons_zero, List.set_cons_succ])
      refine wpAnyH_take (i := 3) (v := .int .u8 s[k].toNat) rfl (by kernel_rfl) (by kernel_rfl) (by kernel_rfl) (fun _ _ _ h => h) (Or.inl ⟨by rfl, ?_⟩) (by assumption) ?_
      · intro w hSw
        (try dsimp only at hSw)
        go_simp
      (try simp only [Act.put, List.getElem_toArray, List.getElem_cons_zero, List.getElem_cons_succ, List.setIfInBounds_toArray, List.set_cons_zero, List.set_cons_succ])
      refine wpAnyH_ready (rs := [4]) (by kernel_rfl) (by simp) ?_
      refine AllReadyH.cons rfl (fun K hK => ?_) AllReadyH.nil
      go_simp
      refine (jputByte_any s[k] _ (w.heap.size + 1) (w.heap.size + 1) _ (show Holds _ _ _ wr.drew from hH) (by show _ < wr.heap.size; exact hkk) (by rw [List.length_cons]; omega) (by show _ ≤ wr.heap.size; omega)).mono ?_
      rintro r w2 ⟨rfl, hH2, hb2⟩
      have hS := JHeldQb.grow (by assumption) hb2
      go_wp2_with fail
      refine hK.out _ _ hS (fun hHeld => ?_)
      clear hK K hS
      refine wpAnyH_done (by kernel_rfl) ?_ _
      go_wp2_with fail
      go_round
      case rel => exact ⟨k + 1, by omega, by go_num, by rw [HS.out]; exact hH2, hHeld.2⟩
      case measure => simp [intOf]; omega
    · have ht : s.data.toList.take k = s.data.toList := List.take_of_length_le (by rw [Qm.len_eq]; omega)
      rw [ht] at hH hfl htl
      clear ht
      have hkl : ¬ (k : Int) < (s.size : Int) := by omega
      go_wp2_with fail
      refine (wByte _ _ _ 34 34 rfl _ hH (by rw [List.length_cons]; omega) (by omega)).mono ?_
      rintro e w2 ⟨rfl, h2, b2, k2⟩
      have b2' := hB.trans b2
      have hz2 := b2'.size
      go_wp2_with fail
      refine (bString _ _ _ _ h2 (by omega)).mono ?_
      rintro e w3 ⟨rfl, h3, b3, k3⟩
      have hBe := HB.out _ (b2'.trans b3)
      go_wp2_with fail
      go_ret
      exact ⟨rfl, hBe⟩
end Go.Proofs.Ytpgpkdeiapeoiaa
/- Trees: a list of trees as it lies in memory. Its first, what stands below the first, and the rest. -/
namespace Go.Proofs.Ytpgpkdeiapeoiaa
open Go.RowKit
/-- a list of trees: kind, text, number, where its own list lies (with length and capacity), that list, the rest -/
inductive Fo
  | nil
  | cons (kind : Int) (text : ByteArray) (man exp : Int) (at_ : Option Addr) (cap : Nat) (kids : Fo) (next : Fo)
def Fo.len : Fo → Nat
  | .nil => 0
  | .cons _ _ _ _ _ _ _ next => next.len + 1
def Fo.size : Fo → Nat
  | .nil => 0
  | .cons _ _ _ _ _ _ kids next => kids.size + 1 + next.size
def Fo.deep : Fo → Nat
  | .nil => 0
  | .cons _ _ _ _ _ _ kids next => max (kids.deep + 1) next.deep
/-- what the laws' own measure counts -/
def Fo.wt : Fo → Nat
  | .nil => 0
  | .cons _ t _ _ _ _ kids next => t.size + kids.wt + 1 + next.wt
theorem Fo.len_wt (F : Fo) : F.len ≤ F.wt := by
  induction F with
  | nil => exact Nat.le_refl _
  | cons k t m e a c kids next _ ih => show next.len + 1 ≤ t.size + kids.wt + 1 + next.wt; omega
theorem Fo.size_wt (F : Fo) : F.size ≤ F.wt := by
  induction F with
  | nil => exact Nat.le_refl _
  | cons k t m e a c kids next ih1 ih2 => show kids.size + 1 + next.size ≤ t.size + kids.wt + 1 + next.wt; omega
/-- what is left, or -1 -/
def leftOf (need l : Nat) : Int := if need ≤ l then ((l - need : Nat) : Int) else -1
theorem Fo.len_le (F : Fo) : F.len ≤ F.size := by
  induction F with
  | nil => exact Nat.le_refl _
  | cons k t m e a c kids next _ ih => show next.len + 1 ≤ kids.size + 1 + next.size; omega
theorem Fo.deep_le (F : Fo) : F.deep ≤ F.size := by
  induction F with
  | nil => exact Nat.le_refl _
  | cons k t m e a c kids next ih1 ih2 => show max (kids.deep + 1) next.deep ≤ kids.size + 1 + next.size; omega
/-- the list lies from cell o of block b on -/
def Fo.From (w : World) : Fo → Nat → Nat → Prop
  | .nil, _, _ => True
  | .cons k t m e a c kids next, b, o =>
    (w.cell? ⟨b, o, none⟩ = some (.int .i64 k) ∧ w.cell? ⟨b, o + 1, none⟩ = some (.string t) ∧ w.cell? ⟨b, o + 2, none⟩ = some (.int .i64 m) ∧ w.cell? ⟨b, o + 3, none⟩ = some (.int .i64 e) ∧ w.cell? ⟨b, o + 4, none⟩ = some (.slice a kids.len c)) ∧
    (kids = .nil ∨ ∃ b' o', a = some ⟨b', o', none⟩ ∧ kids.From w b' o') ∧ kids.len ≤ c ∧ c ≤ maxLen ∧ t.size ≤ maxLen ∧ next.From w b (o + 5)
/-- the list of a slice -/
def Fo.In (w : World) (F : Fo) (a : Option Addr) : Prop := F = .nil ∨ ∃ b o, a = some ⟨b, o, none⟩ ∧ F.From w b o
theorem Fo.from_below {B : Nat} {w w' : World} (h : Below B w w') : ∀ (F : Fo) (b o : Nat), F.From w b o → (∀ b' o' v, w.cell? ⟨b', o', none⟩ = some v → b' < B) → F.From w' b o := by
  intro F
  induction F with
  | nil => intro b o _ _; trivial
  | cons k t m e a c kids next ih1 ih2 =>
    rintro b o ⟨⟨h1, h2, h3, h4, h5⟩, hk, hc, hm, ht, hn⟩ hlt
    have hb : b < B := hlt _ _ _ h1
    refine ⟨⟨(h.cell (p := ⟨b, o, none⟩) hb).trans h1, (h.cell (p := ⟨b, o + 1, none⟩) hb).trans h2, (h.cell (p := ⟨b, o + 2, none⟩) hb).trans h3, (h.cell (p := ⟨b, o + 3, none⟩) hb).trans h4, (h.cell (p := ⟨b, o + 4, none⟩) hb).trans h5⟩, ?_, hc, hm, ht, ih2 _ _ hn hlt⟩
    rcases hk with hk | ⟨b', o', e1, e2⟩
    · exact .inl hk
    · exact .inr ⟨b', o', e1, ih1 _ _ e2 hlt⟩
theorem Fo.from_grow {w w' : World} (h : Below w.heap.size w w') (F : Fo) (b o : Nat) (hF : F.From w b o) : F.From w' b o :=
  Fo.from_below h F b o hF fun _ _ _ hc => World.block_lt_of_cell? w _ hc
theorem Fo.In.grow {w w' : World} {F : Fo} {a : Option Addr} (hF : F.In w a) (h : Below w.heap.size w w') : F.In w' a := by
  rcases hF with rfl | ⟨b, o, rfl, hF⟩
  · exact .inl rfl
  · exact .inr ⟨b, o, rfl, Fo.from_grow h F b o hF⟩
/-- a tree's value -/
abbrev nodeV (k : Int) (t : ByteArray) (m e : Int) (a : Option Addr) (n c : Nat) : Value := .agg #[.int .i64 k, .string t, .int .i64 m, .int .i64 e, .slice a n c]

end Go.Proofs.Ytpgpkdeiapeoiaa
/- Which trees are ok: plain mathematics over lists of trees. -/
namespace Go.Proofs.Ytpgpkdeiapeoiaa
/-- what stands at a place of a list -/
def Fo.kindAt : Fo → Nat → Int
  | .nil, _ => 0
  | .cons k _ _ _ _ _ _ _, 0 => k
  | .cons _ _ _ _ _ _ _ next, i + 1 => next.kindAt i
def Fo.textAt : Fo → Nat → ByteArray
  | .nil, _ => ⟨#[]⟩
  | .cons _ t _ _ _ _ _ _, 0 => t
  | .cons _ _ _ _ _ _ _ next, i + 1 => next.textAt i
def Fo.manAt : Fo → Nat → Int
  | .nil, _ => 0
  | .cons _ _ m _ _ _ _ _, 0 => m
  | .cons _ _ _ _ _ _ _ next, i + 1 => next.manAt i
def Fo.expAt : Fo → Nat → Int
  | .nil, _ => 0
  | .cons _ _ _ e _ _ _ _, 0 => e
  | .cons _ _ _ _ _ _ _ next, i + 1 => next.expAt i
def Fo.addrAt : Fo → Nat → Option Addr
  | .nil, _ => none
  | .cons _ _ _ _ a _ _ _, 0 => a
  | .cons _ _ _ _ _ _ _ next, i + 1 => next.addrAt i
def Fo.capAt : Fo → Nat → Nat
  | .nil, _ => 0
  | .cons _ _ _ _ _ c _ _, 0 => c
  | .cons _ _ _ _ _ _ _ next, i + 1 => next.capAt i
def Fo.kidsAt : Fo → Nat → Fo
  | .nil, _ => .nil
  | .cons _ _ _ _ _ _ kids _, 0 => kids
  | .cons _ _ _ _ _ _ _ next, i + 1 => next.kidsAt i
theorem Fo.from_at : ∀ {F : Fo} {w : World} {b o i : Nat}, F.From w b o → i < F.len →
    (w.cell? ⟨b, o + i * 5, none⟩ = some (.int .i64 (F.kindAt i)) ∧ w.cell? ⟨b, o + i * 5 + 1, none⟩ = some (.string (F.textAt i)) ∧ w.cell? ⟨b, o + i * 5 + 2, none⟩ = some (.int .i64 (F.manAt i)) ∧ w.cell? ⟨b, o + i * 5 + 3, none⟩ = some (.int .i64 (F.expAt i)) ∧
      w.cell? ⟨b, o + i * 5 + 4, none⟩ = some (.slice (F.addrAt i) (F.kidsAt i).len (F.capAt i))) ∧ (F.kidsAt i).In w (F.addrAt i) ∧ (F.kidsAt i).len ≤ F.capAt i ∧ F.capAt i ≤ maxLen ∧ (F.textAt i).size ≤ maxLen := by
  intro F
  induction F with
  | nil => intro w b o i _ h; exact absurd h (Nat.not_lt_zero _)
  | cons k t m e a c kids next _ ih =>
    rintro w b o i ⟨hc, hk, h1, h2, h3, hn⟩ hi
    cases i with
    | zero => simp only [Nat.zero_mul, Nat.add_zero]; exact ⟨hc, hk, h1, h2, h3⟩
    | succ i =>
      have := ih hn (show i < next.len from Nat.lt_of_succ_lt_succ hi)
      rw [show o + 5 + i * 5 = o + (i + 1) * 5 by omega] at this
      exact this
theorem Fo.size_at : ∀ {F : Fo} {i : Nat}, i < F.len → (F.kidsAt i).size < F.size := by
  intro F
  induction F with
  | nil => intro i h; exact absurd h (Nat.not_lt_zero _)
  | cons k t m e a c kids next _ ih =>
    intro i hi
    cases i with
    | zero => show kids.size < kids.size + 1 + next.size; omega
    | succ i => have := ih (show i < next.len from Nat.lt_of_succ_lt_succ hi); show (next.kidsAt i).size < kids.size + 1 + next.size; omega
/-- of the first n how many are of a kind -/
def Fo.cnt (F : Fo) (q : Int) : Nat → Nat
  | 0 => 0
  | n + 1 => F.cnt q n + (if F.kindAt n = q then 1 else 0)
theorem Fo.cnt_le (F : Fo) (q : Int) (n : Nat) : F.cnt q n ≤ n := by
  induction n with
  | zero => exact Nat.le_refl _
  | succ n ih => show F.cnt q n + (if F.kindAt n = q then 1 else 0) ≤ n + 1; split <;> omega
/-- the text at a place is none of those ahead of it -/
def Fo.newAt (F : Fo) (i : Nat) : Nat → Bool
  | 0 => true
  | j + 1 => F.newAt i j && !((F.textAt i).toList == (F.textAt j).toList)
/-- of the first n no two have one text -/
def Fo.dist (F : Fo) : Nat → Bool
  | 0 => true
  | n + 1 => F.dist n && F.newAt n n
theorem Fo.newAt_false {F : Fo} {i j n : Nat} (h : ((F.textAt i).toList == (F.textAt j).toList) = true) (hj : j < n) : F.newAt i n = false := by
  induction n with
  | zero => omega
  | succ n ih =>
    show (F.newAt i n && !((F.textAt i).toList == (F.textAt n).toList)) = false
    rcases Nat.lt_succ_iff_lt_or_eq.1 hj with hj | rfl
    · rw [ih hj]; rfl
    · rw [h]; simp
theorem Fo.dist_false {F : Fo} {i n : Nat} (h : F.newAt i i = false) (hi : i < n) : F.dist n = false := by
  induction n with
  | zero => omega
  | succ n ih =>
    show (F.dist n && F.newAt n n) = false
    rcases Nat.lt_succ_iff_lt_or_eq.1 hi with hi | rfl
    · rw [ih hi]; rfl
    · rw [h]; simp
namespace Om
def std1 : List (List UInt8) := [[108, 101, 110, 103, 116, 104], [107, 101, 121, 115], [116, 101, 120, 116], [116, 121, 112, 101], [115, 111, 114, 116], [114, 97, 110, 103, 101]]
def std2 : List (List UInt8) := [[109, 97, 112], [102, 105, 108, 116, 101, 114], [106, 111, 105, 110], [104, 97, 115]]
def std3 : List (List UInt8) := [[102, 111, 108, 100]]
/-- how many a function that is there from the beginning is given -/
def std (l : List UInt8) : Nat := if Qm.has std1 l then 1 else if Qm.has std2 l then 2 else if Qm.has std3 l then 3 else 0
theorem std_le (l : List UInt8) : std l ≤ 3 := by unfold std; split <;> (try split) <;> (try split) <;> omega
/-- signs between two -/
def signs : List (List UInt8) := [[124, 124], [38, 38], [61, 61], [33, 61], [60], [60, 61], [62], [62, 61], [43], [45], [42], [47], [37]]
/-- how many a kind has below, at least and at most -/
def low (k : Int) : Nat := if k = 10 ∨ k = 11 ∨ k = 12 ∨ k = 18 then 1 else if k = 13 ∨ k = 15 ∨ k = 19 ∨ k = 21 then 2 else if k = 14 then 3 else if k = 16 ∨ k = 17 then 1 else 0
def high (k : Int) : Nat := if k = 10 ∨ k = 11 ∨ k = 12 ∨ k = 18 then 1 else if k = 13 ∨ k = 15 ∨ k = 19 ∨ k = 21 then 2 else if k = 14 then 3 else if k = 16 ∨ k = 17 ∨ k = 20 ∨ k = 22 ∨ k = 24 then 8 else 0
/-- the program's table has them so for a field and for a function that is there from the beginning -/
def low' (k : Int) : Nat := if k = 23 ∨ k = 24 then 1 else low k
def high' (k : Int) : Nat := if k = 23 then 1 else if k = 24 then 3 else high k
/-- the sort of text: 0 none, 1 short, 2 a name, 3 a sign, 4 a function -/
def sort (k : Int) : Nat := if k = 5 then 1 else if k = 6 ∨ k = 8 ∨ k = 18 ∨ k = 15 ∨ k = 21 ∨ k = 9 ∨ k = 23 then 2 else if k = 13 then 3 else if k = 24 then 4 else 0
def textOf (q : Nat) (t : ByteArray) : Bool := if q = 1 then decide (t.size ≤ 1500) else if q = 2 then Qm.name t else if q = 3 then Qm.has signs t.toList else if q = 4 then decide (0 < std t.toList) else (t.toList == [])
/-- the number is as the kind asks -/
def num (k m e : Int) : Bool := if k = 4 then Dm.ok m e && decide (0 ≤ m) else if k = 23 then decide (e = 0) && (decide (0 ≤ m) && decide (m ≤ 2)) else decide (m = 0) && decide (e = 0)
/-- what is right below is as the kind asks -/
def below (k : Int) (t : ByteArray) (F : Fo) : Bool :=
  if k = 22 then decide (F.cnt 23 F.len = F.len) && F.dist F.len
  else if k = 16 then decide (F.cnt 6 (F.len - 1) = F.len - 1) && (F.dist (F.len - 1) && decide (F.cnt 23 F.len = 0))
  else if k = 24 then decide (std t.toList = F.len) && decide (F.cnt 23 F.len = 0)
  else decide (F.cnt 23 F.len = 0)
/-- a node with those right below is as its kind asks -/
def fit (k : Int) (t : ByteArray) (m e : Int) (F : Fo) : Bool :=
  (decide (1 ≤ k) && decide (k ≤ 24)) && ((decide (low' k ≤ F.len) && decide (F.len ≤ high' k)) && textOf (sort k) t) && (num k m e && below k t F)
end Om
end Go.Proofs.Ytpgpkdeiapeoiaa
/- The iterator over a tree and all below it. -/
namespace Go.Proofs.Ytpgpkdeiapeoiaa
open Go.RowKit Go.Shelf
attribute [local go_sem] Oper.semAt_some

/-- the trees of a list and all below, each ahead of those below it, with how deep it stands -/
def Fo.flat : Fo → Nat → List (Nat × Int × ByteArray × Int × Int × Fo)
  | .nil, _ => []
  | .cons k t m e _ _ kids next, d => (d, k, t, m, e, kids) :: (kids.flat (d + 1) ++ next.flat d)
theorem Fo.flat_len : ∀ (F : Fo) (d : Nat), (F.flat d).length = F.size := by
  intro F
  induction F with
  | nil => intro d; rfl
  | cons k t m e a c kids next ih1 ih2 => intro d; show ((d, k, t, m, e, kids) :: (kids.flat (d + 1) ++ next.flat d)).length = kids.size + 1 + next.size; simp [ih1, ih2]; omega
/-- whatever lies in the one world lies in the other -/
def Sub (w W : World) : Prop := ∀ b o v, w.cell? ⟨b, o, none⟩ = some v → W.cell? ⟨b, o, none⟩ = some v
theorem Fo.from_sub {w w' : World} (h : Sub w w') : ∀ (F : Fo) (b o : Nat), F.From w b o → F.From w' b o := by
  intro F
  induction F with
  | nil => intro b o _; trivial
  | cons k t m e a c kids next ih1 ih2 =>
    rintro b o ⟨⟨h1, h2, h3, h4, h5⟩, hk, hc, hm, ht, hn⟩
    refine ⟨⟨h _ _ _ h1, h _ _ _ h2, h _ _ _ h3, h _ _ _ h4, h _ _ _ h5⟩, ?_, hc, hm, ht, ih2 _ _ hn⟩
    rcases hk with hk | ⟨b', o', e1, e2⟩
    · exact .inl hk
    · exact .inr ⟨b', o', e1, ih1 _ _ e2⟩
theorem Fo.In.sub {w w' : World} {F : Fo} {a : Option Addr} (hF : F.In w a) (h : Sub w w') : F.In w' a := by
  rcases hF with rfl | ⟨b, o, rfl, hF⟩
  · exact .inl rfl
  · exact .inr ⟨b, o, rfl, Fo.from_sub h F b o hF⟩
/-- what a round keeps: the cells that lay ahead of the caller, and those that were made since the loop began -/
def Kept (n0 n1 : Nat) (W W' : World) : Prop := W.heap.size ≤ W'.heap.size ∧ ∀ j o, W.heap[j]? = some o → o.isCells = true → (j < n0 ∨ n1 ≤ j) → W'.heap[j]? = some o
theorem Kept.refl (n0 n1 : Nat) (W : World) : Kept n0 n1 W W := ⟨Nat.le_refl _, fun _ _ h _ _ => h⟩
theorem Kept.trans {n0 n1 : Nat} {A B C : World} (h : Kept n0 n1 A B) (k : Kept n0 n1 B C) : Kept n0 n1 A C := ⟨Nat.le_trans h.1 k.1, fun j o ho hc hj => k.2 j o (h.2 j o ho hc hj) hc hj⟩
theorem Kept.of_below {n0 n1 : Nat} {W W' : World} (h : Below W.heap.size W W') : Kept n0 n1 W W' := ⟨h.size, fun j _ ho _ _ => (h.block j (Array.getElem?_eq_some_iff.1 ho).1).trans ho⟩
theorem cells_of_cell {W : World} {b o : Nat} {v : Value} (h : W.cell? ⟨b, o, none⟩ = some v) : ∃ x, W.heap[b]? = some x ∧ x.isCells = true := by
  have hlt := World.block_lt_of_cell? W _ h
  refine ⟨W.heap[b]'hlt, Array.getElem?_eq_getElem hlt, ?_⟩
  have hb : W.heap[b]? = some (W.heap[b]'hlt) := Array.getElem?_eq_getElem hlt
  unfold World.cell? at h
  rw [hb] at h
  cases hx : W.heap[b]'hlt <;> simp_all [Obj.isCells]
theorem Kept.cell {n0 n1 : Nat} {W W' : World} (h : Kept n0 n1 W W') {b o : Nat} {v : Value} (hv : W.cell? ⟨b, o, none⟩ = some v) (hb : b < n0 ∨ n1 ≤ b) : W'.cell? ⟨b, o, none⟩ = some v := by
  obtain ⟨x, hx, hc⟩ := cells_of_cell hv
  exact (World.cell?_of_block ((h.2 b x hx hc hb).trans hx.symm)).trans hv
theorem Kept.sub {n0 n1 : Nat} {w W W' : World} (h : Kept n0 n1 W W') (hs : Sub w W) (hn : w.heap.size ≤ n0) : Sub w W' := fun b o v hv =>
  h.cell (hs b o v hv) (.inl (Nat.lt_of_lt_of_le (World.block_lt_of_cell? w _ hv) hn))
theorem Sub.of_below {w W : World} (h : Below w.heap.size w W) : Sub w W := fun b o _ hv => (h.cell (p := ⟨b, o, none⟩) (World.block_lt_of_cell? w _ hv)).trans hv
/-- a tree that is told, with how deep it stands; what is below it lies in the world w -/
structure TI (w : World) where
  d : Nat
  k : Int
  t : ByteArray
  m : Int
  e : Int
  a : Option Addr
  kids : Fo
  c : Nat
  hin : kids.In w a
  hl : kids.len ≤ c
  hc : c ≤ maxLen
  ht : t.size ≤ maxLen
def TI.raw {w : World} (x : TI w) : Nat × Int × ByteArray × Int × Int × Fo := (x.d, x.k, x.t, x.m, x.e, x.kids)
def TI.enc {w : World} (x : TI w) : Array Value := #[.int .i64 x.d, .agg #[.int .i64 x.k, .string x.t, .int .i64 x.m, .int .i64 x.e, .slice x.a x.kids.len x.c]]

theorem room_none {F : Fence} (hd : F.depth = none) (k : Nat) : F.room k := fun d h => by rw [hd] at h; cases h
theorem roundIn_any {F : Fence} (hd : F.depth = none) {m m' : Nat} {P : Program} {l : Nat} {f : FuncId} {tmps : Array Value} {assign body : Code} {w : World} {R : Ending → World → Prop}
    (h : RoundIn F m P l f tmps assign body w R) : RoundIn F m' P l f tmps assign body w R := ⟨h.1, fun c cs _ => h.2 c cs (room_none hd _)⟩
theorem yieldAt_any {F : Fence} (hd : F.depth = none) {m : Nat} (m' : Nat) {P : Program} {l : Nat} {args : Array Value} {W : World} {R : Ending → World → Prop} (h : YieldAt F m P l args W R) : YieldAt F m' P l args W R := by
  obtain ⟨fn, tmps, assign, body, hy, hR⟩ := h
  exact ⟨fn, tmps, assign, body, hy, roundIn_any hd hR⟩
theorem grown_below {W W' : World} (h : Below W.heap.size W W') : W.grownBy W' none := ⟨h.os, h.tape, h.output, h.size, fun k hk _ => h.block k hk⟩

end Go.Proofs.Ytpgpkdeiapeoiaa
/- Trees: two lists of trees that are alike; a list that is being copied, element by element, into one new block. -/
namespace Go.Proofs.Ytpgpkdeiapeoiaa
open Go.RowKit
/-- the same but for where they lie -/
def Fo.alike : Fo → Fo → Prop
  | .nil, .nil => True
  | .cons k t m e _ _ kids next, .cons k' t' m' e' _ _ kids' next' => (k = k' ∧ t = t' ∧ m = m' ∧ e = e') ∧ kids.alike kids' ∧ next.alike next'
  | _, _ => False
theorem Fo.alike_nil {F : Fo} (h : F.alike .nil) : F = .nil := by cases F with
  | nil => rfl
  | cons => exact h.elim
theorem Fo.alike_cons {F : Fo} {k : Int} {t : ByteArray} {m e : Int} {a : Option Addr} {c : Nat} {kids next : Fo} (h : F.alike (.cons k t m e a c kids next)) : ∃ a' c' kids' next', F = .cons k t m e a' c' kids' next' ∧ kids'.alike kids ∧ next'.alike next := by
  cases F with
  | nil => exact h.elim
  | cons k' t' m' e' a' c' kids' next' =>
    obtain ⟨⟨rfl, rfl, rfl, rfl⟩, h1, h2⟩ := h
    exact ⟨a', c', kids', next', rfl, h1, h2⟩
theorem Fo.alike_len : ∀ {G F : Fo}, F.alike G → F.len = G.len := by
  intro G
  induction G with
  | nil => intro F h; rw [Fo.alike_nil h]
  | cons k t m e a c kids next _ ih =>
    intro F h
    obtain ⟨a', c', kids', next', rfl, _, h2⟩ := Fo.alike_cons h
    show next'.len + 1 = next.len + 1
    rw [ih h2]
theorem Fo.alike_size : ∀ {G F : Fo}, F.alike G → F.size = G.size := by
  intro G
  induction G with
  | nil => intro F h; rw [Fo.alike_nil h]
  | cons k t m e a c kids next ih1 ih2 =>
    intro F h
    obtain ⟨a', c', kids', next', rfl, h1, h2⟩ := Fo.alike_cons h
    show kids'.size + 1 + next'.size = kids.size + 1 + next.size
    rw [ih1 h1, ih2 h2]
theorem Fo.alike_deep : ∀ {G F : Fo}, F.alike G → F.deep = G.deep := by
  intro G
  induction G with
  | nil => intro F h; rw [Fo.alike_nil h]
  | cons k t m e a c kids next ih1 ih2 =>
    intro F h
    obtain ⟨a', c', kids', next', rfl, h1, h2⟩ := Fo.alike_cons h
    show max (kids'.deep + 1) next'.deep = max (kids.deep + 1) next.deep
    rw [ih1 h1, ih2 h2]
theorem Fo.alike_refl (F : Fo) : F.alike F := by
  induction F with
  | nil => trivial
  | cons k t m e a c kids next ih1 ih2 => exact ⟨⟨rfl, rfl, rfl, rfl⟩, ih1, ih2⟩
/-- the lists below lie in such blocks only -/
def Fo.Blk (P : Nat → Prop) : Fo → Prop
  | .nil => True
  | .cons _ _ _ _ a _ kids next => (kids = .nil ∨ ∃ b' o', a = some ⟨b', o', none⟩ ∧ P b') ∧ kids.Blk P ∧ next.Blk P
theorem Fo.Blk.mono {P Q : Nat → Prop} (h : ∀ b, P b → Q b) : ∀ {F : Fo}, F.Blk P → F.Blk Q := by
  intro F
  induction F with
  | nil => exact fun _ => trivial
  | cons k t m e a c kids next ih1 ih2 =>
    rintro ⟨h0, h1, h2⟩
    refine ⟨?_, ih1 h1, ih2 h2⟩
    rcases h0 with h0 | ⟨b', o', e1, e2⟩
    · exact .inl h0
    · exact .inr ⟨b', o', e1, h _ e2⟩
/-- in a world that holds the same in those blocks the list lies as it did -/
theorem Fo.from_agree {P : Nat → Prop} {w w' : World} (h : ∀ b o v, P b → w.cell? ⟨b, o, none⟩ = some v → w'.cell? ⟨b, o, none⟩ = some v) : ∀ (F : Fo) (b o : Nat), P b → F.Blk P → F.From w b o → F.From w' b o := by
  intro F
  induction F with
  | nil => intro b o _ _ _; trivial
  | cons k t m e a c kids next ih1 ih2 =>
    rintro b o hb ⟨h0, hb1, hb2⟩ ⟨⟨h1, h2, h3, h4, h5⟩, hk, hc, hm, ht, hn⟩
    refine ⟨⟨h _ _ _ hb h1, h _ _ _ hb h2, h _ _ _ hb h3, h _ _ _ hb h4, h _ _ _ hb h5⟩, ?_, hc, hm, ht, ih2 _ _ hb hb2 hn⟩
    rcases hk with hk | ⟨b', o', e1, e2⟩
    · exact .inl hk
    · rcases h0 with h0 | ⟨b'', o'', e3, e4⟩
      · exact .inl h0
      · rw [e1] at e3
        have e5 : b' = b'' := by simpa using congrArg (Option.map Addr.block) e3
        subst e5
        exact .inr ⟨b', o', e1, ih1 _ _ e4 hb1 e2⟩
/-- from cell o of block nb on lies a tree like this one -/
def Cop (P : Nat → Prop) (w : World) (nb o : Nat) (k : Int) (t : ByteArray) (m e : Int) (kids : Fo) : Prop :=
  ∃ (a' : Option Addr) (c' : Nat) (kids' : Fo), (w.cell? ⟨nb, o, none⟩ = some (.int .i64 k) ∧ w.cell? ⟨nb, o + 1, none⟩ = some (.string t) ∧ w.cell? ⟨nb, o + 2, none⟩ = some (.int .i64 m) ∧ w.cell? ⟨nb, o + 3, none⟩ = some (.int .i64 e) ∧ w.cell? ⟨nb, o + 4, none⟩ = some (.slice a' kids'.len c')) ∧
    (kids' = .nil ∨ ∃ b' o', a' = some ⟨b', o', none⟩ ∧ P b' ∧ kids'.From w b' o') ∧ kids'.Blk P ∧ kids'.alike kids ∧ kids'.len ≤ c' ∧ c' ≤ maxLen ∧ t.size ≤ maxLen
theorem Cop.agree {P : Nat → Prop} {w w' : World} {nb o : Nat} {k : Int} {t : ByteArray} {m e : Int} {kids : Fo} (h : Cop P w nb o k t m e kids) (hP : ∀ b o v, P b → w.cell? ⟨b, o, none⟩ = some v → w'.cell? ⟨b, o, none⟩ = some v)
    (hnb : ∀ q v, q < 5 → w.cell? ⟨nb, o + q, none⟩ = some v → w'.cell? ⟨nb, o + q, none⟩ = some v) : Cop P w' nb o k t m e kids := by
  obtain ⟨a', c', kids', ⟨h1, h2, h3, h4, h5⟩, hk, hr⟩ := h
  refine ⟨a', c', kids', ⟨hnb 0 _ (by omega) h1, hnb 1 _ (by omega) h2, hnb 2 _ (by omega) h3, hnb 3 _ (by omega) h4, hnb 4 _ (by omega) h5⟩, ?_, hr⟩
  rcases hk with hk | ⟨b', o', e1, e2, e3⟩
  · exact .inl hk
  · exact .inr ⟨b', o', e1, e2, Fo.from_agree hP kids' b' o' e2 hr.1 e3⟩
/-- the first j of a list are copied -/
def Pre (P : Nat → Prop) (w : World) (nb : Nat) : Fo → Nat → Nat → Prop
  | _, _, 0 => True
  | .nil, _, _ + 1 => True
  | .cons k t m e _ _ kids next, o, j + 1 => Cop P w nb o k t m e kids ∧ Pre P w nb next (o + 5) j
theorem Pre.agree {P : Nat → Prop} {w w' : World} {nb : Nat} (hP : ∀ b o v, P b → w.cell? ⟨b, o, none⟩ = some v → w'.cell? ⟨b, o, none⟩ = some v) :
    ∀ (F : Fo) (o j : Nat), (∀ o' v, o' < o + 5 * j → w.cell? ⟨nb, o', none⟩ = some v → w'.cell? ⟨nb, o', none⟩ = some v) → Pre P w nb F o j → Pre P w' nb F o j := by
  intro F
  induction F with
  | nil => intro o j _ _; cases j <;> trivial
  | cons k t m e a c kids next _ ih =>
    intro o j hnb h
    cases j with
    | zero => trivial
    | succ j =>
      obtain ⟨h1, h2⟩ := h
      exact ⟨h1.agree hP (fun q v hq => hnb _ v (by omega)), ih _ _ (fun o' v ho => hnb o' v (by omega)) h2⟩
def Fo.drop : Fo → Nat → Fo
  | F, 0 => F
  | .nil, _ + 1 => .nil
  | .cons _ _ _ _ _ _ _ next, j + 1 => next.drop j
theorem Fo.drop_next : ∀ {F : Fo} {j : Nat} {k : Int} {t : ByteArray} {m e : Int} {a : Option Addr} {c : Nat} {kids next : Fo}, F.drop j = .cons k t m e a c kids next → F.drop (j + 1) = next := by
  intro F
  induction F with
  | nil => intro j; cases j <;> intro k t m e a c kids next h <;> cases h
  | cons k0 t0 m0 e0 a0 c0 kids0 next0 _ ih =>
    intro j k t m e a c kids next h
    cases j with
    | zero => cases h; show next0.drop 0 = next0; cases next0 <;> rfl
    | succ j => exact ih h
theorem Pre.snoc {P : Nat → Prop} {w : World} {nb : Nat} : ∀ {F : Fo} {o j : Nat} {k : Int} {t : ByteArray} {m e : Int} {a : Option Addr} {c : Nat} {kids next : Fo}, F.drop j = .cons k t m e a c kids next → Pre P w nb F o j → Cop P w nb (o + 5 * j) k t m e kids → Pre P w nb F o (j + 1) := by
  intro F
  induction F with
  | nil => intro o j; cases j <;> intro k t m e a c kids next h <;> cases h
  | cons k0 t0 m0 e0 a0 c0 kids0 next0 _ ih =>
    intro o j k t m e a c kids next h hp hc
    cases j with
    | zero =>
      cases h
      refine ⟨by simpa using hc, ?_⟩
      unfold Pre; trivial
    | succ j =>
      obtain ⟨h1, h2⟩ := hp
      refine ⟨h1, ih h h2 ?_⟩
      rw [show o + 5 + 5 * j = o + 5 * (j + 1) by omega]; exact hc
/-- all are copied: there lies a list like it -/
theorem Pre.done {P : Nat → Prop} {w : World} {nb : Nat} : ∀ (F : Fo) (o j : Nat), F.len ≤ j → Pre P w nb F o j → ∃ F' : Fo, F'.alike F ∧ F'.Blk P ∧ F'.From w nb o := by
  intro F
  induction F with
  | nil => intro o j _ _; exact ⟨.nil, trivial, trivial, trivial⟩
  | cons k t m e a c kids next _ ih =>
    intro o j hj h
    have hj' : next.len + 1 ≤ j := hj
    obtain ⟨j, rfl⟩ : ∃ i, j = i + 1 := ⟨j - 1, by omega⟩
    obtain ⟨⟨a', c', kids', hcells, hk, hB, hA, hl, hm, ht⟩, h2⟩ := h
    obtain ⟨next', hA2, hB2, hF2⟩ := ih (o + 5) j (by omega) h2
    refine ⟨.cons k t m e a' c' kids' next', ⟨⟨rfl, rfl, rfl, rfl⟩, hA, hA2⟩, ⟨?_, hB, hB2⟩, hcells, ?_, hl, hm, ht, hF2⟩
    · rcases hk with hk | ⟨b', o', e1, e2, _⟩
      · exact .inl hk
      · exact .inr ⟨b', o', e1, e2⟩
    · rcases hk with hk | ⟨b', o', e1, _, e3⟩
      · exact .inl hk
      · exact .inr ⟨b', o', e1, e3⟩
end Go.Proofs.Ytpgpkdeiapeoiaa
/- Contracts of what the exact laws alone call: toDec, eqDec. -/
namespace Go.Proofs.Ytpgpkdeiapeoiaa
open Go.RowKit

set_option maxHeartbeats 400000 in
theorem toDec_any (m x : Int) (w : World) :
    Calls Try.prog 22 #[.agg #[.int .i64 m, .int .i64 x]] w fun e w' => e = .returned (.agg #[.int .i64 m, .int .i64 x]) ∧ Below w.heap.size w w' := by
  go_enter Try.func22, Try.ntmps22
  go_wp2
  exact bodyPost_ret (v := .agg #[.int .i64 m, .int .i64 x]) (by simp [results, Try.results22, go_sem]) rfl ⟨rfl, (by (repeat' (first | assumption | exact Below.refl _ _ | refine Below.alloc ?_ ?_ _ | refine Below.setCell ?_ ?_ _ | refine Below.drew ?_ | refine below_drewN ?_ _)) <;> (first | omega | (simp <;> omega)))⟩

set_option maxHeartbeats 400000 in
theorem eqDec_any (m x n y : Int) (w : World) :
    Calls Try.prog 29 #[.agg #[.int .i64 m, .int .i64 x], .agg #[.int .i64 n, .int .i64 y]] w fun e w' => e = .returned (.bool (decide (m = n) && decide (x = y))) ∧ Below w.heap.size w w' := by
  go_enter Try.func29, Try.ntmps29
  go_wp2
  all_goals
    go_ret
    exact ⟨ret_bool (by simp_all), ((Below.refl _ _).alloc (Nat.le_refl _) _).alloc (by simp) _⟩
end Go.Proofs.Ytpgpkdeiapeoiaa
/- Contracts over trees: the laws' own copy of a tree. -/
namespace Go.Proofs.Ytpgpkdeiapeoiaa
open Go.RowKit
/-- the cells of so many new trees -/
def newCells (n : Nat) : Array Value := madeCells #[.int .i64 0, .string ⟨#[]⟩, .int .i64 0, .int .i64 0, .slice none 0 0] (n * 5)
/-- block nb has cells for n trees, and they may be written -/
def Room (w : World) (nb n : Nat) : Prop := ∀ o, o < n * 5 → (∃ v, w.cell? ⟨nb, o, none⟩ = some v) ∧ w.frozen? ⟨nb, o, none⟩ = false
theorem Room.grow {w w' : World} {nb n : Nat} (h : Room w nb n) (hb : Below w.heap.size w w') : Room w' nb n := by
  intro o ho
  obtain ⟨⟨v, h1⟩, h2⟩ := h o ho
  have hl := World.block_lt_of_cell? w _ h1
  exact ⟨⟨v, (hb.cell (p := ⟨nb, o, none⟩) hl).trans h1⟩, (hb.frozen (p := ⟨nb, o, none⟩) hl).trans h2⟩
/-- a tree is written -/
def put5 (w : World) (nb o : Nat) (v0 v1 v2 v3 v4 : Value) : World := ((((w.setCell ⟨nb, o, none⟩ v0).setCell ⟨nb, o + 1, none⟩ v1).setCell ⟨nb, o + 2, none⟩ v2).setCell ⟨nb, o + 3, none⟩ v3).setCell ⟨nb, o + 4, none⟩ v4
theorem put5_other {w : World} {nb o b o' : Nat} {v0 v1 v2 v3 v4 : Value} (h : ¬ b = nb ∨ o' < o ∨ o + 5 ≤ o') : (put5 w nb o v0 v1 v2 v3 v4).cell? ⟨b, o', none⟩ = w.cell? ⟨b, o', none⟩ := by
  have ne : ∀ q, q < 5 → (⟨nb, o + q, none⟩ : Addr) ≠ ⟨b, o', none⟩ := by
    intro q hq e
    simp at e
    omega
  unfold put5
  rw [World.cell?_setCell_other _ _ _ _ (ne 4 (by omega)), World.cell?_setCell_other _ _ _ _ (ne 3 (by omega)), World.cell?_setCell_other _ _ _ _ (ne 2 (by omega)), World.cell?_setCell_other _ _ _ _ (ne 1 (by omega)), World.cell?_setCell_other _ _ _ _ (by simpa using ne 0 (by omega))]
theorem set_is {w : World} {b o o' : Nat} {v : Value} (h : ∃ u, w.cell? ⟨b, o', none⟩ = some u) : ∃ u, (w.setCell ⟨b, o, none⟩ v).cell? ⟨b, o', none⟩ = some u := by
  obtain ⟨u, hu⟩ := h
  exact cell?_setCell_some hu
theorem set_far {w : World} {b o o' : Nat} {v : Value} (h : o ≠ o') : (w.setCell ⟨b, o, none⟩ v).cell? ⟨b, o', none⟩ = w.cell? ⟨b, o', none⟩ := World.cell?_setCell_other _ _ _ _ (fun e => h (by simpa using congrArg Addr.off e))
theorem set_near {w : World} {b o : Nat} {v : Value} (h : ∃ u, w.cell? ⟨b, o, none⟩ = some u) : (w.setCell ⟨b, o, none⟩ v).cell? ⟨b, o, none⟩ = some v := by
  obtain ⟨u, hu⟩ := h
  exact World.cell?_setCell_same w _ v hu
theorem put5_cells {w : World} {nb o : Nat} {v0 v1 v2 v3 v4 : Value} (h : ∀ q, q < 5 → ∃ u, w.cell? ⟨nb, o + q, none⟩ = some u) :
    (put5 w nb o v0 v1 v2 v3 v4).cell? ⟨nb, o, none⟩ = some v0 ∧ (put5 w nb o v0 v1 v2 v3 v4).cell? ⟨nb, o + 1, none⟩ = some v1 ∧ (put5 w nb o v0 v1 v2 v3 v4).cell? ⟨nb, o + 2, none⟩ = some v2 ∧ (put5 w nb o v0 v1 v2 v3 v4).cell? ⟨nb, o + 3, none⟩ = some v3 ∧ (put5 w nb o v0 v1 v2 v3 v4).cell? ⟨nb, o + 4, none⟩ = some v4 := by
  have h0 := h 0 (by omega)
  have h1 := h 1 (by omega)
  have h2 := h 2 (by omega)
  have h3 := h 3 (by omega)
  have h4 := h 4 (by omega)
  unfold put5
  refine ⟨?_, ?_, ?_, ?_, ?_⟩
  · rw [set_far (by omega), set_far (by omega), set_far (by omega), set_far (by omega)]; exact set_near h0
  · rw [set_far (by omega), set_far (by omega), set_far (by omega)]; exact set_near (set_is h1)
  · rw [set_far (by omega), set_far (by omega)]; exact set_near (set_is (set_is h2))
  · rw [set_far (by omega)]; exact set_near (set_is (set_is (set_is h3)))
  · exact set_near (set_is (set_is (set_is (set_is h4))))
theorem put5_size (w : World) (nb o : Nat) (v0 v1 v2 v3 v4 : Value) : (put5 w nb o v0 v1 v2 v3 v4).heap.size = w.heap.size := by simp [put5, World.setCell]
theorem put5_below {B : Nat} {w0 w : World} {nb : Nat} (h : Below B w0 w) (hB : B ≤ nb) (o : Nat) (v0 v1 v2 v3 v4 : Value) : Below B w0 (put5 w nb o v0 v1 v2 v3 v4) :=
  ((((h.setCell (p := ⟨nb, o, none⟩) hB v0).setCell (p := ⟨nb, o + 1, none⟩) hB v1).setCell (p := ⟨nb, o + 2, none⟩) hB v2).setCell (p := ⟨nb, o + 3, none⟩) hB v3).setCell (p := ⟨nb, o + 4, none⟩) hB v4
theorem Room.put5 {w : World} {nb n : Nat} (h : Room w nb n) (o : Nat) (v0 v1 v2 v3 v4 : Value) : Room (put5 w nb o v0 v1 v2 v3 v4) nb n := by
  intro o' ho
  obtain ⟨h1, h2⟩ := h o' ho
  refine ⟨?_, by simpa [Go.Proofs.Ytpgpkdeiapeoiaa.put5] using h2⟩
  unfold Go.Proofs.Ytpgpkdeiapeoiaa.put5
  exact set_is (set_is (set_is (set_is (set_is h1))))

/-- five cells of a block, that may be written -/
def Five (w : World) (b : Nat) (v0 v1 v2 v3 v4 : Value) : Prop := (w.cell? ⟨b, 0, none⟩ = some v0 ∧ w.cell? ⟨b, 1, none⟩ = some v1 ∧ w.cell? ⟨b, 2, none⟩ = some v2 ∧ w.cell? ⟨b, 3, none⟩ = some v3 ∧ w.cell? ⟨b, 4, none⟩ = some v4) ∧ (w.frozen? ⟨b, 0, none⟩ = false ∧ w.frozen? ⟨b, 1, none⟩ = false ∧ w.frozen? ⟨b, 2, none⟩ = false ∧ w.frozen? ⟨b, 3, none⟩ = false ∧ w.frozen? ⟨b, 4, none⟩ = false)
theorem Five.new (w : World) (v0 v1 v2 v3 v4 : Value) (T : TypeId) : Five (w.alloc (.cells #[v0, v1, v2, v3, v4] T)) w.heap.size v0 v1 v2 v3 v4 := by
  refine ⟨⟨?_, ?_, ?_, ?_, ?_⟩, ?_, ?_, ?_, ?_, ?_⟩ <;> simp
theorem Five.lt {w : World} {b : Nat} {v0 v1 v2 v3 v4 : Value} (h : Five w b v0 v1 v2 v3 v4) : b < w.heap.size := World.block_lt_of_cell? w _ h.1.1
theorem Five.below {B : Nat} {w w' : World} {b : Nat} {v0 v1 v2 v3 v4 : Value} (h : Five w b v0 v1 v2 v3 v4) (hb : Below B w w') (hB : b < B) : Five w' b v0 v1 v2 v3 v4 := by
  obtain ⟨⟨a0, a1, a2, a3, a4⟩, f0, f1, f2, f3, f4⟩ := h
  exact ⟨⟨(hb.cell (p := ⟨b, 0, none⟩) hB).trans a0, (hb.cell (p := ⟨b, 1, none⟩) hB).trans a1, (hb.cell (p := ⟨b, 2, none⟩) hB).trans a2, (hb.cell (p := ⟨b, 3, none⟩) hB).trans a3, (hb.cell (p := ⟨b, 4, none⟩) hB).trans a4⟩, (hb.frozen (p := ⟨b, 0, none⟩) hB).trans f0, (hb.frozen (p := ⟨b, 1, none⟩) hB).trans f1, (hb.frozen (p := ⟨b, 2, none⟩) hB).trans f2, (hb.frozen (p := ⟨b, 3, none⟩) hB).trans f3, (hb.frozen (p := ⟨b, 4, none⟩) hB).trans f4⟩

theorem Five.setOther {w : World} {b : Nat} {v0 v1 v2 v3 v4 : Value} (h : Five w b v0 v1 v2 v3 v4) {j : Nat} (hj : ¬ b = j) (o : Nat) (u : Value) : Five (w.setCell ⟨j, o, none⟩ u) b v0 v1 v2 v3 v4 := by
  obtain ⟨⟨a0, a1, a2, a3, a4⟩, f0, f1, f2, f3, f4⟩ := h
  have far : ∀ o', (w.setCell ⟨j, o, none⟩ u).cell? ⟨b, o', none⟩ = w.cell? ⟨b, o', none⟩ := fun o' => World.cell?_setCell_other _ _ _ _ (fun e => hj (by simpa using congrArg Addr.block e.symm))
  exact ⟨⟨(far 0).trans a0, (far 1).trans a1, (far 2).trans a2, (far 3).trans a3, (far 4).trans a4⟩, by simpa using f0, by simpa using f1, by simpa using f2, by simpa using f3, by simpa using f4⟩
theorem Five.setNum {w : World} {b : Nat} {v0 v1 v2 v3 v4 : Value} (h : Five w b v0 v1 v2 v3 v4) (u2 u3 : Value) : Five ((w.setCell ⟨b, 2, none⟩ u2).setCell ⟨b, 3, none⟩ u3) b v0 v1 u2 u3 v4 := by
  obtain ⟨⟨a0, a1, a2, a3, a4⟩, f0, f1, f2, f3, f4⟩ := h
  refine ⟨⟨?_, ?_, ?_, ?_, ?_⟩, by simpa using f0, by simpa using f1, by simpa using f2, by simpa using f3, by simpa using f4⟩
  · rw [set_far (by omega), set_far (by omega)]; exact a0
  · rw [set_far (by omega), set_far (by omega)]; exact a1
  · rw [set_far (by omega)]; exact set_near ⟨_, a2⟩
  · exact set_near (set_is ⟨_, a3⟩)
  · rw [set_far (by omega), set_far (by omega)]; exact a4

end Go.Proofs.Ytpgpkdeiapeoiaa
/- Contracts over trees: the laws' own copy of a tree lies in cells that were never shared with a text (no part of a block is frozen). -/
namespace Go.Proofs.Ytpgpkdeiapeoiaa
open Go.RowKit
attribute [local go_sem] cell_alloc_is frozen_alloc_is
/-- from a block on all blocks are cells, none of them frozen -/
def Clean (n : Nat) (w : World) : Prop := ∀ b o, n ≤ b → w.heap[b]? = some o → ∃ cs t, o = .cells cs t (0, 0)
theorem Clean.refl (w : World) : Clean w.heap.size w := fun b o h ho => absurd (Array.getElem?_eq_some_iff.1 ho).1 (by omega)
theorem Clean.alloc {n : Nat} {w : World} (h : Clean n w) (cs : Array Value) (t : TypeId) : Clean n (w.alloc (.cells cs t)) := by
  intro b o hb ho
  have e : (w.heap.push (.cells cs t))[b]? = some o := ho
  rw [Array.getElem?_push] at e
  split at e
  · cases e; exact ⟨cs, t, rfl⟩
  · exact h b o hb e
theorem Clean.setCell {n : Nat} {w : World} (h : Clean n w) (p : Addr) (v : Value) : Clean n (w.setCell p v) := by
  intro b o hb ho
  by_cases e : b = p.block
  · subst e
    unfold World.setCell at ho
    simp only [Array.getElem?_modify, if_true] at ho
    obtain ⟨o', h1, h2⟩ := Option.map_eq_some_iff.1 ho
    obtain ⟨cs, t, rfl⟩ := h _ o' hb h1
    exact ⟨_, _, h2.symm⟩
  · rw [Below.heap_setCell _ _ _ _ e] at ho
    exact h b o hb ho
theorem Clean.trans {n : Nat} {w w' : World} (h : Clean n w) (hb : Below w.heap.size w w') (h' : Clean w.heap.size w') : Clean n w' := by
  intro b o hn ho
  by_cases hlt : b < w.heap.size
  · rw [hb.block b hlt] at ho; exact h b o hn ho
  · exact h' b o (by omega) ho
theorem Clean.put5 {n : Nat} {w : World} (h : Clean n w) (nb o : Nat) (v0 v1 v2 v3 v4 : Value) : Clean n (put5 w nb o v0 v1 v2 v3 v4) := ((((h.setCell _ _).setCell _ _).setCell _ _).setCell _ _).setCell _ _
set_option maxHeartbeats 400000 in
theorem toDecC_any (m x : Int) (w : World) :
    Calls Try.prog 22 #[.agg #[.int .i64 m, .int .i64 x]] w fun e w' => e = .returned (.agg #[.int .i64 m, .int .i64 x]) ∧ Below w.heap.size w w' ∧ Clean w.heap.size w' := by
  go_enter Try.func22, Try.ntmps22
  go_wp2
  refine bodyPost_ret (v := .agg #[.int .i64 m, .int .i64 x]) (by simp [results, Try.results22, go_sem]) rfl ⟨rfl, (by (repeat' (first | assumption | exact Below.refl _ _ | refine Below.alloc ?_ ?_ _ | refine Below.setCell ?_ ?_ _ | refine Below.drew ?_ | refine below_drewN ?_ _)) <;> (first | omega | (simp <;> omega))), ?_⟩
  repeat' first | exact Clean.refl _ | refine Clean.alloc ?_ _ _ | refine Clean.setCell ?_ _ _
end Go.Proofs.Ytpgpkdeiapeoiaa
