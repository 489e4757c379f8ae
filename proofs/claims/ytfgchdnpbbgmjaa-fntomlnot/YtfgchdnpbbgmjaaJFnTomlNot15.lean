/- My own texts, joined: Je Ib QuoA Ja Qg Idx QuoP Jb QuoR Jc Jf Jg. -/
import Derived.Test.YtfgchdnpbbgmjaaJFnTomlNot14
import Derived.Test.YtfgchdnpbbgmjaaJFnTomlNot0
import Derived.Test.YtfgchdnpbbgmjaaJFnTomlNot12
import Derived.Deep.RegionHeld3
import Derived.Deep.DeepCutAuto
import Derived.Below
import Derived.Laws.BytesArg
import Derived.Shelf.Small.Strs
import Derived.Test.YtfgchdnpbbgmjaaRows
import Derived.Test.YtfgchdnpbbgmjaaJFnTomlNot3
import Derived.Shelf.Strings.BuilderK
import Derived.Test.YtfgchdnpbbgmjaaJFnTomlNot13
import Derived.Test.YtfgchdnpbbgmjaaJFnTomlNot6
/- Values as JSON: the mathematics. -/
namespace Go.Proofs.Ytfgchdnpbbgmjaa
open Go.RowKit
/-- a value of which all is right, but for how great it is -/
def FitJ (h : Hd) (F : Vo) : Prop := one h F.len ∧ F.allOne
def nameAt (ns : List ByteArray) (i : Nat) : ByteArray := ns.getD i ⟨#[]⟩
theorem nameAt_some {ns : List ByteArray} {i : Nat} (h : i < ns.length) : ns[i]? = some (nameAt ns i) := by
  unfold nameAt
  rw [List.getElem?_eq_getElem h, List.getD_eq_getElem?_getD, List.getElem?_eq_getElem h]; rfl
/-- one item, with what stands ahead of it -/
def jpiece (step gap : List UInt8) (f : Hd → Vo → List UInt8 → List UInt8) (ob : Bool) (ns : List ByteArray) (F : Vo) (line : List UInt8) (i : Nat) : List UInt8 :=
  (if i = 0 then [] else [44]) ++ ((line ++ step) ++ ((if ob then Qm.jquote (nameAt ns i).data.toList ++ ([58] ++ gap) else []) ++ f (F.hdAt i) (F.kidsAt i) (line ++ step)))
/-- the first n items -/
def jitems (step gap : List UInt8) (f : Hd → Vo → List UInt8 → List UInt8) (ob : Bool) (ns : List ByteArray) (F : Vo) (line : List UInt8) : Nat → List UInt8
  | 0 => []
  | n + 1 => jitems step gap f ob ns F line n ++ jpiece step gap f ob ns F line n
/-- all that stands between the brackets -/
def jinner (step gap : List UInt8) (f : Hd → Vo → List UInt8 → List UInt8) (ob : Bool) (ns : List ByteArray) (F : Vo) (line : List UInt8) : List UInt8 :=
  jitems step gap f ob ns F line F.len ++ (if F.len = 0 then [] else line)
/-- a value that stands in a line that begins so -/
def jtext (step gap : List UInt8) : Nat → Hd → Vo → List UInt8 → List UInt8
  | 0, _, _, _ => []
  | N + 1, h, F, line =>
    if h.k = 0 then [110, 117, 108, 108] else if h.k = 1 then [116, 114, 117, 101] else if h.k = 2 then [102, 97, 108, 115, 101] else
    if h.k = 3 then Tm.text h.m h.e else if h.k = 4 then Qm.jquote h.t.data.toList else
    if h.k = 5 then [91] ++ (jinner step gap (jtext step gap N) false [] F line ++ [93]) else [123] ++ (jinner step gap (jtext step gap N) true h.ns F line ++ [125])
theorem fitJ_at : ∀ {F : Vo} {i : Nat}, i < F.len → F.allOne → FitJ (F.hdAt i) (F.kidsAt i) := by
  intro F
  induction F with
  | nil => intro i h; exact absurd h (Nat.not_lt_zero _)
  | cons h a c kids next _ ih =>
    rintro i hi ⟨h1, h2, h3⟩
    cases i with
    | zero => exact ⟨h1, h2⟩
    | succ i => exact ih (show i < next.len from Nat.lt_of_succ_lt_succ hi) h3
theorem name_short {s : ByteArray} (h : Qm.name s = true) : s.size ≤ 12 := by
  unfold Qm.name at h
  simp only [Bool.and_eq_true, decide_eq_true_eq] at h
  exact h.1.2.2
theorem asc_short {ns : List ByteArray} (h : nmAsc ns ns.length) (i : Nat) : (nameAt ns i).size ≤ 12 := by
  by_cases hi : i < ns.length
  · exact name_short (h i _ hi (nameAt_some hi)).1
  · unfold nameAt
    rw [List.getD_eq_getElem?_getD, List.getElem?_eq_none (by omega)]
    show 0 ≤ 12
    omega
theorem oneJ {h : Hd} {n : Nat} (x : one h n) : (0 ≤ h.k ∧ h.k ≤ 6) ∧ (h.k = 3 → Dm.ok h.m h.e = true) ∧ (h.k = 4 → h.t.size ≤ 1500) ∧ (h.k = 6 → h.ns.length = n ∧ nmAsc h.ns h.ns.length) ∧ (h.k ≤ 4 → n = 0) := by
  rcases x with ⟨h1, _, h2⟩ | ⟨h1, h2, _, h3⟩ | ⟨h1, h2, _, h3⟩ | ⟨h1, _⟩ | ⟨h1, h2, _⟩
  · exact ⟨by omega, fun _ => by omega, fun _ => by omega, fun _ => by omega, fun _ => h2⟩
  · exact ⟨by omega, fun _ => h2, fun _ => by omega, fun _ => by omega, fun _ => h3⟩
  · exact ⟨by omega, fun _ => by omega, fun _ => h2, fun _ => by omega, fun _ => h3⟩
  · exact ⟨by omega, fun _ => by omega, fun _ => by omega, fun _ => by omega, fun _ => by omega⟩
  · exact ⟨by omega, fun _ => by omega, fun _ => by omega, fun _ => h2, fun _ => by omega⟩
/-- so many values are in the first n -/
def Vo.sumJ (F : Vo) : Nat → Nat
  | 0 => 0
  | n + 1 => F.sumJ n + ((F.kidsAt n).size + 1)
theorem sumJ_next (h : Hd) (a : Option Addr) (c : Nat) (kids next : Vo) (n : Nat) : (Vo.cons h a c kids next).sumJ (n + 1) = kids.size + 1 + next.sumJ n := by
  induction n with
  | zero => show 0 + (kids.size + 1) = kids.size + 1 + 0; omega
  | succ n ih => show (Vo.cons h a c kids next).sumJ (n + 1) + ((next.kidsAt n).size + 1) = kids.size + 1 + (next.sumJ n + ((next.kidsAt n).size + 1)); rw [ih]; omega
theorem sumJ_len (F : Vo) : F.sumJ F.len = F.size := by
  induction F with
  | nil => rfl
  | cons h a c kids next _ ih => show (Vo.cons h a c kids next).sumJ (next.len + 1) = kids.size + 1 + next.size; rw [sumJ_next, ih]
theorem sumJ_le (F : Vo) {i n : Nat} (h : i ≤ n) : F.sumJ i ≤ F.sumJ n := by
  induction n with
  | zero => rw [Nat.le_zero.1 h]; exact Nat.le_refl _
  | succ n ih =>
    by_cases e : i = n + 1
    · rw [e]; exact Nat.le_refl _
    · exact Nat.le_trans (ih (by omega)) (by show F.sumJ n ≤ F.sumJ n + _; omega)
/-- how long a value's text is at most -/
theorem jitems_len {step gap : List UInt8} (hs : step.length ≤ 2) (hg : gap.length ≤ 2) {f : Hd → Vo → List UInt8 → List UInt8} {F : Vo} {line : List UInt8} (hl : line.length ≤ 1000)
    (hf : ∀ i, i < F.len → (f (F.hdAt i) (F.kidsAt i) (line ++ step)).length ≤ 13000 * (F.kidsAt i).size + 11000) (ob : Bool) {ns : List ByteArray} (hns : ob = true → ∀ i, (nameAt ns i).size ≤ 12) :
    ∀ n, n ≤ F.len → (jitems step gap f ob ns F line n).length ≤ 13000 * F.sumJ n := by
  intro n
  induction n with
  | zero => intro _; exact Nat.zero_le _
  | succ n ih =>
    intro hn
    have h1 := ih (by omega)
    have h2 := hf n (by omega)
    have e1 : (if n = 0 then ([] : List UInt8) else [44]).length ≤ 1 := by split <;> simp
    have e2 : (if ob then Qm.jquote (nameAt ns n).data.toList ++ ([58] ++ gap) else []).length ≤ 80 := by
      cases ob
      · simp
      · have h3 := hns rfl n
        have h4 := Qm.jquote_length (nameAt ns n).data.toList
        rw [Qm.len_eq] at h4
        simp only [if_true, List.length_append, List.length_cons, List.length_nil]
        omega
    have e3 : (jpiece step gap f ob ns F line n).length ≤ 1 + (1002 + (80 + (13000 * (F.kidsAt n).size + 11000))) := by
      unfold jpiece
      rw [List.length_append, List.length_append, List.length_append, List.length_append]
      omega
    show (jitems step gap f ob ns F line n ++ jpiece step gap f ob ns F line n).length ≤ 13000 * (F.sumJ n + ((F.kidsAt n).size + 1))
    rw [List.length_append]
    omega
theorem jtext_len {step gap : List UInt8} (hs : step.length ≤ 2) (hg : gap.length ≤ 2) : ∀ (N : Nat) (h : Hd) (F : Vo) (line : List UInt8), line.length + 2 * N ≤ 1000 → FitJ h F → (jtext step gap N h F line).length ≤ 13000 * F.size + 11000 := by
  intro N
  induction N with
  | zero => intro h F line _ _; exact Nat.zero_le _
  | succ N ih =>
    intro h F line hl hfit
    obtain ⟨⟨k0, k6⟩, k3, k4, k66, _⟩ := oneJ hfit.1
    have hin : ∀ ob ns, (ob = true → ∀ i, (nameAt ns i).size ≤ 12) → (jinner step gap (jtext step gap N) ob ns F line).length ≤ 13000 * F.size + 1000 := fun ob ns hn => by
      unfold jinner
      rw [List.length_append]
      have h1 := jitems_len hs hg (f := jtext step gap N) (F := F) (line := line) (by omega) (fun i hi => ih _ _ _ (by rw [List.length_append]; omega) (fitJ_at hi hfit.2)) ob hn F.len (Nat.le_refl _)
      rw [sumJ_len] at h1
      have h2 : (if F.len = 0 then ([] : List UInt8) else line).length ≤ 1000 := by
        split
        · exact Nat.zero_le _
        · omega
      omega
    unfold jtext
    by_cases c0 : h.k = 0
    · rw [if_pos c0]; simp only [List.length_cons, List.length_nil]; omega
    rw [if_neg c0]
    by_cases c1 : h.k = 1
    · rw [if_pos c1]; simp only [List.length_cons, List.length_nil]; omega
    rw [if_neg c1]
    by_cases c2 : h.k = 2
    · rw [if_pos c2]; simp only [List.length_cons, List.length_nil]; omega
    rw [if_neg c2]
    by_cases c3 : h.k = 3
    · rw [if_pos c3]
      have ho := (Dm.ok_iff h.m h.e).1 (k3 c3)
      have hb : (Tm.body h.m.natAbs h.e).length ≤ 40 := Tm.body_len _ _ (by omega) (by omega)
      have : (Tm.text h.m h.e).length ≤ 41 := by
        unfold Tm.text
        rw [List.length_append]
        have : (if h.m < 0 then ([45] : List UInt8) else []).length ≤ 1 := by split <;> simp
        omega
      omega
    rw [if_neg c3]
    by_cases c4 : h.k = 4
    · rw [if_pos c4]
      have h1 := Qm.jquote_length h.t.data.toList
      rw [Qm.len_eq] at h1
      have := k4 c4
      omega
    rw [if_neg c4]
    by_cases c5 : h.k = 5
    · rw [if_pos c5]
      have := hin false [] (fun e => by cases e)
      simp only [List.length_append, List.length_cons, List.length_nil]
      omega
    rw [if_neg c5]
    have := hin true h.ns (fun _ i => asc_short (k66 (by omega)).2 i)
    simp only [List.length_append, List.length_cons, List.length_nil]
    omega
end Go.Proofs.Ytfgchdnpbbgmjaa
/- Values as lines: the mathematics. -/
namespace Go.Proofs.Ytfgchdnpbbgmjaa
open Go.RowKit
/-- the line of an item that is no object -/
def tline (ns : List ByteArray) (F : Vo) (i : Nat) : List UInt8 :=
  if (F.hdAt i).k = 6 then [] else (nameAt ns i).data.toList ++ ([32, 61, 32] ++ (jtext [] [] 200 (F.hdAt i) (F.kidsAt i) [] ++ [10]))
def tlines (ns : List ByteArray) (F : Vo) : Nat → List UInt8
  | 0 => []
  | n + 1 => tlines ns F n ++ tline ns F n
/-- the lines of an item that is an object -/
def thead (f : Hd → Vo → List UInt8 → List UInt8) (ns : List ByteArray) (F : Vo) (path : List UInt8) (i : Nat) : List UInt8 :=
  if (F.hdAt i).k = 6 then [91] ++ ((path ++ (nameAt ns i).data.toList) ++ ([93, 10] ++ f (F.hdAt i) (F.kidsAt i) ((path ++ (nameAt ns i).data.toList) ++ [46]))) else []
def theads (f : Hd → Vo → List UInt8 → List UInt8) (ns : List ByteArray) (F : Vo) (path : List UInt8) : Nat → List UInt8
  | 0 => []
  | n + 1 => theads f ns F path n ++ thead f ns F path n
/-- an object under names -/
def ttext : Nat → Hd → Vo → List UInt8 → List UInt8
  | 0, _, _, _ => []
  | N + 1, h, F, path => tlines h.ns F F.len ++ theads (ttext N) h.ns F path F.len
/-- how long these are at most -/
theorem tsum_len {f : Hd → Vo → List UInt8 → List UInt8} {ns : List ByteArray} {F : Vo} {path : List UInt8} (hl : path.length ≤ 3000) (hns : ∀ i, (nameAt ns i).size ≤ 12) (hfit : F.allOne)
    (hf : ∀ i, i < F.len → (F.hdAt i).k = 6 → (f (F.hdAt i) (F.kidsAt i) ((path ++ (nameAt ns i).data.toList) ++ [46])).length ≤ 30000 * (F.kidsAt i).size) :
    ∀ n, n ≤ F.len → (tlines ns F n).length + (theads f ns F path n).length ≤ 30000 * F.sumJ n := by
  intro n
  induction n with
  | zero => intro _; exact Nat.zero_le _
  | succ n ih =>
    intro hn
    have h1 := ih (by omega)
    have h3 := hns n
    have h4 : (nameAt ns n).data.toList.length = (nameAt ns n).size := by rw [Array.length_toList]; rfl
    have h5 := jtext_len (step := []) (gap := []) (by simp) (by simp) 200 (F.hdAt n) (F.kidsAt n) [] (by simp only [List.length_nil]; omega) (fitJ_at hn hfit)
    show (tlines ns F n ++ tline ns F n).length + (theads f ns F path n ++ thead f ns F path n).length ≤ 30000 * (F.sumJ n + ((F.kidsAt n).size + 1))
    unfold tline thead
    rw [List.length_append, List.length_append]
    by_cases hk : (F.hdAt n).k = 6
    · have h2 := hf n (by omega) hk
      rw [if_pos hk, if_pos hk]
      simp only [List.length_append, List.length_cons, List.length_nil] at h2 ⊢
      omega
    · rw [if_neg hk, if_neg hk]
      simp only [List.length_append, List.length_cons, List.length_nil]
      omega
theorem ttext_len : ∀ (N : Nat) (h : Hd) (F : Vo) (path : List UInt8), path.length + 13 * N ≤ 3000 → h.k = 6 → FitJ h F → (ttext N h F path).length ≤ 30000 * F.size := by
  intro N
  induction N with
  | zero => intro h F path _ _ _; exact Nat.zero_le _
  | succ N ih =>
    intro h F path hl hk hfit
    obtain ⟨_, _, _, k66, _⟩ := oneJ hfit.1
    have hns := fun i => asc_short (k66 hk).2 i
    have h1 := tsum_len (f := ttext N) (ns := h.ns) (F := F) (path := path) (by omega) hns hfit.2 (fun i hi hk' => ih _ _ _ (by
      have h3 := hns i
      have h4 : (nameAt h.ns i).data.toList.length = (nameAt h.ns i).size := by rw [Array.length_toList]; rfl
      simp only [List.length_append, List.length_cons, List.length_nil]
      omega) hk' (fitJ_at hi hfit.2)) F.len (Nat.le_refl _)
    rw [sumJ_len] at h1
    show (tlines h.ns F F.len ++ theads (ttext N) h.ns F path F.len).length ≤ 30000 * F.size
    rw [List.length_append]
    exact h1
open Classical in
/-- what TomlPut answers -/
noncomputable def tput (h : Hd) (F : Vo) : ByteArray × Bool := if ValOk h F ∧ fitsV h F then (⟨(ttext 200 h F []).toArray⟩, true) else (⟨#[]⟩, false)
theorem tput_ok {h : Hd} {F : Vo} (x : ValOk h F ∧ fitsV h F) : tput h F = (⟨(ttext 200 h F []).toArray⟩, true) := if_pos x
theorem tput_no {h : Hd} {F : Vo} (x : ¬ (ValOk h F ∧ fitsV h F)) : tput h F = (⟨#[]⟩, false) := if_neg x
end Go.Proofs.Ytfgchdnpbbgmjaa
/- Contracts: a byte between quotes, of both sides. -/
namespace Go.Proofs.Ytfgchdnpbbgmjaa
open Go.RowKit

set_option maxHeartbeats 400000 in
theorem standsForItself_any (c : Int) (w : World) :
    Calls Try.prog 128 #[.int .u8 c] w fun e w' => e = .returned (.bool (Qm.plain c)) ∧ w' = w := by
  go_enter Try.func128, Try.ntmps128
  go_wp2
  all_goals
    go_ret
    exact ⟨lret_bool (by rw [Bool.eq_iff_iff]; simp [Qm.plain]; try omega), rfl⟩

/-- a new row of one or two bytes, as a text -/
theorem qconv_one (W : World) (k : Nat) (c : Int) (hk : k = W.heap.size) :
    (convert 22 9 (.slice (some ⟨k, 0, none⟩) 1 1)).run Try.prog (W.alloc (.cells #[.int .u8 c] 5)) = .ok (.string (strOfNums [c])) (W.alloc (.cells #[.int .u8 c] 5)) := by
  subst hk
  refine run_convert_bytes_arg _ 22 5 Try.underlying22 Try.underlying5 W.heap.size 0 1 1 [c] rfl (fun i hi => ?_) 9 Try.underlying9
  obtain rfl : i = 0 := by omega
  simp
theorem conv_two (W : World) (k : Nat) (c d : Int) (hk : k = W.heap.size) :
    (convert 22 9 (.slice (some ⟨k, 0, none⟩) 2 2)).run Try.prog (W.alloc (.cells #[.int .u8 c, .int .u8 d] 5)) = .ok (.string (strOfNums [c, d])) (W.alloc (.cells #[.int .u8 c, .int .u8 d] 5)) := by
  subst hk
  refine run_convert_bytes_arg _ 22 5 Try.underlying22 Try.underlying5 W.heap.size 0 2 2 [c, d] rfl (fun i hi => ?_) 9 Try.underlying9
  have : i = 0 ∨ i = 1 := by omega
  rcases this with rfl | rfl <;> simp
theorem conv_two_drew (W : World) (k : Nat) (c d : Int) (hk : k = W.heap.size) :
    (convert 22 9 (.slice (some ⟨k, 0, none⟩) 2 2)).run Try.prog (W.alloc (.cells #[.int .u8 c, .int .u8 d] 5)).drew = .ok (.string (strOfNums [c, d])) (W.alloc (.cells #[.int .u8 c, .int .u8 d] 5)).drew := by
  subst hk
  refine run_convert_bytes_arg _ 22 5 Try.underlying22 Try.underlying5 W.heap.size 0 2 2 [c, d] rfl (fun i hi => ?_) 9 Try.underlying9
  have : i = 0 ∨ i = 1 := by omega
  rcases this with rfl | rfl <;> simp
theorem hex_at (i : Nat) (h : i < (⟨#[48, 49, 50, 51, 52, 53, 54, 55, 56, 57, 97, 98, 99, 100, 101, 102]⟩ : ByteArray).size) : (⟨#[48, 49, 50, 51, 52, 53, 54, 55, 56, 57, 97, 98, 99, 100, 101, 102]⟩ : ByteArray)[i] = Qm.hexd i := by
  have h' : i < 16 := h
  have : i = 0 ∨ i = 1 ∨ i = 2 ∨ i = 3 ∨ i = 4 ∨ i = 5 ∨ i = 6 ∨ i = 7 ∨ i = 8 ∨ i = 9 ∨ i = 10 ∨ i = 11 ∨ i = 12 ∨ i = 13 ∨ i = 14 ∨ i = 15 := by omega
  rcases this with rfl | rfl | rfl | rfl | rfl | rfl | rfl | rfl | rfl | rfl | rfl | rfl | rfl | rfl | rfl | rfl <;> rfl
theorem ret_str {a b : ByteArray} (h : a.data.toList = b.data.toList) : Ending.returned (.string a) = .returned (.string b) := by
  have : a = b := by cases a; cases b; simpa using h
  rw [this]

end Go.Proofs.Ytfgchdnpbbgmjaa
/- Contracts: a byte between quotes, as JSON has it, by the specification. -/
namespace Go.Proofs.Ytfgchdnpbbgmjaa
open Go.RowKit
set_option maxRecDepth 100000 in
set_option maxHeartbeats 1000000 in
theorem l7Escape_any (b : UInt8) (w : World) :
    Calls Try.prog 104 #[.int .u8 b.toNat] w fun e w' => e = .returned (.string ⟨(Qm.jesc b).toArray⟩) ∧ Below w.heap.size w w' := by
  have hb := b.toNat_lt
  by_cases h2 : b = 34 ∨ b = 92
  · have hcv := conv_two w w.heap.size 92 34 rfl
    have hcw := conv_two w w.heap.size 92 92 rfl
    have he : Qm.jesc b = [92, b] := by rw [Qm.jesc, if_pos h2]
    rcases h2 with rfl | rfl
    all_goals
      go_enter Try.func104, Try.ntmps104
      go_wp2_with fail
      go_ret
      exact ⟨ret_str (by rw [he]; simp [strOfNums]), (by (repeat' (first | assumption | exact Below.refl _ _ | refine Below.alloc ?_ ?_ _ | refine Below.setCell ?_ ?_ _ | refine Below.drew ?_ | refine below_drewN ?_ _)) <;> (first | omega | (simp <;> omega)))⟩
  · have t34 : ¬ (b.toNat = 34) := fun h => h2 (.inl (UInt8.toNat_inj.1 h))
    have t92 : ¬ (b.toNat = 92) := fun h => h2 (.inr (UInt8.toNat_inj.1 h))
    have e34 : ((b.toNat : Int) == 34) = false := by simp; omega
    have e92 : ((b.toNat : Int) == 92) = false := by simp; omega
    by_cases hp : Qm.plain b.toNat = true
    · have hcv := qconv_one w w.heap.size b.toNat rfl
      have he : Qm.jesc b = [b] := Qm.jesc_plain hp
      have hr : (32 : Int) ≤ (b.toNat : Int) ∧ (b.toNat : Int) < 127 := by simp [Qm.plain] at hp; omega
      obtain ⟨r1, r2⟩ := hr
      have HE : Hid (Qm.jesc b = [b]) := he
      clear hp h2 he
      go_enter Try.func104, Try.ntmps104
      go_wp2_with fail
      go_ret
      exact ⟨ret_str (by rw [HE.out]; simp [strOfNums]), (by (repeat' (first | assumption | exact Below.refl _ _ | refine Below.alloc ?_ ?_ _ | refine Below.setCell ?_ ?_ _ | refine Below.drew ?_ | refine below_drewN ?_ _)) <;> (first | omega | (simp <;> omega)))⟩
    · have hr : ¬ ((32 : Int) ≤ (b.toNat : Int) ∧ (b.toNat : Int) < 127) := by
        intro h
        apply hp
        simp [Qm.plain]
        omega
      obtain ⟨i, hi⟩ : ∃ i : Nat, i = b.toNat / 16 := ⟨_, rfl⟩
      obtain ⟨j, hj⟩ : ∃ j : Nat, j = b.toNat % 16 := ⟨_, rfl⟩
      have q1 : IntKind.u8.wrap ((b.toNat : Int).tdiv 16) = (i : Int) := by rw [IntKind.wrap_u8, Int.tdiv_eq_ediv_of_nonneg (by omega)]; omega
      have q2 : IntKind.u8.wrap ((b.toNat : Int).tmod 16) = (j : Int) := by rw [IntKind.wrap_u8, Int.tmod_eq_emod_of_nonneg (by omega)]; omega
      have q3 : (b.toNat : Int).tdiv 16 = (i : Int) := by rw [Int.tdiv_eq_ediv_of_nonneg (by omega)]; omega
      have q4 : (b.toNat : Int).tmod 16 = (j : Int) := by rw [Int.tmod_eq_emod_of_nonneg (by omega)]; omega
      have q5 : (b.toNat : Int) / 16 = (i : Int) := by omega
      have q6 : (b.toNat : Int) % 16 = (j : Int) := by omega
      have i1 : (0 : Int) ≤ (i : Int) := by omega
      have j1 : (0 : Int) ≤ (j : Int) := by omega
      have i2 : (i : Int) < 16 := by omega
      have j2 : (j : Int) < 16 := by omega
      have Hi : Hid (i = b.toNat / 16) := hi
      have Hj : Hid (j = b.toNat % 16) := hj
      have HE : Hid (Qm.jesc b = [92, 117, 48, 48, Qm.hexd i, Qm.hexd j]) := by unfold Hid; rw [Qm.jesc, if_neg h2, if_neg hp, hi, hj]
      clear hi hj hp h2
      have hrr : ¬ (32 : Int) ≤ (b.toNat : Int) ∨ ¬ (b.toNat : Int) < 127 := by omega
      rcases hrr with hr1 | hr1
      all_goals
        clear hr
        go_enter Try.func104, Try.ntmps104
        go_wp2_with fail
        have hcv := fun c d => conv_two_drew w w.heap.size c d rfl
        have hs2 : ∀ c d, (strOfNums [c, d]).size = 2 := fun c d => strOfNums_size [c, d]
        go_region
        go_wp2_with fail
        go_ret
        have he : Qm.jesc b = [92, 117, 48, 48, Qm.hexd i, Qm.hexd j] := HE.out
        exact ⟨ret_str (by rw [he, hex_at, hex_at]; simp [strOfNums, ByteArray.data_append]), (by (repeat' (first | assumption | exact Below.refl _ _ | refine Below.alloc ?_ ?_ _ | refine Below.setCell ?_ ?_ _ | refine Below.drew ?_ | refine below_drewN ?_ _)) <;> (first | omega | (simp <;> omega)))⟩
end Go.Proofs.Ytfgchdnpbbgmjaa
/- Plain mathematics: reading a text between quotes. -/
namespace Go.Proofs.Ytfgchdnpbbgmjaa.Qm
def hexv (c : UInt8) : Int := if fig c.toNat then (c.toNat : Int) - 48 else if 97 ≤ c.toNat ∧ c.toNat ≤ 102 then (c.toNat : Int) - 87 else -1
def hx : List UInt8 → UInt8 × Nat
  | x :: y :: _ => if 0 ≤ hexv x ∧ 0 ≤ hexv y then (UInt8.ofNat (hexv x * 16 + hexv y).toNat, 4) else (0, 0)
  | _ => (0, 0)
end Go.Proofs.Ytfgchdnpbbgmjaa.Qm
/- The library's contract on strings.IndexByte at this dump; the figures of sixteen. -/
namespace Go.Proofs.Ytfgchdnpbbgmjaa
open Go.Shelf Go.RowKit
def ren137 : Ren := ⟨fun | 137 => 129 | 217 => 137 | 266 => 140 | n => n, fun | 9 => 9 | 5 => 5 | 3 => 3 | n => n, fun | n => n⟩
theorem lays137 : Lays.n137 Try.prog ren137 := {
  mixed := by kernel_rfl
  f137 := Try.func129.trans (congrArg some (by kernel_rfl))
  f217 := Try.func137.trans (congrArg some (by kernel_rfl))
  f266 := Try.func140.trans (congrArg some (by kernel_rfl))
  t3 := Try.underlying3
  a3 := Try.isAgg3
  z3 := Try.sizeOf3
  v3 := Try.zeroValue3
  t5 := Try.underlying5
  a5 := Try.isAgg5
  z5 := Try.sizeOf5
  v5 := Try.zeroValue5
  t9 := Try.underlying9
  a9 := Try.isAgg9
  z9 := Try.sizeOf9
  v9 := Try.zeroValue9 }
theorem indexByte_lib (s : ByteArray) (c : Int) (w : World) :
    Calls Try.prog 129 #[.string s, .int .u8 c] w fun e w' => e = .returned (.int .i64 (Lib.indexByte s.data.toList c.toNat.toUInt8)) ∧ w' = w := Any.strings_IndexByte lays137 s c w
end Go.Proofs.Ytfgchdnpbbgmjaa
/- Contracts: how texts are put between quotes, of the program (quoting as papers have it). -/
namespace Go.Proofs.Ytfgchdnpbbgmjaa
open Go.RowKit
theorem arr_size (l : List UInt8) : (⟨l.toArray⟩ : ByteArray).size = l.length := by show l.toArray.size = _; simp
theorem arr_append (a b : List UInt8) : (⟨a.toArray⟩ : ByteArray) ++ ⟨b.toArray⟩ = ⟨(a ++ b).toArray⟩ := by
  have : ∀ x y : ByteArray, x.data.toList = y.data.toList → x = y := by intro x y h; cases x; cases y; simpa using h
  apply this; simp [ByteArray.data_append]
/-- the builder in block k holds these bytes -/
abbrev Holds (B k : Nat) (acc : List UInt8) (w : World) : Prop := Lib.IsBuilderF 72 5 B k (Lib.byteCells acc) w
theorem Holds.byte {B k : Nat} {acc : List UInt8} {c : UInt8} {n : Int} {w : World} (h : Lib.IsBuilderF 72 5 B k (Lib.byteCells acc ++ [.int .u8 n]) w) (hn : n = c.toNat) : Holds B k (acc ++ [c]) w := by
  subst hn
  unfold Holds
  rw [Lib.byteCells_append]; exact h
theorem Holds.text {B k : Nat} {acc l : List UInt8} {s : ByteArray} {w : World} (h : Lib.IsBuilderF 72 5 B k (Lib.byteCells acc ++ Lib.strCells s) w) (hs : s.data.toList = l) : Holds B k (acc ++ l) w := by
  subst hs
  unfold Holds
  rw [Lib.byteCells_append]; exact h
theorem kept_trans {e : TypeId} {b : Option Nat} {w1 w2 w3 : World} (h : Lib.OthersKept e b w1 w2) (h' : Lib.OthersKept e b w2 w3) : Lib.OthersKept e b w1 w3 := h.trans h'
theorem wByte (B k : Nat) (acc : List UInt8) (c : UInt8) (n : Int) (hn : n = c.toNat) (w : World) (h : Holds B k acc w) (hlen : acc.length ≤ 100000000) (hBw : B ≤ w.heap.size) :
    Calls Try.prog 115 #[.pointer (some ⟨k, 0, none⟩), .int .u8 n] w fun e w' => e = .returned .nilIface ∧ Holds B k (acc ++ [c]) w' ∧ Below B w w' ∧ Lib.OthersKept 5 (some k) w w' :=
  (bWriteByte B k _ n w h (by rw [Lib.byteCells_length]; omega) hBw).mono fun _ _ ⟨e, h1, h2, h3⟩ => ⟨e, Holds.byte h1 hn, h2, h3⟩
theorem wText (B k : Nat) (acc l : List UInt8) (s : ByteArray) (hs : s.data.toList = l) (w : World) (h : Holds B k acc w) (hlen : acc.length + s.size ≤ 100000000) (hBw : B ≤ w.heap.size) :
    Calls Try.prog 130 #[.pointer (some ⟨k, 0, none⟩), .string s] w fun e w' => e = .returned (.tuple #[.int .i64 s.size, .nilIface]) ∧ Holds B k (acc ++ l) w' ∧ Below B w w' ∧ Lib.OthersKept 5 (some k) w w' :=
  (bWriteString B k _ s w h (by rw [Lib.byteCells_length]; omega) hBw).mono fun _ _ ⟨e, h1, h2, h3⟩ => ⟨e, Holds.text h1 hs, h2, h3⟩
end Go.Proofs.Ytfgchdnpbbgmjaa
/- Contracts: a byte between quotes, as JSON has it, by the program. -/
namespace Go.Proofs.Ytfgchdnpbbgmjaa
open Go.RowKit
abbrev jpq : Value := .agg #[.string ⟨#[92, 117, 48, 48]⟩, .string ⟨#[34, 92, 47, 98, 102, 110, 114, 116]⟩, .string ⟨#[34, 92, 47, 8, 12, 10, 13, 9]⟩, .int .i64 2]
set_option maxHeartbeats 400000 in
theorem jsonQuoting_any (w : World) :
    Calls Try.prog 95 #[] w fun e w' => e = .returned jpq ∧ Below w.heap.size w w' := by
  go_enter Try.func95, Try.ntmps95
  go_wp2_with fail
  exact bodyPost_ret (v := jpq) (by simp [results, Try.results95, go_sem]) rfl ⟨rfl, (by (repeat' (first | assumption | exact Below.refl _ _ | refine Below.alloc ?_ ?_ _ | refine Below.setCell ?_ ?_ _ | refine Below.drew ?_ | refine below_drewN ?_ _)) <;> (first | omega | (simp <;> omega)))⟩
/-- the quoting lies in a box -/
def JQbox (q : Nat) (W : World) : Prop := W.heap[q]? = some (.cells #[.string ⟨#[92, 117, 48, 48]⟩, .string ⟨#[34, 92, 47, 98, 102, 110, 114, 116]⟩, .string ⟨#[34, 92, 47, 8, 12, 10, 13, 9]⟩, .int .i64 2] 74)
theorem jqbox_new (W : World) : JQbox W.heap.size (W.alloc (.cells #[.string ⟨#[92, 117, 48, 48]⟩, .string ⟨#[34, 92, 47, 98, 102, 110, 114, 116]⟩, .string ⟨#[34, 92, 47, 8, 12, 10, 13, 9]⟩, .int .i64 2] 74)) := by
  show (W.heap.push _)[W.heap.size]? = _
  rw [Array.getElem?_push, if_pos rfl]
theorem jqbox_stays {k q : Nat} {W W' : World} (h : JQbox q W) (hne : q ≠ k) (hk : Lib.OthersKept 5 (some k) W W') : JQbox q W' :=
  hk q _ h (fun e => hne (Option.some.inj e)) (fun c fz e => by cases e)
theorem jqbox_cells {q : Nat} {W : World} (h : JQbox q W) : W.cell? ⟨q, 0, none⟩ = some (.string ⟨#[92, 117, 48, 48]⟩) ∧ W.cell? ⟨q, 1, none⟩ = some (.string ⟨#[34, 92, 47, 98, 102, 110, 114, 116]⟩) ∧ W.cell? ⟨q, 2, none⟩ = some (.string ⟨#[34, 92, 47, 8, 12, 10, 13, 9]⟩) ∧ W.cell? ⟨q, 3, none⟩ = some (.int .i64 2) := by
  unfold JQbox at h
  refine ⟨?_, ?_, ?_, ?_⟩ <;> simp [World.cell?, h]
theorem jmk_at {i : Nat} {x : UInt8} (hx : (⟨#[34, 92, 47, 98, 102, 110, 114, 116]⟩ : ByteArray).data[i]? = some x) (h : i < (⟨#[34, 92, 47, 98, 102, 110, 114, 116]⟩ : ByteArray).size) : (⟨#[34, 92, 47, 98, 102, 110, 114, 116]⟩ : ByteArray)[i]'h = x := by
  obtain ⟨h2, e⟩ := Array.getElem?_eq_some_iff.1 hx
  exact e
theorem jmark_none : ∀ n : Fin 256, n.val ≠ 34 → n.val ≠ 92 → Lib.indexByte ((⟨#[34, 92, 47, 8, 12, 10, 13, 9]⟩ : ByteArray).extract 0 2).data.toList (UInt8.ofNat n.val) = -1 := by decide +kernel
set_option maxHeartbeats 1000000 in
theorem jputByte_any (b : UInt8) (acc : List UInt8) (B k : Nat) (w : World) (h : Holds B k acc w) (hk : k < w.heap.size) (hlen : acc.length ≤ 90000000) (hBw : B ≤ w.heap.size) :
    Calls Try.prog 117 #[jpq, .pointer (some ⟨k, 0, none⟩), .int .u8 b.toNat] w fun e w' => e = .returned (.tuple #[]) ∧ Holds B k (acc ++ Qm.jesc b) w' ∧ Below B w w' := by
  have hb := b.toNat_lt
  have hH0 : Holds B k acc (w.alloc (.cells #[.string ⟨#[92, 117, 48, 48]⟩, .string ⟨#[34, 92, 47, 98, 102, 110, 114, 116]⟩, .string ⟨#[34, 92, 47, 8, 12, 10, 13, 9]⟩, .int .i64 2] 74)) := h.alloc _
  have hq0 := jqbox_new w
  have hB0 := (Below.refl B w).alloc hBw (.cells #[.string ⟨#[92, 117, 48, 48]⟩, .string ⟨#[34, 92, 47, 98, 102, 110, 114, 116]⟩, .string ⟨#[34, 92, 47, 8, 12, 10, 13, 9]⟩, .int .i64 2] 74)
  have hz0 := hB0.size
  have hne : w.heap.size ≠ k := by omega
  by_cases hp : Qm.plain b.toNat = true
  · have he : Qm.jesc b = [b] := Qm.jesc_plain hp
    rw [he]
    go_enter Try.func117, Try.ntmps117
    go_wp2_with (go_at_call 128; refine (standsForItself_any _ _).mono ?_; rintro e w' ⟨rfl, hw⟩; subst w')
    refine (wByte B k acc b _ rfl _ hH0 (by omega) (by omega)).mono ?_
    rintro e w1 ⟨rfl, h1, b1, k1⟩
    go_wp2_with fail
    exact bodyPost_ret (v := .tuple #[]) (by simp [results, Try.results117]) rfl ⟨rfl, h1, hB0.trans b1⟩
  · have hp' : Qm.plain b.toNat = false := by simpa using hp
    by_cases hm : b = 34 ∨ b = 92
    · obtain ⟨x, i, hx, hix, he, hmk⟩ : ∃ (x : UInt8) (i : Nat), i < 2 ∧ Lib.indexByte ((⟨#[34, 92, 47, 8, 12, 10, 13, 9]⟩ : ByteArray).extract 0 2).data.toList ((b.toNat : Int).toNat.toUInt8) = (i : Int) ∧ Qm.jesc b = [92, x] ∧ (⟨#[34, 92, 47, 98, 102, 110, 114, 116]⟩ : ByteArray).data[i]? = some x := by
        rcases hm with rfl | rfl
        · exact ⟨34, 0, by omega, by decide +kernel, by decide +kernel, by decide +kernel⟩
        · exact ⟨92, 1, by omega, by decide +kernel, by decide +kernel, by decide +kernel⟩
      rw [he]
      clear he hm
      go_enter Try.func117, Try.ntmps117
      go_wp2_with (go_at_call 128; refine (standsForItself_any _ _).mono ?_; rintro e w' ⟨rfl, hw⟩; subst w')
      refine (indexByte_lib _ _ _).mono ?_
      rintro e w' ⟨rfl, hw⟩
      subst w'
      rw [hix]
      have hi0 : (0 : Int) ≤ (i : Int) := by omega
      have hi3 : (i : Int) < 2 := by omega
      have hi8 : (i : Int) < 8 := by omega
      generalize w.alloc (.cells #[.string ⟨#[92, 117, 48, 48]⟩, .string ⟨#[34, 92, 47, 98, 102, 110, 114, 116]⟩, .string ⟨#[34, 92, 47, 8, 12, 10, 13, 9]⟩, .int .i64 2] 74) = W0 at *
      go_wp2_with fail
      refine (wByte B k acc 92 92 rfl _ hH0 (by omega) (by omega)).mono ?_
      rintro e w1 ⟨rfl, h1, b1, k1⟩
      obtain ⟨_, c1, _, _⟩ := jqbox_cells (jqbox_stays hq0 hne k1)
      have hz1 := b1.size
      go_wp2_with fail
      rw [jmk_at hmk]
      refine (wByte B k _ x _ rfl _ h1 (by simp; omega) (by omega)).mono ?_
      rintro e w2 ⟨rfl, h2, b2, k2⟩
      go_wp2_with fail
      exact bodyPost_ret (v := .tuple #[]) (by simp [results, Try.results117]) rfl ⟨rfl, by simpa using h2, (hB0.trans b1).trans b2⟩
    · have t34 : ¬ (b.toNat = 34) := fun h => hm (.inl (UInt8.toNat_inj.1 h))
      have t92 : ¬ (b.toNat = 92) := fun h => hm (.inr (UInt8.toNat_inj.1 h))
      have hix : Lib.indexByte ((⟨#[34, 92, 47, 8, 12, 10, 13, 9]⟩ : ByteArray).extract 0 2).data.toList ((b.toNat : Int).toNat.toUInt8) = -1 := by
        rw [Int.toNat_natCast]
        exact jmark_none ⟨b.toNat, hb⟩ t34 t92
      have he : Qm.jesc b = [92, 117, 48, 48, Qm.hexd (b.toNat / 16), Qm.hexd (b.toNat % 16)] := by rw [Qm.jesc, if_neg hm, if_neg hp]
      rw [he]
      clear he hm
      have q1 : (0 : Int) ≤ (b.toNat : Int) / 16 := by omega
      have q2 : (b.toNat : Int) / 16 < 16 := by omega
      have q3 : (0 : Int) ≤ (b.toNat : Int) % 16 := by omega
      have q4 : (b.toNat : Int) % 16 < 16 := by omega
      go_enter Try.func117, Try.ntmps117
      go_wp2_with (go_at_call 128; refine (standsForItself_any _ _).mono ?_; rintro e w' ⟨rfl, hw⟩; subst w')
      refine (indexByte_lib _ _ _).mono ?_
      rintro e w' ⟨rfl, hw⟩
      subst w'
      rw [hix]
      generalize w.alloc (.cells #[.string ⟨#[92, 117, 48, 48]⟩, .string ⟨#[34, 92, 47, 98, 102, 110, 114, 116]⟩, .string ⟨#[34, 92, 47, 8, 12, 10, 13, 9]⟩, .int .i64 2] 74) = W0 at *
      obtain ⟨c0, _, _, _⟩ := jqbox_cells hq0
      go_wp2_with fail
      refine (wText B k acc [92, 117, 48, 48] _ rfl _ hH0 (by show acc.length + 4 ≤ _; omega) (by omega)).mono ?_
      rintro e w1 ⟨rfl, h1, b1, k1⟩
      have hz1 := b1.size
      go_wp2_with fail
      rw [hex_at]
      refine (wByte B k _ (Qm.hexd (b.toNat / 16)) _ rfl _ h1 (by simp; omega) (by omega)).mono ?_
      rintro e w2 ⟨rfl, h2, b2, k2⟩
      have hz2 := b2.size
      go_wp2_with fail
      rw [hex_at]
      refine (wByte B k _ (Qm.hexd (b.toNat % 16)) _ rfl _ h2 (by simp; omega) (by omega)).mono ?_
      rintro e w3 ⟨rfl, h3, b3, k3⟩
      go_wp2_with fail
      exact bodyPost_end (v := .tuple #[]) (by simp [results, Try.results117]) rfl ⟨rfl, by simpa using h3, ((hB0.trans b1).trans b2).trans b3⟩
end Go.Proofs.Ytfgchdnpbbgmjaa
/- Contracts: QuotePut of both sides. -/
namespace Go.Proofs.Ytfgchdnpbbgmjaa
open Go.RowKit
/-- the quoting lies in its box, and nothing up to it changed -/
abbrev HeldQb (W0 : World) (q : Nat) (W : World) : Prop := (W.cell? ⟨q, 0, none⟩ = some (.string ⟨#[92, 120]⟩) ∧ W.cell? ⟨q, 1, none⟩ = some (.string ⟨#[34, 92, 110]⟩) ∧ W.cell? ⟨q, 2, none⟩ = some (.string ⟨#[34, 92, 10]⟩) ∧ W.cell? ⟨q, 3, none⟩ = some (.int .i64 3)) ∧ Below (q + 1) W0 W
theorem HeldQb.grow {W0 w w' : World} {q : Nat} (h : HeldQb W0 q w) (hb : Below (q + 1) w w') : HeldQb W0 q w' := by
  obtain ⟨⟨x0, x1, x2, x3⟩, h3⟩ := h
  exact ⟨⟨(hb.cell (p := ⟨q, 0, none⟩) (Nat.lt_succ_self _)).trans x0, (hb.cell (p := ⟨q, 1, none⟩) (Nat.lt_succ_self _)).trans x1, (hb.cell (p := ⟨q, 2, none⟩) (Nat.lt_succ_self _)).trans x2, (hb.cell (p := ⟨q, 3, none⟩) (Nat.lt_succ_self _)).trans x3⟩, h3.trans hb⟩
theorem HeldQb.drew {W0 w : World} {q : Nat} (h : HeldQb W0 q w) : HeldQb W0 q w.drew := h.grow ((Below.refl _ _).drew)
theorem holds_lt {B k : Nat} {acc : List UInt8} {w : World} (h : Holds B k acc w) : k < w.heap.size := by
  rcases h with ⟨_, v, h, _⟩ | ⟨_, v, h, _⟩ <;> exact (Array.getElem?_eq_some_iff.1 h).1
end Go.Proofs.Ytfgchdnpbbgmjaa
/- Contracts: a text between quotes, as JSON has it. -/
namespace Go.Proofs.Ytfgchdnpbbgmjaa
open Go.RowKit
set_option maxHeartbeats 1000000 in
theorem l7Quote_any (s : ByteArray) (w : World) (hs : s.size ≤ 10000000) :
    Calls Try.prog 83 #[.string s] w fun e w' => e = .returned (.string ⟨(Qm.jquote s.data.toList).toArray⟩) ∧ Below w.heap.size w w' := by
  go_enter Try.func83, Try.ntmps83
  go_wp2_with fail
  go_loopw [3, 4] (fun o i wr => ∃ k : Nat, k ≤ s.size ∧ i = .int .i64 k ∧ o = .string ⟨(34 :: (s.data.toList.take k).flatMap Qm.jesc).toArray⟩ ∧ Below w.heap.size w wr) (fun _ i _ => s.size - (intOf i).toNat)
  case atStart => exact ⟨0, Nat.zero_le _, rfl, rfl, Below.refl _ _⟩
  case round =>
    obtain ⟨k, hk, rfl, rfl, hB⟩ := hrel
    have hfl := Qm.jflat_length (s.data.toList.take k)
    have htl : (s.data.toList.take k).length ≤ k := List.length_take_le _ _
    by_cases hlt : k < s.size
    · have HS : Hid ((s.data.toList.take (k + 1)).flatMap Qm.jesc = (s.data.toList.take k).flatMap Qm.jesc ++ Qm.jesc s[k]) := Qm.jflat_take s k hlt
      have hel := Qm.jesc_length s[k]
      have hsz1 := arr_size (34 :: (s.data.toList.take k).flatMap Qm.jesc)
      have hsz2 := arr_size (Qm.jesc s[k])
      rw [List.length_cons] at hsz1
      go_wp2_with (go_at_call 104; refine (l7Escape_any _ _).mono ?_; rintro e w1 ⟨rfl, hb1⟩)
      go_roundw
      case rel => exact ⟨k + 1, by omega, by go_num, by rw [arr_append, HS.out, List.cons_append], hB.trans (hb1.mono hB.size)⟩
      case measure => simp [intOf]; omega
    · have ht : s.data.toList.take k = s.data.toList := List.take_of_length_le (by rw [Qm.len_eq]; omega)
      have HT : Hid (Qm.jquote s.data.toList = 34 :: ((s.data.toList.take k).flatMap Qm.jesc ++ [34])) := by unfold Hid; rw [ht]; rfl
      clear ht
      generalize (s.data.toList.take k).flatMap Qm.jesc = F at *
      have hsz1 := arr_size (34 :: F)
      rw [List.length_cons] at hsz1
      go_wp2_with fail
      go_ret
      exact ⟨ret_str (by rw [HT.out, show (⟨#[34]⟩ : ByteArray) = ⟨[34].toArray⟩ from rfl, arr_append]; rfl), hB⟩

/-- the quoting lies in its box, and nothing up to it changed -/
abbrev JHeldQb (W0 : World) (q : Nat) (W : World) : Prop := (W.cell? ⟨q, 0, none⟩ = some (.string ⟨#[92, 117, 48, 48]⟩) ∧ W.cell? ⟨q, 1, none⟩ = some (.string ⟨#[34, 92, 47, 98, 102, 110, 114, 116]⟩) ∧ W.cell? ⟨q, 2, none⟩ = some (.string ⟨#[34, 92, 47, 8, 12, 10, 13, 9]⟩) ∧ W.cell? ⟨q, 3, none⟩ = some (.int .i64 2)) ∧ Below (q + 1) W0 W
theorem JHeldQb.grow {W0 w w' : World} {q : Nat} (h : JHeldQb W0 q w) (hb : Below (q + 1) w w') : JHeldQb W0 q w' := by
  obtain ⟨⟨x0, x1, x2, x3⟩, h3⟩ := h
  exact ⟨⟨(hb.cell (p := ⟨q, 0, none⟩) (Nat.lt_succ_self _)).trans x0, (hb.cell (p := ⟨q, 1, none⟩) (Nat.lt_succ_self _)).trans x1, (hb.cell (p := ⟨q, 2, none⟩) (Nat.lt_succ_self _)).trans x2, (hb.cell (p := ⟨q, 3, none⟩) (Nat.lt_succ_self _)).trans x3⟩, h3.trans hb⟩
theorem JHeldQb.drew {W0 w : World} {q : Nat} (h : JHeldQb W0 q w) : JHeldQb W0 q w.drew := h.grow ((Below.refl _ _).drew)
set_option maxHeartbeats 1000000 in
theorem jput_any (s : ByteArray) (w : World) (hs : s.size ≤ 10000000) :
    Calls Try.prog 97 #[jpq, .string s] w fun e w' => e = .returned (.string ⟨(Qm.jquote s.data.toList).toArray⟩) ∧ Below w.heap.size w w' := by
  go_enter Try.func97, Try.ntmps97
  go_wp2_with fail
  have hq0 := jqbox_new w
  have hB0 := (Below.refl _ w).alloc (Nat.le_refl _) (.cells #[.string ⟨#[92, 117, 48, 48]⟩, .string ⟨#[34, 92, 47, 98, 102, 110, 114, 116]⟩, .string ⟨#[34, 92, 47, 8, 12, 10, 13, 9]⟩, .int .i64 2] 74)
  have h0 : Holds (w.heap.size + 1) (w.heap.size + 1) [] ((w.alloc (.cells #[.string ⟨#[92, 117, 48, 48]⟩, .string ⟨#[34, 92, 47, 98, 102, 110, 114, 116]⟩, .string ⟨#[34, 92, 47, 8, 12, 10, 13, 9]⟩, .int .i64 2] 74)).alloc (.cells #[.pointer none, .slice none 0 0] 72)) := by
    have := Lib.IsBuilderF.of (Lib.fresh_isBuilder 72 5 (w.alloc (.cells #[.string ⟨#[92, 117, 48, 48]⟩, .string ⟨#[34, 92, 47, 98, 102, 110, 114, 116]⟩, .string ⟨#[34, 92, 47, 8, 12, 10, 13, 9]⟩, .int .i64 2] 74)))
    simp at this
    exact this
  have b0 : Below (w.heap.size + 1) (w.alloc (.cells #[.string ⟨#[92, 117, 48, 48]⟩, .string ⟨#[34, 92, 47, 98, 102, 110, 114, 116]⟩, .string ⟨#[34, 92, 47, 8, 12, 10, 13, 9]⟩, .int .i64 2] 74)) ((w.alloc (.cells #[.string ⟨#[92, 117, 48, 48]⟩, .string ⟨#[34, 92, 47, 98, 102, 110, 114, 116]⟩, .string ⟨#[34, 92, 47, 8, 12, 10, 13, 9]⟩, .int .i64 2] 74)).alloc (.cells #[.pointer none, .slice none 0 0] 72)) := (Below.refl _ _).alloc (by simp) _
  have hsz : w.heap.size + 1 ≤ (w.alloc (.cells #[.string ⟨#[92, 117, 48, 48]⟩, .string ⟨#[34, 92, 47, 98, 102, 110, 114, 116]⟩, .string ⟨#[34, 92, 47, 8, 12, 10, 13, 9]⟩, .int .i64 2] 74)).heap.size := by simp
  generalize w.alloc (.cells #[.string ⟨#[92, 117, 48, 48]⟩, .string ⟨#[34, 92, 47, 98, 102, 110, 114, 116]⟩, .string ⟨#[34, 92, 47, 8, 12, 10, 13, 9]⟩, .int .i64 2] 74) = W0 at *
  have hz0 := b0.size
  refine (wByte _ _ [] 34 34 rfl _ h0 (by simp) (by omega)).mono ?_
  rintro e w1 ⟨rfl, h1, b1, k1⟩
  have hB1 := b0.trans b1
  clear h0 b0 b1 k1 hz0
  have HQ : Hid (∀ W, Below (w.heap.size + 1) W0 W → JQbox w.heap.size W) := fun W h => (h.block _ (by omega)).trans hq0
  have HB : Hid (∀ W, Below (w.heap.size + 1) W0 W → Below w.heap.size w W) := fun W h => hB0.trans (h.mono (by omega))
  clear hq0 hB0
  go_wp2_with fail
  go_loopw [10] (fun i wr => ∃ k : Nat, k ≤ s.size ∧ i = .int .i64 k ∧ Holds (w.heap.size + 1) (w.heap.size + 1) (34 :: (s.data.toList.take k).flatMap Qm.jesc) wr ∧ Below (w.heap.size + 1) W0 wr) (fun i _ => s.size - (intOf i).toNat)
  case atStart => exact ⟨0, Nat.zero_le _, rfl, h1, hB1⟩
  case round =>
    obtain ⟨k, hk, rfl, hH, hB⟩ := hrel
    have hfl := Qm.jflat_length (s.data.toList.take k)
    have htl : (s.data.toList.take k).length ≤ k := List.length_take_le _ _
    have hz := hB.size
    have hkk := holds_lt hH
    obtain ⟨c0, c1, c2, c3⟩ := jqbox_cells (HQ.out _ hB)
    by_cases hlt : k < s.size
    · have HS : Hid ((s.data.toList.take (k + 1)).flatMap Qm.jesc = (s.data.toList.take k).flatMap Qm.jesc ++ Qm.jesc s[k]) := Qm.jflat_take s k hlt
      have hS0 : JHeldQb W0 w.heap.size wr := ⟨⟨c0, c1, c2, c3⟩, hB⟩
      have hkl : (k : Int) < (s.size : Int) := by omega
      clear c0 c1 c2 c3
      go_wp2_with fail
      refine wp_region_held_drew (S := fun w' => JHeldQb W0 w.heap.size w') (by kernel_rfl) hS0.drew (fun hHeld => ?_)
      refine wpAnyH_take (i := 0) (v := jpq) rfl (by kernel_rfl) (by kernel_rfl) (by kernel_rfl) (fun _ _ _ h => h) (Or.inl ⟨by rfl, ?_⟩) (by assumption) ?_
      · intro w hSw
        (try dsimp only at hSw)
        go_simp
      (try simp only [Act.put, List.getElem_toArray, List.getElem_cons_zero, List.setIfInBounds_toArray, List.set_cons_zero, List.set_cons_succ])
      refine wpAnyH_take (i := 1) (v := .string s) rfl (by kernel_rfl) (by kernel_rfl) (by kernel_rfl) (fun _ _ _ h => h) (Or.inl ⟨by rfl, ?_⟩) (by assumption) ?_
      · intro w hSw
        (try dsimp only at hSw)
        go_simp
      (try simp only [Act.put, List.getElem_toArray, List.getElem_cons_zero, List.getElem_cons_succ, List.setIfInBounds_toArray, List.set_cons_zero, List.set_cons_succ])
      refine wpAnyH_take (i := 2) (v := .int .i64 k) rfl (by kernel_rfl) (by kernel_rfl) (by kernel_rfl) (fun _ _ _ h => h) (Or.inl ⟨by rfl, ?_⟩) (by assumption) ?_
      · intro w hSw
        (try dsimp only at hSw)
        go_simp
      (try simp only [Act.put, List.getElem_toArray, List.getElem_cons_zero, List.getElem_cons_succ, List.setIfInBounds_toArray, List.set_cons_zero, List.set_cons_succ])
      refine wpAnyH_take (i := 3) (v := .int .u8 s[k].toNat) rfl (by kernel_rfl) (by kernel_rfl) (by kernel_rfl) (fun _ _ _ h => h) (Or.inl ⟨by rfl, ?_⟩) (by assumption) ?_
      · intro w hSw
        (try dsimp only at hSw)
        go_simp
      (try simp only [Act.put, List.getElem_toArray, List.getElem_cons_zero, List.getElem_cons_succ, List.setIfInBounds_toArray, List.set_cons_zero, List.set_cons_succ])
      refine wpAnyH_ready (rs := [4]) (by kernel_rfl) (by simp) ?_
      refine AllReadyH.cons rfl (fun K hK => ?_) AllReadyH.nil
      go_simp
      refine (jputByte_any s[k] _ (w.heap.size + 1) (w.heap.size + 1) _ (show Holds _ _ _ wr.drew from hH) (by show _ < wr.heap.size; exact hkk) (by rw [List.length_cons]; omega) (by show _ ≤ wr.heap.size; omega)).mono ?_
      rintro r w2 ⟨rfl, hH2, hb2⟩
      have hS := JHeldQb.grow (by assumption) hb2
      go_wp2_with fail
      refine hK.out _ _ hS (fun hHeld => ?_)
      clear hK K hS
      refine wpAnyH_done (by kernel_rfl) ?_ _
      go_wp2_with fail
      go_round
      case rel => exact ⟨k + 1, by omega, by go_num, by rw [HS.out]; exact hH2, hHeld.2⟩
      case measure => simp [intOf]; omega
    · have ht : s.data.toList.take k = s.data.toList := List.take_of_length_le (by rw [Qm.len_eq]; omega)
      rw [ht] at hH hfl htl
      clear ht
      have hkl : ¬ (k : Int) < (s.size : Int) := by omega
      go_wp2_with fail
      refine (wByte _ _ _ 34 34 rfl _ hH (by rw [List.length_cons]; omega) (by omega)).mono ?_
      rintro e w2 ⟨rfl, h2, b2, k2⟩
      have b2' := hB.trans b2
      have hz2 := b2'.size
      go_wp2_with fail
      refine (bString _ _ _ _ h2 (by omega)).mono ?_
      rintro e w3 ⟨rfl, h3, b3, k3⟩
      have hBe := HB.out _ (b2'.trans b3)
      go_wp2_with fail
      go_ret
      exact ⟨rfl, hBe⟩
end Go.Proofs.Ytfgchdnpbbgmjaa
/- Values as JSON, by the program: boxes beside a builder; where a text is written. -/
namespace Go.Proofs.Ytfgchdnpbbgmjaa
open Go.RowKit
/-- block b has just these cells -/
def Box (W : World) (b : Nat) (T : TypeId) (cs : List Value) : Prop := W.heap[b]? = some (.cells cs.toArray T (0, 0))
theorem Box.new (w : World) (T : TypeId) (cs : List Value) : Box (w.alloc (.cells cs.toArray T)) w.heap.size T cs := by
  show (w.heap.push _)[w.heap.size]? = _
  rw [Array.getElem?_push, if_pos rfl]
theorem Box.lt {W : World} {b : Nat} {T : TypeId} {cs : List Value} (h : Box W b T cs) : b < W.heap.size := (Array.getElem?_eq_some_iff.1 h).1
theorem Box.below {B : Nat} {W W' : World} {b : Nat} {T : TypeId} {cs : List Value} (h : Box W b T cs) (hb : Below B W W') (hB : b < B) : Box W' b T cs := (hb.block _ hB).trans h
theorem Box.kept {W W' : World} {b k : Nat} {T : TypeId} {cs : List Value} (h : Box W b T cs) (hk : Lib.OthersKept 5 (some k) W W') (hne : b ≠ k) (hT : T ≠ 5) : Box W' b T cs :=
  hk b _ h (fun e => hne (Option.some.inj e)) (fun c fz e => by cases e; exact hT rfl)
theorem Box.cell {W : World} {b : Nat} {T : TypeId} {cs : List Value} (h : Box W b T cs) {i : Nat} {v : Value} (hi : cs[i]? = some v) : W.cell? ⟨b, i, none⟩ = some v := by
  unfold Box at h
  simp [World.cell?, h, hi]
theorem kept_of_below {e : TypeId} {b : Option Nat} {w w' : World} (hb : Below w.heap.size w w') : Lib.OthersKept e b w w' := fun k _ h _ _ =>
  (hb.block k (Array.getElem?_eq_some_iff.1 h).1).trans h
theorem rowF_belowJ {W W' : World} {base : Nat} {e : TypeId} {size : Nat} {v : Value} {n : Nat} {xs : List Value} (h : W.ownsRowF base e size v n xs) (hb : Below W.heap.size W W') : W'.ownsRowF base e size v n xs := by
  obtain ⟨h1, h2⟩ := h
  rcases h2 with h2 | ⟨g, cap, cur, fz, e1, e2, e3, e4⟩
  · exact ⟨h1, .inl h2⟩
  · exact ⟨h1, .inr ⟨g, cap, cur, fz, e1, e2, (hb.block g (Array.getElem?_eq_some_iff.1 e3).1).trans e3, e4⟩⟩
theorem holds_belowJ {B k : Nat} {acc : List UInt8} {W W' : World} (h : Holds B k acc W) (hb : Below W.heap.size W W') : Holds B k acc W' := by
  have hlt := holds_lt h
  rcases h with ⟨hB, v, hv, hown, hne⟩ | ⟨hB, v, hv, hown, hne⟩
  · exact .inl ⟨hB, v, (hb.block k hlt).trans hv, rowF_belowJ hown hb, hne⟩
  · exact .inr ⟨hB, v, (hb.block k hlt).trans hv, rowF_belowJ hown hb, hne⟩
/-- what was written since w0: the builder's box is kb, its memory lies from B on -/
def Wr (B kb : Nat) (w0 : World) (acc : List UInt8) (W : World) : Prop := (Holds B kb acc W ∧ B ≤ W.heap.size) ∧ Below B w0 W ∧ Lib.OthersKept 5 (some kb) w0 W
theorem Wr.start {B kb : Nat} {acc : List UInt8} {w : World} (h : Holds B kb acc w) (hB : B ≤ w.heap.size) : Wr B kb w acc w := ⟨⟨h, hB⟩, Below.refl _ _, Lib.OthersKept.refl _ _ _⟩
theorem Wr.below {B kb : Nat} {acc : List UInt8} {w0 W W' : World} (h : Wr B kb w0 acc W) (hb : Below W.heap.size W W') : Wr B kb w0 acc W' :=
  ⟨⟨holds_belowJ h.1.1 hb, Nat.le_trans h.1.2 hb.size⟩, h.2.1.trans (hb.mono h.1.2), kept_trans h.2.2 (kept_of_below hb)⟩
theorem Wr.alloc {B kb : Nat} {acc : List UInt8} {w0 W : World} (h : Wr B kb w0 acc W) (o : Obj) : Wr B kb w0 acc (W.alloc o) := h.below ((Below.refl _ W).alloc (Nat.le_refl _) o)
theorem Wr.wrote {B kb : Nat} {acc acc' : List UInt8} {w0 W W' : World} (h : Wr B kb w0 acc W) (h1 : Holds B kb acc' W') (h2 : Below B W W') (h3 : Lib.OthersKept 5 (some kb) W W') : Wr B kb w0 acc' W' :=
  ⟨⟨h1, Nat.le_trans h.1.2 h2.size⟩, h.2.1.trans h2, kept_trans h.2.2 h3⟩
/-- a writer -/
abbrev wrV (kb : Nat) (step gap : ByteArray) : Value := .agg #[.pointer (some ⟨kb, 0, none⟩), .string ⟨#[92, 117, 48, 48]⟩, .string ⟨#[34, 92, 47, 98, 102, 110, 114, 116]⟩, .string ⟨#[34, 92, 47, 8, 12, 10, 13, 9]⟩, .int .i64 2, .string step, .string gap]
def wrCells (kb : Nat) (step gap : ByteArray) : List Value := [.pointer (some ⟨kb, 0, none⟩), .string ⟨#[92, 117, 48, 48]⟩, .string ⟨#[34, 92, 47, 98, 102, 110, 114, 116]⟩, .string ⟨#[34, 92, 47, 8, 12, 10, 13, 9]⟩, .int .i64 2, .string step, .string gap]
def vCells (h : Hd) (a : Option Addr) (n c : Nat) : List Value := [.int .i64 h.k, .int .i64 h.m, .int .i64 h.e, .string h.t, .slice a n c, .slice h.na h.ns.length h.nc]
theorem write_method (v : Value) (W : World) : (method 282 70 v "WriteString").run Try.prog W = .ok (130, v) W := by kernel_rfl
/-- a text is written -/
theorem Wr.text {B kb : Nat} {acc l : List UInt8} {w0 W : World} (h : Wr B kb w0 acc W) (s : ByteArray) (hs : s.data.toList = l) (hlen : acc.length + l.length ≤ 100000000) :
    Calls Try.prog 130 #[.pointer (some ⟨kb, 0, none⟩), .string s] W fun e w' => e = .returned (.tuple #[.int .i64 s.size, .nilIface]) ∧ Wr B kb w0 (acc ++ l) w' ∧ Lib.OthersKept 5 (some kb) W w' ∧ Below B W w' := by
  have hl : l.length = s.size := by rw [← hs, Qm.len_eq]
  refine (wText B kb acc l s hs W h.1.1 (by omega) h.1.2).mono ?_
  rintro e w' ⟨rfl, h1, h2, h3⟩
  exact ⟨rfl, h.wrote h1 h2 h3, h3, h2⟩
end Go.Proofs.Ytfgchdnpbbgmjaa
/- Values as JSON, by the program: the regions of a writer that draw. -/
namespace Go.Proofs.Ytfgchdnpbbgmjaa
open Go.RowKit
set_option maxRecDepth 100000 in
set_option maxHeartbeats 1000000 in
theorem jv12 {Q : Exit → Act → World → Prop} {t0 t1 t2 t4 t5 t6 t7 t9 t10 t11 t12 t13 t14 t15 t16 t17 t18 t19 t20 t21 t22 t23 t24 t25 t26 t27 t28 t29 t30 t31 t32 t33 t34 t35 t36 t37 t38 t39 t40 t41 t42 t43 t44 t45 t46 t47 t48 t49 t50 t51 t52 t53 t54 t55 t56 t57 t58 t59 t60 t61 t62 t63 t64 t65 t66 t67 t68 t69 t70 t71 t72 t73 t74 t75 t76 t77 t78 t79 t80 t81 t82 t83 t84 t85 : Value} {W w0 : World} {B kb b3 : Nat} {acc : List UInt8} {step gap : ByteArray} {b8 : Nat} {m e : Int}
    (h0 : Box W b3 76 (wrCells kb step gap)) (hW : Wr B kb w0 acc W) (hne : b3 ≠ kb) (h8 : Box W b8 124 [.int .i64 m, .int .i64 e]) (hne8 : b8 ≠ kb) (hlen : acc.length + (textOf m e).length ≤ 100000000)
    (hp : ∀ p d v a w, Q (.panic p) (Act.put a d v) w → Q (.panic p) a w) (h_ : ∀ ws v36 v37 v38 v39 v40 v41, Wr B kb w0 (acc ++ textOf m e) ws → Lib.OthersKept 5 (some kb) W ws → Q .normal { tmps := (t0 :: t1 :: t2 :: (.pointer (some ⟨b3, 0, none⟩)) :: t4 :: t5 :: t6 :: t7 :: (.pointer (some ⟨b8, 0, none⟩)) :: t9 :: t10 :: t11 :: t12 :: t13 :: t14 :: t15 :: t16 :: t17 :: t18 :: t19 :: t20 :: t21 :: t22 :: t23 :: t24 :: t25 :: t26 :: t27 :: t28 :: t29 :: t30 :: t31 :: t32 :: t33 :: t34 :: t35 :: v36 :: v37 :: v38 :: v39 :: v40 :: v41 :: t42 :: t43 :: t44 :: t45 :: t46 :: t47 :: t48 :: t49 :: t50 :: t51 :: t52 :: t53 :: t54 :: t55 :: t56 :: t57 :: t58 :: t59 :: t60 :: t61 :: t62 :: t63 :: t64 :: t65 :: t66 :: t67 :: t68 :: t69 :: t70 :: t71 :: t72 :: t73 :: t74 :: t75 :: t76 :: t77 :: t78 :: t79 :: t80 :: t81 :: t82 :: t83 :: t84 :: t85 :: []).toArray, defers := [] } ws) :
    Code.wp Try.prog (Code.region 12 #[{ dst := some 36, op := Op.fieldAddr 76 (Operand.tmp 3) 0, type := 0, pos := "l7_value.go:266", after := #[], guard := none }, { dst := some 37, op := Op.load 70 (Operand.tmp 36), type := 70, pos := "l7_value.go:266", after := #[{ on := 0, ground := Ground.data }], guard := none }, { dst := some 38, op := Op.makeInterface 70 (Operand.tmp 37), type := 20, pos := "l7_value.go:266", after := #[{ on := 1, ground := Ground.data }], guard := none }, { dst := some 39, op := Op.load 124 (Operand.tmp 8), type := 124, pos := "l7_value.go:266", after := #[], guard := none }, { dst := some 40, op := Op.call { callee := Callee.value (Operand.func 96), args := #[Operand.tmp 39], argTypes := #[24] }, type := 9, pos := "l7_value.go:266", after := #[{ on := 3, ground := Ground.data }], guard := none }, { dst := some 41, op := Op.call { callee := Callee.invoke (Operand.tmp 38) "WriteString", args := #[Operand.tmp 40], argTypes := #[9] }, type := 103, pos := "l7_value.go:266", after := #[{ on := 2, ground := Ground.data }, { on := 4, ground := Ground.data }, { on := 4, ground := Ground.chain }], guard := none }] true) Q { tmps := (t0 :: t1 :: t2 :: (.pointer (some ⟨b3, 0, none⟩)) :: t4 :: t5 :: t6 :: t7 :: (.pointer (some ⟨b8, 0, none⟩)) :: t9 :: t10 :: t11 :: t12 :: t13 :: t14 :: t15 :: t16 :: t17 :: t18 :: t19 :: t20 :: t21 :: t22 :: t23 :: t24 :: t25 :: t26 :: t27 :: t28 :: t29 :: t30 :: t31 :: t32 :: t33 :: t34 :: t35 :: t36 :: t37 :: t38 :: t39 :: t40 :: t41 :: t42 :: t43 :: t44 :: t45 :: t46 :: t47 :: t48 :: t49 :: t50 :: t51 :: t52 :: t53 :: t54 :: t55 :: t56 :: t57 :: t58 :: t59 :: t60 :: t61 :: t62 :: t63 :: t64 :: t65 :: t66 :: t67 :: t68 :: t69 :: t70 :: t71 :: t72 :: t73 :: t74 :: t75 :: t76 :: t77 :: t78 :: t79 :: t80 :: t81 :: t82 :: t83 :: t84 :: t85 :: []).toArray, defers := [] } W := by
  have hmeth := write_method
  have HB0x : Hid (∀ w', Below W.heap.size W w' → Box w' b3 76 (wrCells kb step gap)) := fun w' h => h0.below h h0.lt
  have HSof : Hid (∀ w', Below W.heap.size W w' → (w'.cell? ⟨b3, 0, none⟩ = some (.pointer (some ⟨kb, 0, none⟩)) ∧ w'.cell? ⟨b8, 0, none⟩ = some (.int .i64 m) ∧ w'.cell? ⟨b8, 1, none⟩ = some (.int .i64 e))) := fun w' h => ⟨(h0.below h h0.lt).cell (i := 0) rfl, (h8.below h h8.lt).cell (i := 0) rfl, (h8.below h h8.lt).cell (i := 1) rfl⟩
  have HW : Hid (∀ w', Below W.heap.size W w' → Wr B kb w0 acc w') := fun w' h => hW.below h
  have hB0 := (Below.refl W.heap.size W).drew
  have hS0 := HSof.out _ hB0
  have HL := hideIt hlen
  have HN := hideIt hne
  have H8 : Hid (∀ w', Below W.heap.size W w' → Box w' b8 124 [.int .i64 m, .int .i64 e]) := fun w' h => h8.below h h8.lt
  have HN8 := hideIt hne8
  clear h0 hW hlen hne h8 hne8
  refine wp_region_held_drew (S := fun w' => w'.cell? ⟨b3, 0, none⟩ = some (.pointer (some ⟨kb, 0, none⟩)) ∧ w'.cell? ⟨b8, 0, none⟩ = some (.int .i64 m) ∧ w'.cell? ⟨b8, 1, none⟩ = some (.int .i64 e)) (by kernel_rfl) hS0 (fun hHeld => ?_)
  refine wpAnyH_take (i := 0) (v := .pointer (some ⟨b3, 0, none⟩)) rfl (by kernel_rfl) (by kernel_rfl) (by kernel_rfl) (fun _ _ _ h => hp _ _ _ _ _ h) (Or.inl ⟨by rfl, ?_⟩) (by assumption) ?_
  · intro w hSw
    (try dsimp only at hSw)
    go_simp
  (try simp only [Act.put, List.getElem_toArray, List.getElem_cons_zero, List.setIfInBounds_toArray, List.set_cons_zero, List.set_cons_succ])
  refine wpAnyH_take (i := 1) (v := .pointer (some ⟨kb, 0, none⟩)) rfl (by kernel_rfl) (by kernel_rfl) (by kernel_rfl) (fun _ _ _ h => hp _ _ _ _ _ h) (Or.inl ⟨by rfl, ?_⟩) (by assumption) ?_
  · intro w hSw
    (try dsimp only at hSw)
    go_simp
  (try simp only [Act.put, List.getElem_toArray, List.getElem_cons_zero, List.getElem_cons_succ, List.setIfInBounds_toArray, List.set_cons_zero, List.set_cons_succ])
  refine wpAnyH_take (i := 2) (v := .iface 70 (.pointer (some ⟨kb, 0, none⟩))) rfl (by kernel_rfl) (by kernel_rfl) (by kernel_rfl) (fun _ _ _ h => hp _ _ _ _ _ h) (Or.inl ⟨by rfl, ?_⟩) (by assumption) ?_
  · intro w hSw
    (try dsimp only at hSw)
    go_simp
  (try simp only [Act.put, List.getElem_toArray, List.getElem_cons_zero, List.getElem_cons_succ, List.setIfInBounds_toArray, List.set_cons_zero, List.set_cons_succ])
  refine wpAnyH_take (i := 3) (v := .agg #[.int .i64 m, .int .i64 e]) rfl (by kernel_rfl) (by kernel_rfl) (by kernel_rfl) (fun _ _ _ h => hp _ _ _ _ _ h) (Or.inl ⟨by rfl, ?_⟩) (by assumption) ?_
  · intro w hSw
    (try dsimp only at hSw)
    go_simp
  (try simp only [Act.put, List.getElem_toArray, List.getElem_cons_zero, List.getElem_cons_succ, List.setIfInBounds_toArray, List.set_cons_zero, List.set_cons_succ])
  refine wpAnyH_ready (rs := [4]) (by kernel_rfl) (by simp) ?_
  refine AllReadyH.cons rfl (fun K hK => ?_) AllReadyH.nil
  go_simp
  refine (iDecText_any m e _).mono ?_
  rintro r w1 ⟨rfl, hb1⟩
  have hB1 := hB0.trans (hb1.mono hB0.size)
  go_wp2_with fail
  refine hK.out _ _ (HSof.out _ hB1) (fun hHeld => ?_)
  clear hK K hb1 hB0
  refine wpAnyH_ready (rs := [5]) (by kernel_rfl) (by simp) ?_
  refine AllReadyH.cons rfl (fun K hK => ?_) AllReadyH.nil
  go_simp
  refine (Wr.text (HW.out _ hB1) _ (l := textOf m e) (rfl) (by have := HL.out; omega)).mono ?_
  rintro r w2 ⟨rfl, hw2, hk2, hbB⟩
  have HW2 := hideIt hw2
  have HK2 := hideIt (kept_trans (kept_of_below hB1) hk2)
  have hS2 := hideIt ((⟨((HB0x.out _ hB1).kept hk2 HN.out (by decide)).cell (i := 0) rfl, ((H8.out _ hB1).kept hk2 HN8.out (by decide)).cell (i := 0) rfl, ((H8.out _ hB1).kept hk2 HN8.out (by decide)).cell (i := 1) rfl⟩ : (fun w' => w'.cell? ⟨b3, 0, none⟩ = some (.pointer (some ⟨kb, 0, none⟩)) ∧ w'.cell? ⟨b8, 0, none⟩ = some (.int .i64 m) ∧ w'.cell? ⟨b8, 1, none⟩ = some (.int .i64 e)) w2))
  clear hw2 hk2 hbB
  go_wp2_with fail
  refine hK.out _ _ hS2.out (fun hHeld => ?_)
  clear hK K
  refine wpAnyH_done (by kernel_rfl) ?_ _
  exact h_ _ _ _ _ _ _ _ HW2.out HK2.out
set_option maxRecDepth 100000 in
set_option maxHeartbeats 1000000 in
theorem jv15 {Q : Exit → Act → World → Prop} {t0 t1 t2 t4 t5 t6 t7 t8 t10 t11 t12 t13 t14 t15 t16 t17 t18 t19 t20 t21 t22 t23 t24 t25 t26 t27 t28 t29 t30 t31 t32 t33 t34 t35 t36 t37 t38 t39 t40 t41 t42 t43 t44 t45 t46 t47 t48 t49 t50 t51 t52 t53 t54 t55 t56 t57 t58 t59 t60 t61 t62 t63 t64 t65 t66 t67 t68 t69 t70 t71 t72 t73 t74 t75 t76 t77 t78 t79 t80 t81 t82 t83 t84 t85 : Value} {W w0 : World} {B kb b3 : Nat} {acc : List UInt8} {step gap : ByteArray} {t : ByteArray}
    (h0 : Box W b3 76 (wrCells kb step gap)) (hW : Wr B kb w0 acc W) (hne : b3 ≠ kb) (ht : t.size ≤ 10000000) (hlen : acc.length + (Qm.jquote t.data.toList).length ≤ 100000000)
    (hp : ∀ p d v a w, Q (.panic p) (Act.put a d v) w → Q (.panic p) a w) (h_ : ∀ ws v45 v46 v47 v48 v49 v50 v51 v52, Wr B kb w0 (acc ++ Qm.jquote t.data.toList) ws → Lib.OthersKept 5 (some kb) W ws → Q .normal { tmps := (t0 :: t1 :: t2 :: (.pointer (some ⟨b3, 0, none⟩)) :: t4 :: t5 :: t6 :: t7 :: t8 :: (.string t) :: t10 :: t11 :: t12 :: t13 :: t14 :: t15 :: t16 :: t17 :: t18 :: t19 :: t20 :: t21 :: t22 :: t23 :: t24 :: t25 :: t26 :: t27 :: t28 :: t29 :: t30 :: t31 :: t32 :: t33 :: t34 :: t35 :: t36 :: t37 :: t38 :: t39 :: t40 :: t41 :: t42 :: t43 :: t44 :: v45 :: v46 :: v47 :: v48 :: v49 :: v50 :: v51 :: v52 :: t53 :: t54 :: t55 :: t56 :: t57 :: t58 :: t59 :: t60 :: t61 :: t62 :: t63 :: t64 :: t65 :: t66 :: t67 :: t68 :: t69 :: t70 :: t71 :: t72 :: t73 :: t74 :: t75 :: t76 :: t77 :: t78 :: t79 :: t80 :: t81 :: t82 :: t83 :: t84 :: t85 :: []).toArray, defers := [] } ws) :
    Code.wp Try.prog (Code.region 15 #[{ dst := some 45, op := Op.fieldAddr 76 (Operand.tmp 3) 0, type := 0, pos := "l7_value.go:268", after := #[], guard := none }, { dst := some 46, op := Op.load 70 (Operand.tmp 45), type := 70, pos := "l7_value.go:268", after := #[{ on := 0, ground := Ground.data }], guard := none }, { dst := some 47, op := Op.makeInterface 70 (Operand.tmp 46), type := 20, pos := "l7_value.go:268", after := #[{ on := 1, ground := Ground.data }], guard := none }, { dst := some 48, op := Op.fieldAddr 76 (Operand.tmp 3) 1, type := 0, pos := "l7_value.go:268", after := #[], guard := none }, { dst := some 49, op := Op.load 74 (Operand.tmp 48), type := 74, pos := "l7_value.go:268", after := #[{ on := 3, ground := Ground.data }], guard := none }, { dst := some 50, op := Op.move (Operand.tmp 9), type := 125, pos := "l7_value.go:268", after := #[], guard := none }, { dst := some 51, op := Op.call { callee := Callee.value (Operand.func 97), args := #[Operand.tmp 49, Operand.tmp 50], argTypes := #[74, 9] }, type := 9, pos := "l7_value.go:268", after := #[{ on := 4, ground := Ground.data }, { on := 5, ground := Ground.data }], guard := none }, { dst := some 52, op := Op.call { callee := Callee.invoke (Operand.tmp 47) "WriteString", args := #[Operand.tmp 51], argTypes := #[9] }, type := 103, pos := "l7_value.go:268", after := #[{ on := 2, ground := Ground.data }, { on := 6, ground := Ground.data }, { on := 6, ground := Ground.chain }], guard := none }] true) Q { tmps := (t0 :: t1 :: t2 :: (.pointer (some ⟨b3, 0, none⟩)) :: t4 :: t5 :: t6 :: t7 :: t8 :: (.string t) :: t10 :: t11 :: t12 :: t13 :: t14 :: t15 :: t16 :: t17 :: t18 :: t19 :: t20 :: t21 :: t22 :: t23 :: t24 :: t25 :: t26 :: t27 :: t28 :: t29 :: t30 :: t31 :: t32 :: t33 :: t34 :: t35 :: t36 :: t37 :: t38 :: t39 :: t40 :: t41 :: t42 :: t43 :: t44 :: t45 :: t46 :: t47 :: t48 :: t49 :: t50 :: t51 :: t52 :: t53 :: t54 :: t55 :: t56 :: t57 :: t58 :: t59 :: t60 :: t61 :: t62 :: t63 :: t64 :: t65 :: t66 :: t67 :: t68 :: t69 :: t70 :: t71 :: t72 :: t73 :: t74 :: t75 :: t76 :: t77 :: t78 :: t79 :: t80 :: t81 :: t82 :: t83 :: t84 :: t85 :: []).toArray, defers := [] } W := by
  have hmeth := write_method
  have HB0x : Hid (∀ w', Below W.heap.size W w' → Box w' b3 76 (wrCells kb step gap)) := fun w' h => h0.below h h0.lt
  have HSof : Hid (∀ w', Below W.heap.size W w' → (w'.cell? ⟨b3, 0, none⟩ = some (.pointer (some ⟨kb, 0, none⟩)) ∧ w'.cell? ⟨b3, 1, none⟩ = some (.string ⟨#[92, 117, 48, 48]⟩) ∧ w'.cell? ⟨b3, 2, none⟩ = some (.string ⟨#[34, 92, 47, 98, 102, 110, 114, 116]⟩) ∧ w'.cell? ⟨b3, 3, none⟩ = some (.string ⟨#[34, 92, 47, 8, 12, 10, 13, 9]⟩) ∧ w'.cell? ⟨b3, 4, none⟩ = some (.int .i64 2))) := fun w' h => ⟨(h0.below h h0.lt).cell (i := 0) rfl, (h0.below h h0.lt).cell (i := 1) rfl, (h0.below h h0.lt).cell (i := 2) rfl, (h0.below h h0.lt).cell (i := 3) rfl, (h0.below h h0.lt).cell (i := 4) rfl⟩
  have HW : Hid (∀ w', Below W.heap.size W w' → Wr B kb w0 acc w') := fun w' h => hW.below h
  have hB0 := (Below.refl W.heap.size W).drew
  have hS0 := HSof.out _ hB0
  have HL := hideIt hlen
  have HN := hideIt hne
  clear h0 hW hlen hne
  refine wp_region_held_drew (S := fun w' => w'.cell? ⟨b3, 0, none⟩ = some (.pointer (some ⟨kb, 0, none⟩)) ∧ w'.cell? ⟨b3, 1, none⟩ = some (.string ⟨#[92, 117, 48, 48]⟩) ∧ w'.cell? ⟨b3, 2, none⟩ = some (.string ⟨#[34, 92, 47, 98, 102, 110, 114, 116]⟩) ∧ w'.cell? ⟨b3, 3, none⟩ = some (.string ⟨#[34, 92, 47, 8, 12, 10, 13, 9]⟩) ∧ w'.cell? ⟨b3, 4, none⟩ = some (.int .i64 2)) (by kernel_rfl) hS0 (fun hHeld => ?_)
  refine wpAnyH_take (i := 0) (v := .pointer (some ⟨b3, 0, none⟩)) rfl (by kernel_rfl) (by kernel_rfl) (by kernel_rfl) (fun _ _ _ h => hp _ _ _ _ _ h) (Or.inl ⟨by rfl, ?_⟩) (by assumption) ?_
  · intro w hSw
    (try dsimp only at hSw)
    go_simp
  (try simp only [Act.put, List.getElem_toArray, List.getElem_cons_zero, List.setIfInBounds_toArray, List.set_cons_zero, List.set_cons_succ])
  refine wpAnyH_take (i := 1) (v := .pointer (some ⟨kb, 0, none⟩)) rfl (by kernel_rfl) (by kernel_rfl) (by kernel_rfl) (fun _ _ _ h => hp _ _ _ _ _ h) (Or.inl ⟨by rfl, ?_⟩) (by assumption) ?_
  · intro w hSw
    (try dsimp only at hSw)
    go_simp
  (try simp only [Act.put, List.getElem_toArray, List.getElem_cons_zero, List.getElem_cons_succ, List.setIfInBounds_toArray, List.set_cons_zero, List.set_cons_succ])
  refine wpAnyH_take (i := 2) (v := .iface 70 (.pointer (some ⟨kb, 0, none⟩))) rfl (by kernel_rfl) (by kernel_rfl) (by kernel_rfl) (fun _ _ _ h => hp _ _ _ _ _ h) (Or.inl ⟨by rfl, ?_⟩) (by assumption) ?_
  · intro w hSw
    (try dsimp only at hSw)
    go_simp
  (try simp only [Act.put, List.getElem_toArray, List.getElem_cons_zero, List.getElem_cons_succ, List.setIfInBounds_toArray, List.set_cons_zero, List.set_cons_succ])
  refine wpAnyH_take (i := 3) (v := .pointer (some ⟨b3, 1, none⟩)) rfl (by kernel_rfl) (by kernel_rfl) (by kernel_rfl) (fun _ _ _ h => hp _ _ _ _ _ h) (Or.inl ⟨by rfl, ?_⟩) (by assumption) ?_
  · intro w hSw
    (try dsimp only at hSw)
    go_simp
  (try simp only [Act.put, List.getElem_toArray, List.getElem_cons_zero, List.getElem_cons_succ, List.setIfInBounds_toArray, List.set_cons_zero, List.set_cons_succ])
  refine wpAnyH_take (i := 4) (v := jpq) rfl (by kernel_rfl) (by kernel_rfl) (by kernel_rfl) (fun _ _ _ h => hp _ _ _ _ _ h) (Or.inl ⟨by rfl, ?_⟩) (by assumption) ?_
  · intro w hSw
    (try dsimp only at hSw)
    go_simp
  (try simp only [Act.put, List.getElem_toArray, List.getElem_cons_zero, List.getElem_cons_succ, List.setIfInBounds_toArray, List.set_cons_zero, List.set_cons_succ])
  refine wpAnyH_take (i := 5) (v := .string t) rfl (by kernel_rfl) (by kernel_rfl) (by kernel_rfl) (fun _ _ _ h => hp _ _ _ _ _ h) (Or.inl ⟨by rfl, ?_⟩) (by assumption) ?_
  · intro w hSw
    (try dsimp only at hSw)
    go_simp
  (try simp only [Act.put, List.getElem_toArray, List.getElem_cons_zero, List.getElem_cons_succ, List.setIfInBounds_toArray, List.set_cons_zero, List.set_cons_succ])
  refine wpAnyH_ready (rs := [6]) (by kernel_rfl) (by simp) ?_
  refine AllReadyH.cons rfl (fun K hK => ?_) AllReadyH.nil
  go_simp
  refine (jput_any t _ ht).mono ?_
  rintro r w1 ⟨rfl, hb1⟩
  have hB1 := hB0.trans (hb1.mono hB0.size)
  go_wp2_with fail
  refine hK.out _ _ (HSof.out _ hB1) (fun hHeld => ?_)
  clear hK K hb1 hB0
  refine wpAnyH_ready (rs := [7]) (by kernel_rfl) (by simp) ?_
  refine AllReadyH.cons rfl (fun K hK => ?_) AllReadyH.nil
  go_simp
  refine (Wr.text (HW.out _ hB1) _ (l := Qm.jquote t.data.toList) (rfl) (by have := HL.out; omega)).mono ?_
  rintro r w2 ⟨rfl, hw2, hk2, hbB⟩
  have HW2 := hideIt hw2
  have HK2 := hideIt (kept_trans (kept_of_below hB1) hk2)
  have hS2 := hideIt ((⟨((HB0x.out _ hB1).kept hk2 HN.out (by decide)).cell (i := 0) rfl, ((HB0x.out _ hB1).kept hk2 HN.out (by decide)).cell (i := 1) rfl, ((HB0x.out _ hB1).kept hk2 HN.out (by decide)).cell (i := 2) rfl, ((HB0x.out _ hB1).kept hk2 HN.out (by decide)).cell (i := 3) rfl, ((HB0x.out _ hB1).kept hk2 HN.out (by decide)).cell (i := 4) rfl⟩ : (fun w' => w'.cell? ⟨b3, 0, none⟩ = some (.pointer (some ⟨kb, 0, none⟩)) ∧ w'.cell? ⟨b3, 1, none⟩ = some (.string ⟨#[92, 117, 48, 48]⟩) ∧ w'.cell? ⟨b3, 2, none⟩ = some (.string ⟨#[34, 92, 47, 98, 102, 110, 114, 116]⟩) ∧ w'.cell? ⟨b3, 3, none⟩ = some (.string ⟨#[34, 92, 47, 8, 12, 10, 13, 9]⟩) ∧ w'.cell? ⟨b3, 4, none⟩ = some (.int .i64 2)) w2))
  clear hw2 hk2 hbB
  go_wp2_with fail
  refine hK.out _ _ hS2.out (fun hHeld => ?_)
  clear hK K
  refine wpAnyH_done (by kernel_rfl) ?_ _
  exact h_ _ _ _ _ _ _ _ _ _ HW2.out HK2.out
set_option maxRecDepth 100000 in
set_option maxHeartbeats 1000000 in
theorem ji9 {Q : Exit → Act → World → Prop} {t0 t1 t3 t5 t6 t7 t8 t10 t11 t12 t13 t14 t15 t16 t17 t18 t19 t20 t21 t22 t23 t24 t25 t26 t27 t28 t29 t30 t31 t32 t33 t34 t35 t36 t37 t38 t39 t40 t41 t42 t43 t44 t45 t46 t47 t48 t49 t50 t51 t52 t53 t54 t55 t56 t57 t58 t59 t60 t61 t62 : Value} {W w0 : World} {B kb b4 : Nat} {acc : List UInt8} {step gap : ByteArray} {nb no n nc j : Nat} {s : ByteArray}
    (h0 : Box W b4 76 (wrCells kb step gap)) (hW : Wr B kb w0 acc W) (hne : b4 ≠ kb) (hj : (j : Int) < (n : Int)) (hnb : nb < B) (hs : W.cell? ⟨nb, no + j, none⟩ = some (.string s)) (hsz : s.size ≤ 10000000) (hg : gap.size ≤ 2) (hlen : acc.length + (Qm.jquote s.data.toList ++ ([58] ++ gap.data.toList)).length ≤ 100000000)
    (hp : ∀ p d v a w, Q (.panic p) (Act.put a d v) w → Q (.panic p) a w) (h_ : ∀ ws v35 v36 v37 v38 v39 v40 v41 v42 v43 v44 v45 v46 v47 v48 v49, Wr B kb w0 (acc ++ (Qm.jquote s.data.toList ++ ([58] ++ gap.data.toList))) ws → Lib.OthersKept 5 (some kb) W ws → Q .normal { tmps := (t0 :: t1 :: (.slice (some ⟨nb, no, none⟩) n nc) :: t3 :: (.pointer (some ⟨b4, 0, none⟩)) :: t5 :: t6 :: t7 :: t8 :: (.int .i64 (j : Nat)) :: t10 :: t11 :: t12 :: t13 :: t14 :: t15 :: t16 :: t17 :: t18 :: t19 :: t20 :: t21 :: t22 :: t23 :: t24 :: t25 :: t26 :: t27 :: t28 :: t29 :: t30 :: t31 :: t32 :: t33 :: t34 :: v35 :: v36 :: v37 :: v38 :: v39 :: v40 :: v41 :: v42 :: v43 :: v44 :: v45 :: v46 :: v47 :: v48 :: v49 :: t50 :: t51 :: t52 :: t53 :: t54 :: t55 :: t56 :: t57 :: t58 :: t59 :: t60 :: t61 :: t62 :: []).toArray, defers := [] } ws) :
    Code.wp Try.prog (Code.region 9 #[{ dst := some 35, op := Op.fieldAddr 76 (Operand.tmp 4) 0, type := 0, pos := "l7_value.go:290", after := #[], guard := none }, { dst := some 36, op := Op.load 70 (Operand.tmp 35), type := 70, pos := "l7_value.go:290", after := #[{ on := 0, ground := Ground.data }], guard := none }, { dst := some 37, op := Op.makeInterface 70 (Operand.tmp 36), type := 20, pos := "l7_value.go:290", after := #[{ on := 1, ground := Ground.data }], guard := none }, { dst := some 38, op := Op.fieldAddr 76 (Operand.tmp 4) 1, type := 0, pos := "l7_value.go:290", after := #[], guard := none }, { dst := some 39, op := Op.load 74 (Operand.tmp 38), type := 74, pos := "l7_value.go:290", after := #[{ on := 3, ground := Ground.data }], guard := none }, { dst := some 40, op := Op.move (Operand.tmp 2), type := 26, pos := "l7_value.go:290", after := #[], guard := none }, { dst := some 41, op := Op.move (Operand.tmp 9), type := 3, pos := "l7_value.go:290", after := #[], guard := none }, { dst := some 42, op := Op.indexAddr 26 (Operand.tmp 40) (Operand.tmp 41), type := 0, pos := "l7_value.go:290", after := #[{ on := 5, ground := Ground.data }, { on := 6, ground := Ground.data }], guard := none }, { dst := some 43, op := Op.load 9 (Operand.tmp 42), type := 9, pos := "l7_value.go:290", after := #[{ on := 7, ground := Ground.data }], guard := none }, { dst := some 44, op := Op.call { callee := Callee.value (Operand.func 97), args := #[Operand.tmp 39, Operand.tmp 43], argTypes := #[74, 9] }, type := 9, pos := "l7_value.go:290", after := #[{ on := 4, ground := Ground.data }, { on := 8, ground := Ground.data }], guard := none }, { dst := some 45, op := Op.binOp BinOp.add 9 (Operand.tmp 44) (Operand.const (Value.string { data := #[58] })) 9, type := 9, pos := "l7_value.go:290", after := #[{ on := 9, ground := Ground.data }], guard := none }, { dst := some 46, op := Op.fieldAddr 76 (Operand.tmp 4) 3, type := 0, pos := "l7_value.go:290", after := #[], guard := none }, { dst := some 47, op := Op.load 9 (Operand.tmp 46), type := 9, pos := "l7_value.go:290", after := #[{ on := 11, ground := Ground.data }], guard := none }, { dst := some 48, op := Op.binOp BinOp.add 9 (Operand.tmp 45) (Operand.tmp 47) 9, type := 9, pos := "l7_value.go:290", after := #[{ on := 10, ground := Ground.data }, { on := 12, ground := Ground.data }], guard := none }, { dst := some 49, op := Op.call { callee := Callee.invoke (Operand.tmp 37) "WriteString", args := #[Operand.tmp 48], argTypes := #[9] }, type := 103, pos := "l7_value.go:290", after := #[{ on := 2, ground := Ground.data }, { on := 13, ground := Ground.data }, { on := 9, ground := Ground.chain }], guard := none }] true) Q { tmps := (t0 :: t1 :: (.slice (some ⟨nb, no, none⟩) n nc) :: t3 :: (.pointer (some ⟨b4, 0, none⟩)) :: t5 :: t6 :: t7 :: t8 :: (.int .i64 (j : Nat)) :: t10 :: t11 :: t12 :: t13 :: t14 :: t15 :: t16 :: t17 :: t18 :: t19 :: t20 :: t21 :: t22 :: t23 :: t24 :: t25 :: t26 :: t27 :: t28 :: t29 :: t30 :: t31 :: t32 :: t33 :: t34 :: t35 :: t36 :: t37 :: t38 :: t39 :: t40 :: t41 :: t42 :: t43 :: t44 :: t45 :: t46 :: t47 :: t48 :: t49 :: t50 :: t51 :: t52 :: t53 :: t54 :: t55 :: t56 :: t57 :: t58 :: t59 :: t60 :: t61 :: t62 :: []).toArray, defers := [] } W := by
  have hmeth := write_method
  have HB0x : Hid (∀ w', Below W.heap.size W w' → Box w' b4 76 (wrCells kb step gap)) := fun w' h => h0.below h h0.lt
  have HSof : Hid (∀ w', Below W.heap.size W w' → (w'.cell? ⟨b4, 0, none⟩ = some (.pointer (some ⟨kb, 0, none⟩)) ∧ w'.cell? ⟨b4, 1, none⟩ = some (.string ⟨#[92, 117, 48, 48]⟩) ∧ w'.cell? ⟨b4, 2, none⟩ = some (.string ⟨#[34, 92, 47, 98, 102, 110, 114, 116]⟩) ∧ w'.cell? ⟨b4, 3, none⟩ = some (.string ⟨#[34, 92, 47, 8, 12, 10, 13, 9]⟩) ∧ w'.cell? ⟨b4, 4, none⟩ = some (.int .i64 2) ∧ w'.cell? ⟨b4, 6, none⟩ = some (.string gap) ∧ w'.cell? ⟨nb, no + j, none⟩ = some (.string s))) := fun w' h => ⟨(h0.below h h0.lt).cell (i := 0) rfl, (h0.below h h0.lt).cell (i := 1) rfl, (h0.below h h0.lt).cell (i := 2) rfl, (h0.below h h0.lt).cell (i := 3) rfl, (h0.below h h0.lt).cell (i := 4) rfl, (h0.below h h0.lt).cell (i := 6) rfl, (h.cell (p := ⟨nb, no + j, none⟩) (World.block_lt_of_cell? _ _ hs)).trans hs⟩
  have HW : Hid (∀ w', Below W.heap.size W w' → Wr B kb w0 acc w') := fun w' h => hW.below h
  have hB0 := (Below.refl W.heap.size W).drew
  have hS0 := HSof.out _ hB0
  have HL := hideIt hlen
  have HN := hideIt hne
  have hq1 := arr_size (Qm.jquote s.data.toList)
  have hq2 := Qm.jquote_length s.data.toList
  rw [Qm.len_eq] at hq2
  have HNb := hideIt (And.intro hnb (World.block_lt_of_cell? _ _ hs))
  have HNc := hideIt hs
  clear h0 hW hlen hne hs hnb
  refine wp_region_held_drew (S := fun w' => w'.cell? ⟨b4, 0, none⟩ = some (.pointer (some ⟨kb, 0, none⟩)) ∧ w'.cell? ⟨b4, 1, none⟩ = some (.string ⟨#[92, 117, 48, 48]⟩) ∧ w'.cell? ⟨b4, 2, none⟩ = some (.string ⟨#[34, 92, 47, 98, 102, 110, 114, 116]⟩) ∧ w'.cell? ⟨b4, 3, none⟩ = some (.string ⟨#[34, 92, 47, 8, 12, 10, 13, 9]⟩) ∧ w'.cell? ⟨b4, 4, none⟩ = some (.int .i64 2) ∧ w'.cell? ⟨b4, 6, none⟩ = some (.string gap) ∧ w'.cell? ⟨nb, no + j, none⟩ = some (.string s)) (by kernel_rfl) hS0 (fun hHeld => ?_)
  refine wpAnyH_take (i := 0) (v := .pointer (some ⟨b4, 0, none⟩)) rfl (by kernel_rfl) (by kernel_rfl) (by kernel_rfl) (fun _ _ _ h => hp _ _ _ _ _ h) (Or.inl ⟨by rfl, ?_⟩) (by assumption) ?_
  · intro w hSw
    (try dsimp only at hSw)
    go_simp
  (try simp only [Act.put, List.getElem_toArray, List.getElem_cons_zero, List.setIfInBounds_toArray, List.set_cons_zero, List.set_cons_succ])
  refine wpAnyH_take (i := 1) (v := .pointer (some ⟨kb, 0, none⟩)) rfl (by kernel_rfl) (by kernel_rfl) (by kernel_rfl) (fun _ _ _ h => hp _ _ _ _ _ h) (Or.inl ⟨by rfl, ?_⟩) (by assumption) ?_
  · intro w hSw
    (try dsimp only at hSw)
    go_simp
  (try simp only [Act.put, List.getElem_toArray, List.getElem_cons_zero, List.getElem_cons_succ, List.setIfInBounds_toArray, List.set_cons_zero, List.set_cons_succ])
  refine wpAnyH_take (i := 2) (v := .iface 70 (.pointer (some ⟨kb, 0, none⟩))) rfl (by kernel_rfl) (by kernel_rfl) (by kernel_rfl) (fun _ _ _ h => hp _ _ _ _ _ h) (Or.inl ⟨by rfl, ?_⟩) (by assumption) ?_
  · intro w hSw
    (try dsimp only at hSw)
    go_simp
  (try simp only [Act.put, List.getElem_toArray, List.getElem_cons_zero, List.getElem_cons_succ, List.setIfInBounds_toArray, List.set_cons_zero, List.set_cons_succ])
  refine wpAnyH_take (i := 3) (v := .pointer (some ⟨b4, 1, none⟩)) rfl (by kernel_rfl) (by kernel_rfl) (by kernel_rfl) (fun _ _ _ h => hp _ _ _ _ _ h) (Or.inl ⟨by rfl, ?_⟩) (by assumption) ?_
  · intro w hSw
    (try dsimp only at hSw)
    go_simp
  (try simp only [Act.put, List.getElem_toArray, List.getElem_cons_zero, List.getElem_cons_succ, List.setIfInBounds_toArray, List.set_cons_zero, List.set_cons_succ])
  refine wpAnyH_take (i := 4) (v := jpq) rfl (by kernel_rfl) (by kernel_rfl) (by kernel_rfl) (fun _ _ _ h => hp _ _ _ _ _ h) (Or.inl ⟨by rfl, ?_⟩) (by assumption) ?_
  · intro w hSw
    (try dsimp only at hSw)
    go_simp
  (try simp only [Act.put, List.getElem_toArray, List.getElem_cons_zero, List.getElem_cons_succ, List.setIfInBounds_toArray, List.set_cons_zero, List.set_cons_succ])
  refine wpAnyH_take (i := 5) (v := .slice (some ⟨nb, no, none⟩) n nc) rfl (by kernel_rfl) (by kernel_rfl) (by kernel_rfl) (fun _ _ _ h => hp _ _ _ _ _ h) (Or.inl ⟨by rfl, ?_⟩) (by assumption) ?_
  · intro w hSw
    (try dsimp only at hSw)
    go_simp
  (try simp only [Act.put, List.getElem_toArray, List.getElem_cons_zero, List.getElem_cons_succ, List.setIfInBounds_toArray, List.set_cons_zero, List.set_cons_succ])
  refine wpAnyH_take (i := 6) (v := .int .i64 (j : Nat)) rfl (by kernel_rfl) (by kernel_rfl) (by kernel_rfl) (fun _ _ _ h => hp _ _ _ _ _ h) (Or.inl ⟨by rfl, ?_⟩) (by assumption) ?_
  · intro w hSw
    (try dsimp only at hSw)
    go_simp
  (try simp only [Act.put, List.getElem_toArray, List.getElem_cons_zero, List.getElem_cons_succ, List.setIfInBounds_toArray, List.set_cons_zero, List.set_cons_succ])
  refine wpAnyH_take (i := 7) (v := .pointer (some ⟨nb, no + j, none⟩)) rfl (by kernel_rfl) (by kernel_rfl) (by kernel_rfl) (fun _ _ _ h => hp _ _ _ _ _ h) (Or.inl ⟨by rfl, ?_⟩) (by assumption) ?_
  · intro w hSw
    (try dsimp only at hSw)
    go_simp
  (try simp only [Act.put, List.getElem_toArray, List.getElem_cons_zero, List.getElem_cons_succ, List.setIfInBounds_toArray, List.set_cons_zero, List.set_cons_succ])
  refine wpAnyH_take (i := 8) (v := .string s) rfl (by kernel_rfl) (by kernel_rfl) (by kernel_rfl) (fun _ _ _ h => hp _ _ _ _ _ h) (Or.inl ⟨by rfl, ?_⟩) (by assumption) ?_
  · intro w hSw
    (try dsimp only at hSw)
    go_simp
  (try simp only [Act.put, List.getElem_toArray, List.getElem_cons_zero, List.getElem_cons_succ, List.setIfInBounds_toArray, List.set_cons_zero, List.set_cons_succ])
  refine wpAnyH_take (i := 11) (v := .pointer (some ⟨b4, 6, none⟩)) rfl (by kernel_rfl) (by kernel_rfl) (by kernel_rfl) (fun _ _ _ h => hp _ _ _ _ _ h) (Or.inl ⟨by rfl, ?_⟩) (by assumption) ?_
  · intro w hSw
    (try dsimp only at hSw)
    go_simp
  (try simp only [Act.put, List.getElem_toArray, List.getElem_cons_zero, List.getElem_cons_succ, List.setIfInBounds_toArray, List.set_cons_zero, List.set_cons_succ])
  refine wpAnyH_take (i := 12) (v := .string gap) rfl (by kernel_rfl) (by kernel_rfl) (by kernel_rfl) (fun _ _ _ h => hp _ _ _ _ _ h) (Or.inl ⟨by rfl, ?_⟩) (by assumption) ?_
  · intro w hSw
    (try dsimp only at hSw)
    go_simp
  (try simp only [Act.put, List.getElem_toArray, List.getElem_cons_zero, List.getElem_cons_succ, List.setIfInBounds_toArray, List.set_cons_zero, List.set_cons_succ])
  refine wpAnyH_ready (rs := [9]) (by kernel_rfl) (by simp) ?_
  refine AllReadyH.cons rfl (fun K hK => ?_) AllReadyH.nil
  go_simp
  refine (jput_any s _ hsz).mono ?_
  rintro r w1 ⟨rfl, hb1⟩
  have hB1 := hB0.trans (hb1.mono hB0.size)
  go_wp2_with fail
  refine hK.out _ _ (HSof.out _ hB1) (fun hHeld => ?_)
  clear hK K hb1 hB0
  refine wpAnyH_take (i := 10) (v := .string (⟨(Qm.jquote s.data.toList).toArray⟩ ++ ⟨#[58]⟩)) rfl (by kernel_rfl) (by kernel_rfl) (by kernel_rfl) (fun _ _ _ h => hp _ _ _ _ _ h) (Or.inl ⟨by rfl, ?_⟩) (by assumption) ?_
  · intro w hSw
    (try dsimp only at hSw)
    (go_simp; omega)
  (try simp only [Act.put, List.getElem_toArray, List.getElem_cons_zero, List.getElem_cons_succ, List.setIfInBounds_toArray, List.set_cons_zero, List.set_cons_succ])
  refine wpAnyH_take (i := 13) (v := .string (⟨(Qm.jquote s.data.toList).toArray⟩ ++ ⟨#[58]⟩ ++ gap)) rfl (by kernel_rfl) (by kernel_rfl) (by kernel_rfl) (fun _ _ _ h => hp _ _ _ _ _ h) (Or.inl ⟨by rfl, ?_⟩) (by assumption) ?_
  · intro w hSw
    (try dsimp only at hSw)
    (go_simp; omega)
  (try simp only [Act.put, List.getElem_toArray, List.getElem_cons_zero, List.getElem_cons_succ, List.setIfInBounds_toArray, List.set_cons_zero, List.set_cons_succ])
  refine wpAnyH_ready (rs := [14]) (by kernel_rfl) (by simp) ?_
  refine AllReadyH.cons rfl (fun K hK => ?_) AllReadyH.nil
  go_simp
  refine (Wr.text (HW.out _ hB1) _ (l := (Qm.jquote s.data.toList ++ ([58] ++ gap.data.toList))) (by simp [ByteArray.data_append]) (by have := HL.out; omega)).mono ?_
  rintro r w2 ⟨rfl, hw2, hk2, hbB⟩
  have HW2 := hideIt hw2
  have HK2 := hideIt (kept_trans (kept_of_below hB1) hk2)
  have hS2 := hideIt ((⟨((HB0x.out _ hB1).kept hk2 HN.out (by decide)).cell (i := 0) rfl, ((HB0x.out _ hB1).kept hk2 HN.out (by decide)).cell (i := 1) rfl, ((HB0x.out _ hB1).kept hk2 HN.out (by decide)).cell (i := 2) rfl, ((HB0x.out _ hB1).kept hk2 HN.out (by decide)).cell (i := 3) rfl, ((HB0x.out _ hB1).kept hk2 HN.out (by decide)).cell (i := 4) rfl, ((HB0x.out _ hB1).kept hk2 HN.out (by decide)).cell (i := 6) rfl, (hbB.cell (p := ⟨nb, no + j, none⟩) HNb.out.1).trans ((hB1.cell (p := ⟨nb, no + j, none⟩) HNb.out.2).trans HNc.out)⟩ : (fun w' => w'.cell? ⟨b4, 0, none⟩ = some (.pointer (some ⟨kb, 0, none⟩)) ∧ w'.cell? ⟨b4, 1, none⟩ = some (.string ⟨#[92, 117, 48, 48]⟩) ∧ w'.cell? ⟨b4, 2, none⟩ = some (.string ⟨#[34, 92, 47, 98, 102, 110, 114, 116]⟩) ∧ w'.cell? ⟨b4, 3, none⟩ = some (.string ⟨#[34, 92, 47, 8, 12, 10, 13, 9]⟩) ∧ w'.cell? ⟨b4, 4, none⟩ = some (.int .i64 2) ∧ w'.cell? ⟨b4, 6, none⟩ = some (.string gap) ∧ w'.cell? ⟨nb, no + j, none⟩ = some (.string s)) w2))
  clear hw2 hk2 hbB
  go_wp2_with fail
  refine hK.out _ _ hS2.out (fun hHeld => ?_)
  clear hK K
  refine wpAnyH_done (by kernel_rfl) ?_ _
  exact h_ _ _ _ _ _ _ _ _ _ _ _ _ _ _ _ _ HW2.out HK2.out
end Go.Proofs.Ytfgchdnpbbgmjaa
