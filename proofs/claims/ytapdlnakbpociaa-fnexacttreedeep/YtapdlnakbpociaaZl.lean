/- How many trees a tree has and how deep it is, by the program: what the map holds; how deep the first so many of a list are. -/
import Derived.Test.YtapdlnakbpociaaZk
namespace Go.Proofs.Ytapdlnakbpociaa
open Go.RowKit
def extV (x : Li) : Value := .agg #[.int .i64 x.F.size, .int .i64 x.F.deep]
def exts' : List Li → List (Pl × Value)
  | [] => []
  | x :: t => putL x.pl (extV x) (exts' t)
/-- what the map holds behind those lists -/
def exts (pre : List Li) : List (Pl × Value) := exts' pre.reverse
theorem exts_snoc (pre : List Li) (x : Li) : exts (pre ++ [x]) = putL x.pl (extV x) (exts pre) := by
  unfold exts
  rw [List.reverse_append]
  rfl
theorem exts_keys' : ∀ (l : List Li) (q : Pl × Value), q ∈ exts' l → ∃ y ∈ l, y.pl = q.1 := by
  intro l
  induction l with
  | nil => intro q hq; exact absurd hq List.not_mem_nil
  | cons x t ih =>
    intro q hq
    rcases putL_keys _ _ _ q hq with e | hq
    · exact ⟨x, List.mem_cons_self, e.symm⟩
    · obtain ⟨y, hy, e⟩ := ih q hq
      exact ⟨y, List.mem_cons_of_mem _ hy, e⟩
theorem exts_get' {w : World} {x : Li} (hx : x.Ok w) : ∀ (l : List Li), (∀ y ∈ l, y.Ok w) → (∃ z ∈ l, z.pl = x.pl) → getL x.pl (exts' l) = some (extV x) := by
  intro l
  induction l with
  | nil => rintro _ ⟨z, hz, _⟩; exact absurd hz List.not_mem_nil
  | cons y t ih =>
    rintro hok ⟨z, hz, e⟩
    show getL x.pl (putL y.pl (extV y) (exts' t)) = _
    rw [getL_put]
    by_cases h : x.pl = y.pl
    · rw [if_pos h]
      have hF := Li.F_inj hx (hok y List.mem_cons_self) h
      unfold extV
      rw [hF]
    · rw [if_neg h]
      refine ih (fun y hy => hok y (List.mem_cons_of_mem _ hy)) ⟨z, ?_, e⟩
      rcases List.mem_cons.1 hz with rfl | hz
      · exact absurd e.symm h
      · exact hz
theorem exts_keys {w : World} {pre : List Li} (hok : ∀ y ∈ pre, y.Ok w) : ∀ q ∈ exts pre, PlOk w q.1 := fun q hq => by
  obtain ⟨y, hy, e⟩ := exts_keys' _ q hq
  rw [← e]
  exact (hok y (List.mem_reverse.1 hy)).2.1
theorem exts_get {w : World} {pre : List Li} {x : Li} (hx : x.Ok w) (hok : ∀ y ∈ pre, y.Ok w) (h : ∃ z ∈ pre, z.pl = x.pl) : getL x.pl (exts pre) = some (extV x) := by
  obtain ⟨z, hz, e⟩ := h
  exact exts_get' hx _ (fun y hy => hok y (List.mem_reverse.1 hy)) ⟨z, List.mem_reverse.2 hz, e⟩
/-- how deep the first so many are -/
def Fo.dpTo (F : Fo) : Nat → Nat
  | 0 => 0
  | n + 1 => max (F.dpTo n) ((F.kidsAt n).deep + 1)
theorem dpTo_next (k : Int) (t : ByteArray) (m e : Int) (a : Option Addr) (c : Nat) (kids next : Fo) (n : Nat) : (Fo.cons k t m e a c kids next).dpTo (n + 1) = max (kids.deep + 1) (next.dpTo n) := by
  induction n with
  | zero => show max 0 (kids.deep + 1) = max (kids.deep + 1) 0; omega
  | succ n ih => show max ((Fo.cons k t m e a c kids next).dpTo (n + 1)) ((next.kidsAt n).deep + 1) = max (kids.deep + 1) (max (next.dpTo n) ((next.kidsAt n).deep + 1)); rw [ih]; omega
theorem dpTo_len (F : Fo) : F.dpTo F.len = F.deep := by
  induction F with
  | nil => rfl
  | cons k t m e a c kids next _ ih => show (Fo.cons k t m e a c kids next).dpTo (next.len + 1) = max (kids.deep + 1) next.deep; rw [dpTo_next, ih]
theorem upTo2_small {x y : Nat} (h : x + y ≤ 9223372036854775807) : upTo2 x y = x + y := if_neg (by omega)
theorem listsOf_any (k : Int) (t : ByteArray) (m e : Int) (a : Option Addr) (n c : Nat) (w : World) :
    Calls Try.prog 48 #[nodeV k t m e a n c] w fun r w' => r = .returned (.func (.func 83) #[] #[.pointer (some ⟨w.heap.size, 0, none⟩)]) ∧ w' = w.alloc (.cells #[.int .i64 k, .string t, .int .i64 m, .int .i64 e, .slice a n c] 32) := by
  go_enter Try.func48, Try.ntmps48
  go_wp2_with fail
  go_ret
  exact ⟨rfl, rfl⟩
end Go.Proofs.Ytapdlnakbpociaa
