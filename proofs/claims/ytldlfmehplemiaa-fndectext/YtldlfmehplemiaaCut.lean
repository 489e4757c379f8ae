/- The library's contracts on strings.CutPrefix and strings.Cut at this dump. -/
import Derived.Shelf.Small.Wraps
import Derived.Shelf.Strings.Search2
import Derived.WalkKit
import Derived.WalkSpells
import Derived.WalkLawsBesides
import Derived.Deep.QuietTactic
import Derived.BigQuiet
import Derived.Test.YtldlfmehplemiaaRows
import Derived.Test.YtldlfmehplemiaaRm
namespace Go.Proofs.Ytldlfmehplemiaa
open Go.Shelf Go.RowKit
def lays103_ren : Ren := ⟨fun | 103 => 30 | 210 => 57 | 206 => 66 | n => n, fun | 9 => 9 | 4 => 4 | 24 => 54 | 3 => 3 | n => n, fun | n => n⟩
theorem lays103 : Lays.n103 Try.prog lays103_ren := {
  mixed := by kernel_rfl
  f103 := Try.func30.trans (congrArg some (by kernel_rfl))
  f206 := Try.func66.trans (congrArg some (by kernel_rfl))
  f210 := Try.func57.trans (congrArg some (by kernel_rfl))
  t3 := Try.underlying3
  a3 := Try.isAgg3
  z3 := Try.sizeOf3
  v3 := Try.zeroValue3
  t4 := Try.underlying4
  a4 := Try.isAgg4
  z4 := Try.sizeOf4
  v4 := Try.zeroValue4
  t9 := Try.underlying9
  a9 := Try.isAgg9
  z9 := Try.sizeOf9
  v9 := Try.zeroValue9
  t24 := Try.underlying54
  a24 := Try.isAgg54
  z24 := Try.sizeOf54
  v24 := Try.zeroValue54 }
def lays219_ren : Ren := ⟨fun | 219 => 67 | 217 => 69 | 225 => 70 | 224 => 71 | 267 => 72 | 266 => 73 | 314 => 74 | n => n, fun | 9 => 9 | 3 => 3 | 4 => 4 | 5 => 5 | 46 => 89 | 146 => 91 | 51 => 90 | n => n, fun | 1 => 0 | n => n⟩
theorem lays219 : Lays.n219 Try.prog lays219_ren := {
  mixed := by kernel_rfl
  f217 := Try.func69.trans (congrArg some (by kernel_rfl))
  f219 := Try.func67.trans (congrArg some (by kernel_rfl))
  f224 := Try.func71.trans (congrArg some (by kernel_rfl))
  f225 := Try.func70.trans (congrArg some (by kernel_rfl))
  f266 := Try.func73.trans (congrArg some (by kernel_rfl))
  f267 := Try.func72.trans (congrArg some (by kernel_rfl))
  f314 := Try.func74.trans (congrArg some (by kernel_rfl))
  t3 := Try.underlying3
  a3 := Try.isAgg3
  z3 := Try.sizeOf3
  v3 := Try.zeroValue3
  t4 := Try.underlying4
  a4 := Try.isAgg4
  z4 := Try.sizeOf4
  v4 := Try.zeroValue4
  t5 := Try.underlying5
  a5 := Try.isAgg5
  z5 := Try.sizeOf5
  v5 := Try.zeroValue5
  t9 := Try.underlying9
  a9 := Try.isAgg9
  z9 := Try.sizeOf9
  v9 := Try.zeroValue9
  t46 := Try.underlying89
  a46 := Try.isAgg89
  z46 := Try.sizeOf89
  v46 := Try.zeroValue89
  t51 := Try.underlying90
  a51 := Try.isAgg90
  z51 := Try.sizeOf90
  v51 := Try.zeroValue90
  t146 := Try.underlying91
  a146 := Try.isAgg91
  z146 := Try.sizeOf91
  v146 := Try.zeroValue91
  g1 := by kernel_rfl }
theorem arrB (s : ByteArray) : (⟨s.data.toList.toArray⟩ : ByteArray) = s := by cases s; simp
theorem arr_eq {s : ByteArray} {l : List UInt8} (h : s.data.toList = l) : s = ⟨l.toArray⟩ := by rw [← h, arrB]
theorem ext_head (s : ByteArray) (k : Nat) : (s.extract 0 k).data.toList = s.data.toList.take k := by simp [ByteArray.data_extract]
theorem ext_end (s : ByteArray) (k : Nat) : (s.extract k s.size).data.toList = s.data.toList.drop k := by
  simp [ByteArray.data_extract]
  rw [List.take_of_length_le (by rw [List.length_drop, Qm.len_eq]; exact Nat.le_refl _)]
theorem cutMinus_any (s : ByteArray) (w : World) :
    Calls Try.prog 30 #[.string s, .string ⟨#[45]⟩] w fun e w' => e = .returned (.tuple #[.string ⟨(Lib.trimPrefix s.data.toList [45]).toArray⟩, .bool (Lib.hasPrefix s.data.toList [45])]) ∧ w' = w := Any.strings_CutPrefix lays103 s ⟨#[45]⟩ w
theorem index_one (s : ByteArray) (c : UInt8) (w : World) :
    Calls Try.prog 67 #[.string s, .string ⟨#[c]⟩] w fun e w' => e = .returned (.int .i64 (Lib.indexByte s.data.toList c)) ∧ w' = w := Any.stringslite_Index_one lays219 s c w
theorem index_sp (l : List UInt8) : Lib.indexByte l 46 = match (Rm.sp l).2 with | none => -1 | some _ => ((Rm.sp l).1.length : Int) := by
  induction l with
  | nil => rfl
  | cons c t ih =>
    by_cases hc : c = 46
    · subst hc; rfl
    · rw [Lib.indexByte, if_neg (by simpa using hc), ih, Rm.sp_cons_ne t hc]
      cases (Rm.sp t).2 with
      | none => rfl
      | some b =>
        show (if (((Rm.sp t).1.length : Int) == -1) = true then (-1 : Int) else ((Rm.sp t).1.length : Int) + 1) = ((c :: (Rm.sp t).1).length : Int)
        rw [if_neg (by simp), List.length_cons]; rfl
/-- what stands ahead of a point, what behind it, and whether there is one -/
abbrev cutRes (l : List UInt8) : Ending := .returned (.tuple #[.string ⟨(Rm.sp l).1.toArray⟩, .string ⟨((Rm.sp l).2.getD []).toArray⟩, .bool (Rm.sp l).2.isSome])

set_option maxHeartbeats 1000000 in
theorem cutDotLite_any (s : ByteArray) (w : World) (hs : s.size ≤ 100000000) :
    Calls Try.prog 58 #[.string s, .string ⟨#[46]⟩] w fun e w' => e = cutRes s.data.toList ∧ Below w.heap.size w w' := by
  have HI := index_sp s.data.toList
  cases hp : (Rm.sp s.data.toList).2 with
  | none =>
    have hi : Lib.indexByte s.data.toList 46 = -1 := by rw [HI, hp]
    have HE : Hid (cutRes s.data.toList = .returned (.tuple #[.string s, .string ⟨#[]⟩, .bool false])) := by
      unfold Hid cutRes; rw [hp, Rm.sp_none hp, arrB]; rfl
    clear HI hp
    go_enter Try.func58, Try.ntmps58
    go_wp2_with fail
    refine (index_one s 46 _).mono ?_
    rintro e w' ⟨rfl, hw⟩
    subst w'
    rw [hi]
    go_wp2_with fail
    exact bodyPost_ret (v := .tuple #[.string s, .string ⟨#[]⟩, .bool false]) (by simp [results, Try.results58, go_sem]) rfl ⟨HE.out.symm, Below.refl _ _⟩
  | some b =>
    obtain ⟨k, hk⟩ : ∃ k, k = (Rm.sp s.data.toList).1.length := ⟨_, rfl⟩
    have hi : Lib.indexByte s.data.toList 46 = (k : Int) := by rw [HI, hp, hk]
    have hsome := Rm.sp_some hp
    have hlen : s.size = k + 1 + b.length := by rw [← Qm.len_eq, hsome, List.length_append, ← hk, List.length_cons]; omega
    have t1 : s.data.toList.take k = (Rm.sp s.data.toList).1 := by
      have := List.take_left' (l₂ := 46 :: b) hk.symm
      rw [← hsome] at this; exact this
    have t2 : s.data.toList.drop (k + 1) = b := by
      have h1 := List.drop_left' (l₂ := 46 :: b) hk.symm
      rw [← hsome] at h1
      rw [← List.drop_drop, h1]; rfl
    have e1 : s.extract 0 k = ⟨(Rm.sp s.data.toList).1.toArray⟩ := arr_eq ((ext_head s k).trans t1)
    have e2 : s.extract (k + 1) s.size = ⟨b.toArray⟩ := arr_eq ((ext_end s (k + 1)).trans t2)
    have HE : Hid (cutRes s.data.toList = .returned (.tuple #[.string (s.extract 0 k), .string (s.extract (k + 1) s.size), .bool true])) := by
      unfold Hid cutRes; rw [e1, e2, hp]; rfl
    clear HI hp hsome e1 e2 hk t1 t2
    have k1 : (0 : Int) ≤ k := by omega
    have k2 : (k : Int) ≤ s.size := by omega
    have k3 : (k : Int) + 1 ≤ s.size := by omega
    clear hlen
    go_enter Try.func58, Try.ntmps58
    go_wp2_with fail
    refine (index_one s 46 _).mono ?_
    rintro e w' ⟨rfl, hw⟩
    subst w'
    rw [hi]
    go_wp2_with fail
    go_quiet (fail)
    go_wp2_with fail
    exact bodyPost_ret (v := .tuple #[.string (s.extract 0 k), .string (s.extract (k + 1) s.size), .bool true]) (by simp [results, Try.results58, go_sem]) rfl ⟨HE.out.symm, below_drewN (Below.refl _ _) _⟩

set_option maxHeartbeats 400000 in
theorem cutDot_any (s : ByteArray) (w : World) (hs : s.size ≤ 100000000) :
    Calls Try.prog 31 #[.string s, .string ⟨#[46]⟩] w fun e w' => e = cutRes s.data.toList ∧ Below w.heap.size w w' := by
  go_enter Try.func31, Try.ntmps31
  go_wp2_with fail
  refine (cutDotLite_any s _ hs).mono ?_
  rintro e w1 ⟨rfl, hb⟩
  go_wp2_with fail
  exact bodyPost_ret (v := .tuple #[.string ⟨(Rm.sp s.data.toList).1.toArray⟩, .string ⟨((Rm.sp s.data.toList).2.getD []).toArray⟩, .bool (Rm.sp s.data.toList).2.isSome]) (by simp [results, Try.results31, go_sem]) rfl ⟨rfl, hb⟩
end Go.Proofs.Ytldlfmehplemiaa
