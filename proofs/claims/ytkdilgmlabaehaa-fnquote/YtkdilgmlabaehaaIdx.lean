/- The library's contract on strings.IndexByte at this dump; the figures of sixteen. -/
import Derived.Shelf.Small.Strs
import Derived.Test.YtkdilgmlabaehaaRows
import Derived.Test.YtkdilgmlabaehaaQg
namespace Go.Proofs.Ytkdilgmlabaehaa
open Go.Shelf Go.RowKit
def ren137 : Ren := ⟨fun | 137 => 50 | 217 => 60 | 266 => 62 | n => n, fun | 9 => 9 | 5 => 5 | 3 => 3 | n => n, fun | n => n⟩
theorem lays137 : Lays.n137 Try.prog ren137 := {
  mixed := by kernel_rfl
  f137 := Try.func50.trans (congrArg some (by kernel_rfl))
  f217 := Try.func60.trans (congrArg some (by kernel_rfl))
  f266 := Try.func62.trans (congrArg some (by kernel_rfl))
  t3 := Try.underlying3
  a3 := Try.isAgg3
  z3 := Try.sizeOf3
  v3 := Try.zeroValue3
  t5 := Try.underlying5
  a5 := Try.isAgg5
  z5 := Try.sizeOf5
  v5 := Try.zeroValue5
  t9 := Try.underlying9
  a9 := Try.isAgg9
  z9 := Try.sizeOf9
  v9 := Try.zeroValue9 }
theorem indexByte_lib (s : ByteArray) (c : Int) (w : World) :
    Calls Try.prog 50 #[.string s, .int .u8 c] w fun e w' => e = .returned (.int .i64 (Lib.indexByte s.data.toList c.toNat.toUInt8)) ∧ w' = w := Any.strings_IndexByte lays137 s c w
theorem hex_all : ∀ n : Fin 256, Lib.indexByte Qm.hexs (UInt8.ofNat n.val) = Qm.hexv (UInt8.ofNat n.val) := by decide +kernel
theorem hex_index (c : UInt8) : Lib.indexByte Qm.hexs ((c.toNat : Int).toNat.toUInt8) = Qm.hexv c := by
  have h := hex_all ⟨c.toNat, c.toNat_lt⟩
  have e : UInt8.ofNat c.toNat = c := by simp
  rw [e] at h
  rw [Int.toNat_natCast]
  show Lib.indexByte Qm.hexs (UInt8.ofNat c.toNat) = _
  rw [e]; exact h
theorem hexIndex_any (c : UInt8) (w : World) :
    Calls Try.prog 50 #[.string ⟨#[48, 49, 50, 51, 52, 53, 54, 55, 56, 57, 97, 98, 99, 100, 101, 102]⟩, .int .u8 c.toNat] w fun e w' => e = .returned (.int .i64 (Qm.hexv c)) ∧ w' = w := by
  refine (indexByte_lib _ _ w).mono ?_
  rintro e w' ⟨rfl, hw⟩
  refine ⟨?_, hw⟩
  rw [← hex_index c]; rfl
end Go.Proofs.Ytkdilgmlabaehaa
