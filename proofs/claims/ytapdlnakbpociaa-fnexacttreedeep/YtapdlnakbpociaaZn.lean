/- How many trees a tree has and how deep it is: TreeSize and TreeDeep of the program. -/
import Derived.Test.YtapdlnakbpociaaZm
import Derived.Test.YtapdlnakbpociaaSk
namespace Go.Proofs.Ytapdlnakbpociaa
open Go.RowKit
theorem Li.Ok.belowW {w w' : World} {x : Li} (h : x.Ok w) (hb : Below w.heap.size w w') : x.Ok w' := ⟨h.1.grow hb, h.2.1.below hb, h.2.2.1.below hb, h.2.2.2⟩
set_option maxRecDepth 100000 in
set_option maxHeartbeats 1000000 in
theorem iTreeSize_any (k : Int) (t : ByteArray) (m e : Int) (a : Option Addr) (F : Fo) (c : Nat) (w : World) (hok : Li.Ok w ⟨a, F, c⟩) :
    Calls Try.prog 11 #[nodeV k t m e a F.len c] w fun r w' => r = .returned (.int .i64 (F.size + 1 : Nat)) ∧ Below w.heap.size w w' := by
  have hB0 := (Below.refl _ w).alloc (Nat.le_refl _) (.cells #[.int .i64 k, .string t, .int .i64 m, .int .i64 e, .slice a F.len c] 32)
  have hfld : ∀ (x y : Int) (W : World), (Instr.field 49 (.agg #[.int .i64 x, .int .i64 y]) 0).run Try.prog W = .ok (.int .i64 x) W := fun x y W => by kernel_rfl
  go_enter Try.func11, Try.ntmps11
  go_wp2_with fail
  refine (extentOf_any k t m e a F c _ (hok.belowW hB0)).mono ?_
  rintro r w1 ⟨rfl, hb1⟩
  have hB1 := hB0.trans (hb1.mono hB0.size)
  clear hb1 hB0 hok
  go_wp2_with fail
  go_ret
  exact ⟨rfl, hB1⟩
set_option maxRecDepth 100000 in
set_option maxHeartbeats 1000000 in
theorem iTreeDeep_any (k : Int) (t : ByteArray) (m e : Int) (a : Option Addr) (F : Fo) (c : Nat) (w : World) (hok : Li.Ok w ⟨a, F, c⟩) :
    Calls Try.prog 14 #[nodeV k t m e a F.len c] w fun r w' => r = .returned (.int .i64 (F.deep + 1 : Nat)) ∧ Below w.heap.size w w' := by
  have hB0 := (Below.refl _ w).alloc (Nat.le_refl _) (.cells #[.int .i64 k, .string t, .int .i64 m, .int .i64 e, .slice a F.len c] 32)
  have hfld : ∀ (x y : Int) (W : World), (Instr.field 49 (.agg #[.int .i64 x, .int .i64 y]) 1).run Try.prog W = .ok (.int .i64 y) W := fun x y W => by kernel_rfl
  go_enter Try.func14, Try.ntmps14
  go_wp2_with fail
  refine (extentOf_any k t m e a F c _ (hok.belowW hB0)).mono ?_
  rintro r w1 ⟨rfl, hb1⟩
  have hB1 := hB0.trans (hb1.mono hB0.size)
  clear hb1 hB0 hok
  go_wp2_with fail
  go_ret
  exact ⟨rfl, hB1⟩
end Go.Proofs.Ytapdlnakbpociaa
