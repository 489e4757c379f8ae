/-
  No cell of these rows narrows 'for every input' (looked for: loops, veiled, ifaces, maps, wideKeys, modest, calm, conditions, laid).
  DERIVED. THE GIVEN ROWS OF THIS SEAT. 10 by the template 'for every input the law returns true; each argument reads behind the call as it read before'; 0 by the template 'total and deterministic' (their statements: YtddephmekoiemaaTotals.lean).
  GIVEN WITH THE SEED: the statements are not yours to turn. If you find one false, say at which input.
  Laid BY PROGRAM, IN A SANDBOX (cutbox-rows.mjs): the forced cells as the released guide's own fill.sh prints them over the translation a7ef697200526ebb… (all of the seat's roots in one cut). By AI agents, Wed Nov 11 2026. No macro, syntax, notation, axiom, sorry.
-/
import Derived.Test.YtddephmekoiemaaChecked
import GoSem.Claim
import GoSem.ClaimJoined
import GoSem.ClaimMapViews
import Derived.JoinedTies
import Derived.KernelRfl
namespace Go.Proofs.Ytddephmekoiemaa
/- THE CELL 'sum', in the pinned program and in every row, IS THE sha256 OF THE DUMP (.gsa) THAT YtddephmekoiemaaProg.lean LOADS. Nothing in Lean hashes anything: it is a label: what it is worth is what the hold of that sum in a sandbox is worth. -/
noncomputable def Try.pinned : Pinned := { name := "ytddephmekoiemaa", sum := "a7ef697200526ebb5e94bf6d5c0ad470a226c692b7290233e9e6b5775f1a6056", checked := Try.checked }
namespace Rows
def none {H : Type} : Left H := { results := [], args := [] }

/-- 'laws.FnExactDecOk': WHATEVER THE INPUT: true; the input reads as it did. -/
def fnExactDecOkSpec : ChangeSpec := { name := "fnExactDecOk", fn := fun _ => fun
  | [d] => { results := [.lit (.bool true)], args := [d] }
  | _ => none }
def fnExactDecOkRow : OpenClaim := { program := "ytddephmekoiemaa", sum := "a7ef697200526ebb5e94bf6d5c0ad470a226c692b7290233e9e6b5775f1a6056", func := "loop.example/chancery/laws.FnExactDecOk", spec := "fnExactDecOk", apart := false }
def FnExactDecOkSaid : Prop := fnExactDecOkRow.holds Try.pinned (OpenSpec.ofChange fnExactDecOkSpec)

/-- ITS FALSE NEIGHBOUR: 'it returns false'. Refute it at one input. -/
def fnExactDecOkWrong : ChangeSpec := { name := "fnExactDecOk", fn := fun _ => fun
  | [d] => { results := [.lit (.bool false)], args := [d] }
  | _ => none }
def FnExactDecOkWrongFalsely : Prop := fnExactDecOkRow.holds Try.pinned (OpenSpec.ofChange fnExactDecOkWrong)

/-- 'laws.FnExactDecNew': WHATEVER THE INPUT: true; the input reads as it did. -/
def fnExactDecNewSpec : ChangeSpec := { name := "fnExactDecNew", fn := fun _ => fun
  | [d1, d2] => { results := [.lit (.bool true)], args := [d1, d2] }
  | _ => none }
def fnExactDecNewRow : OpenClaim := { program := "ytddephmekoiemaa", sum := "a7ef697200526ebb5e94bf6d5c0ad470a226c692b7290233e9e6b5775f1a6056", func := "loop.example/chancery/laws.FnExactDecNew", spec := "fnExactDecNew", apart := false }
def FnExactDecNewSaid : Prop := fnExactDecNewRow.holds Try.pinned (OpenSpec.ofChange fnExactDecNewSpec)

/-- ITS FALSE NEIGHBOUR: 'it returns false'. Refute it at one input. -/
def fnExactDecNewWrong : ChangeSpec := { name := "fnExactDecNew", fn := fun _ => fun
  | [d1, d2] => { results := [.lit (.bool false)], args := [d1, d2] }
  | _ => none }
def FnExactDecNewWrongFalsely : Prop := fnExactDecNewRow.holds Try.pinned (OpenSpec.ofChange fnExactDecNewWrong)

/-- 'laws.FnExactDecAdd': WHATEVER THE INPUT: true; the input reads as it did. -/
def fnExactDecAddSpec : ChangeSpec := { name := "fnExactDecAdd", fn := fun _ => fun
  | [d1, d2] => { results := [.lit (.bool true)], args := [d1, d2] }
  | _ => none }
def fnExactDecAddRow : OpenClaim := { program := "ytddephmekoiemaa", sum := "a7ef697200526ebb5e94bf6d5c0ad470a226c692b7290233e9e6b5775f1a6056", func := "loop.example/chancery/laws.FnExactDecAdd", spec := "fnExactDecAdd", apart := false }
def FnExactDecAddSaid : Prop := fnExactDecAddRow.holds Try.pinned (OpenSpec.ofChange fnExactDecAddSpec)

/-- ITS FALSE NEIGHBOUR: 'it returns false'. Refute it at one input. -/
def fnExactDecAddWrong : ChangeSpec := { name := "fnExactDecAdd", fn := fun _ => fun
  | [d1, d2] => { results := [.lit (.bool false)], args := [d1, d2] }
  | _ => none }
def FnExactDecAddWrongFalsely : Prop := fnExactDecAddRow.holds Try.pinned (OpenSpec.ofChange fnExactDecAddWrong)

/-- 'laws.FnExactDecSub': WHATEVER THE INPUT: true; the input reads as it did. -/
def fnExactDecSubSpec : ChangeSpec := { name := "fnExactDecSub", fn := fun _ => fun
  | [d1, d2] => { results := [.lit (.bool true)], args := [d1, d2] }
  | _ => none }
def fnExactDecSubRow : OpenClaim := { program := "ytddephmekoiemaa", sum := "a7ef697200526ebb5e94bf6d5c0ad470a226c692b7290233e9e6b5775f1a6056", func := "loop.example/chancery/laws.FnExactDecSub", spec := "fnExactDecSub", apart := false }
def FnExactDecSubSaid : Prop := fnExactDecSubRow.holds Try.pinned (OpenSpec.ofChange fnExactDecSubSpec)

/-- ITS FALSE NEIGHBOUR: 'it returns false'. Refute it at one input. -/
def fnExactDecSubWrong : ChangeSpec := { name := "fnExactDecSub", fn := fun _ => fun
  | [d1, d2] => { results := [.lit (.bool false)], args := [d1, d2] }
  | _ => none }
def FnExactDecSubWrongFalsely : Prop := fnExactDecSubRow.holds Try.pinned (OpenSpec.ofChange fnExactDecSubWrong)

/-- 'laws.FnExactDecMul': WHATEVER THE INPUT: true; the input reads as it did. -/
def fnExactDecMulSpec : ChangeSpec := { name := "fnExactDecMul", fn := fun _ => fun
  | [d1, d2] => { results := [.lit (.bool true)], args := [d1, d2] }
  | _ => none }
def fnExactDecMulRow : OpenClaim := { program := "ytddephmekoiemaa", sum := "a7ef697200526ebb5e94bf6d5c0ad470a226c692b7290233e9e6b5775f1a6056", func := "loop.example/chancery/laws.FnExactDecMul", spec := "fnExactDecMul", apart := false }
def FnExactDecMulSaid : Prop := fnExactDecMulRow.holds Try.pinned (OpenSpec.ofChange fnExactDecMulSpec)

/-- ITS FALSE NEIGHBOUR: 'it returns false'. Refute it at one input. -/
def fnExactDecMulWrong : ChangeSpec := { name := "fnExactDecMul", fn := fun _ => fun
  | [d1, d2] => { results := [.lit (.bool false)], args := [d1, d2] }
  | _ => none }
def FnExactDecMulWrongFalsely : Prop := fnExactDecMulRow.holds Try.pinned (OpenSpec.ofChange fnExactDecMulWrong)

/-- 'laws.FnExactDecDiv': WHATEVER THE INPUT: true; the input reads as it did. -/
def fnExactDecDivSpec : ChangeSpec := { name := "fnExactDecDiv", fn := fun _ => fun
  | [d1, d2, d3] => { results := [.lit (.bool true)], args := [d1, d2, d3] }
  | _ => none }
def fnExactDecDivRow : OpenClaim := { program := "ytddephmekoiemaa", sum := "a7ef697200526ebb5e94bf6d5c0ad470a226c692b7290233e9e6b5775f1a6056", func := "loop.example/chancery/laws.FnExactDecDiv", spec := "fnExactDecDiv", apart := false }
def FnExactDecDivSaid : Prop := fnExactDecDivRow.holds Try.pinned (OpenSpec.ofChange fnExactDecDivSpec)

/-- ITS FALSE NEIGHBOUR: 'it returns false'. Refute it at one input. -/
def fnExactDecDivWrong : ChangeSpec := { name := "fnExactDecDiv", fn := fun _ => fun
  | [d1, d2, d3] => { results := [.lit (.bool false)], args := [d1, d2, d3] }
  | _ => none }
def FnExactDecDivWrongFalsely : Prop := fnExactDecDivRow.holds Try.pinned (OpenSpec.ofChange fnExactDecDivWrong)

/-- 'laws.FnExactDecMod': WHATEVER THE INPUT: true; the input reads as it did. -/
def fnExactDecModSpec : ChangeSpec := { name := "fnExactDecMod", fn := fun _ => fun
  | [d1, d2] => { results := [.lit (.bool true)], args := [d1, d2] }
  | _ => none }
def fnExactDecModRow : OpenClaim := { program := "ytddephmekoiemaa", sum := "a7ef697200526ebb5e94bf6d5c0ad470a226c692b7290233e9e6b5775f1a6056", func := "loop.example/chancery/laws.FnExactDecMod", spec := "fnExactDecMod", apart := false }
def FnExactDecModSaid : Prop := fnExactDecModRow.holds Try.pinned (OpenSpec.ofChange fnExactDecModSpec)

/-- ITS FALSE NEIGHBOUR: 'it returns false'. Refute it at one input. -/
def fnExactDecModWrong : ChangeSpec := { name := "fnExactDecMod", fn := fun _ => fun
  | [d1, d2] => { results := [.lit (.bool false)], args := [d1, d2] }
  | _ => none }
def FnExactDecModWrongFalsely : Prop := fnExactDecModRow.holds Try.pinned (OpenSpec.ofChange fnExactDecModWrong)

/-- 'laws.FnExactDecCmp': WHATEVER THE INPUT: true; the input reads as it did. -/
def fnExactDecCmpSpec : ChangeSpec := { name := "fnExactDecCmp", fn := fun _ => fun
  | [d1, d2] => { results := [.lit (.bool true)], args := [d1, d2] }
  | _ => none }
def fnExactDecCmpRow : OpenClaim := { program := "ytddephmekoiemaa", sum := "a7ef697200526ebb5e94bf6d5c0ad470a226c692b7290233e9e6b5775f1a6056", func := "loop.example/chancery/laws.FnExactDecCmp", spec := "fnExactDecCmp", recurses := true, apart := false }
def FnExactDecCmpSaid : Prop := fnExactDecCmpRow.holds Try.pinned (OpenSpec.ofChange fnExactDecCmpSpec)

/-- ITS FALSE NEIGHBOUR: 'it returns false'. Refute it at one input. -/
def fnExactDecCmpWrong : ChangeSpec := { name := "fnExactDecCmp", fn := fun _ => fun
  | [d1, d2] => { results := [.lit (.bool false)], args := [d1, d2] }
  | _ => none }
def FnExactDecCmpWrongFalsely : Prop := fnExactDecCmpRow.holds Try.pinned (OpenSpec.ofChange fnExactDecCmpWrong)

/-- 'laws.FnExactDecText': WHATEVER THE INPUT: true; the input reads as it did. -/
def fnExactDecTextSpec : ChangeSpec := { name := "fnExactDecText", fn := fun _ => fun
  | [d] => { results := [.lit (.bool true)], args := [d] }
  | _ => none }
def fnExactDecTextRow : OpenClaim := { program := "ytddephmekoiemaa", sum := "a7ef697200526ebb5e94bf6d5c0ad470a226c692b7290233e9e6b5775f1a6056", func := "loop.example/chancery/laws.FnExactDecText", spec := "fnExactDecText", inPlace := ["internal/abi.NoEscape"], unfollowed := true, recurses := true, apart := false }
def FnExactDecTextSaid : Prop := fnExactDecTextRow.holds Try.pinned (OpenSpec.ofChange fnExactDecTextSpec)

/-- ITS FALSE NEIGHBOUR: 'it returns false'. Refute it at one input. -/
def fnExactDecTextWrong : ChangeSpec := { name := "fnExactDecText", fn := fun _ => fun
  | [d] => { results := [.lit (.bool false)], args := [d] }
  | _ => none }
def FnExactDecTextWrongFalsely : Prop := fnExactDecTextRow.holds Try.pinned (OpenSpec.ofChange fnExactDecTextWrong)

/-- 'laws.FnExactDecRead': WHATEVER THE INPUT: true; the input reads as it did. -/
def fnExactDecReadSpec : ChangeSpec := { name := "fnExactDecRead", fn := fun _ => fun
  | [d] => { results := [.lit (.bool true)], args := [d] }
  | _ => none }
def fnExactDecReadRow : OpenClaim := { program := "ytddephmekoiemaa", sum := "a7ef697200526ebb5e94bf6d5c0ad470a226c692b7290233e9e6b5775f1a6056", func := "loop.example/chancery/laws.FnExactDecRead", spec := "fnExactDecRead", inPlace := ["internal/bytealg.IndexByteString", "internal/bytealg.IndexString"], named := ["internal/bytealg.MaxLen"], apart := false }
def FnExactDecReadSaid : Prop := fnExactDecReadRow.holds Try.pinned (OpenSpec.ofChange fnExactDecReadSpec)

/-- ITS FALSE NEIGHBOUR: 'it returns false'. Refute it at one input. -/
def fnExactDecReadWrong : ChangeSpec := { name := "fnExactDecRead", fn := fun _ => fun
  | [d] => { results := [.lit (.bool false)], args := [d] }
  | _ => none }
def FnExactDecReadWrongFalsely : Prop := fnExactDecReadRow.holds Try.pinned (OpenSpec.ofChange fnExactDecReadWrong)

/- THE SECOND FORM. 'bulk': how many values and letters a reading holds, each counted each time it is reached (what is shared counts as often as it is met; a slice's spare places count too). A statement '..UptoSaid' is the law's where the arguments, and the package variables that the reading takes, are together of bulk at most 1048576: NARROWER than '..Said'. Prove '..Said' where nothing that the law and all that it calls make is longer than what came in: it says more and counts as full. Else prove '..UptoSaid'. A law counts once. -/
mutual
def uptoBulk {H : Type} : DataW H → Nat
  | .lit (.string bytes) => bytes.length + 1
  | .lit _ => 1
  | .nil => 1
  | .ptr d => uptoBulk d + 1
  | .slice elems spare => uptoBulkAll elems + uptoBulkAll spare + 1
  | .agg parts => uptoBulkAll parts + 1
  | .iface _ d => uptoBulk d + 1
  | .map entries => uptoBulkEntries entries + 1
  | .held _ => 1
def uptoBulkAll {H : Type} : List (DataW H) → Nat
  | [] => 0
  | d :: r => uptoBulk d + uptoBulkAll r
def uptoBulkEntries {H : Type} : List (Lit × DataW H) → Nat
  | [] => 0
  | x :: r => uptoBulkEntry x + uptoBulkEntries r
def uptoBulkEntry {H : Type} : Lit × DataW H → Nat
  | (.string bytes, d) => bytes.length + uptoBulk d + 1
  | (_, d) => uptoBulk d + 1
 end
def uptoSmall : (H : Type) → List (DataW H) → Bool := fun _ ds => decide (uptoBulkAll ds ≤ 1048576)
def OpenSpec.upto (s : _root_.Go.ChangeSpec) : _root_.Go.OpenSpec := { _root_.Go.OpenSpec.ofChange s with cond := some uptoSmall }

/-- 'laws.FnExactDecOk', WHERE WHAT IT READS IS OF BULK AT MOST 1048576: true; the input reads as it did. -/
def fnExactDecOkUptoRow : OpenClaim := { program := "ytddephmekoiemaa", sum := "a7ef697200526ebb5e94bf6d5c0ad470a226c692b7290233e9e6b5775f1a6056", func := "loop.example/chancery/laws.FnExactDecOk", spec := "fnExactDecOk", apart := false, narrowed := true }
def FnExactDecOkUptoSaid : Prop := fnExactDecOkUptoRow.holds Try.pinned (OpenSpec.upto fnExactDecOkSpec)

/-- 'laws.FnExactDecNew', WHERE WHAT IT READS IS OF BULK AT MOST 1048576: true; the input reads as it did. -/
def fnExactDecNewUptoRow : OpenClaim := { program := "ytddephmekoiemaa", sum := "a7ef697200526ebb5e94bf6d5c0ad470a226c692b7290233e9e6b5775f1a6056", func := "loop.example/chancery/laws.FnExactDecNew", spec := "fnExactDecNew", apart := false, narrowed := true }
def FnExactDecNewUptoSaid : Prop := fnExactDecNewUptoRow.holds Try.pinned (OpenSpec.upto fnExactDecNewSpec)

/-- 'laws.FnExactDecAdd', WHERE WHAT IT READS IS OF BULK AT MOST 1048576: true; the input reads as it did. -/
def fnExactDecAddUptoRow : OpenClaim := { program := "ytddephmekoiemaa", sum := "a7ef697200526ebb5e94bf6d5c0ad470a226c692b7290233e9e6b5775f1a6056", func := "loop.example/chancery/laws.FnExactDecAdd", spec := "fnExactDecAdd", apart := false, narrowed := true }
def FnExactDecAddUptoSaid : Prop := fnExactDecAddUptoRow.holds Try.pinned (OpenSpec.upto fnExactDecAddSpec)

/-- 'laws.FnExactDecSub', WHERE WHAT IT READS IS OF BULK AT MOST 1048576: true; the input reads as it did. -/
def fnExactDecSubUptoRow : OpenClaim := { program := "ytddephmekoiemaa", sum := "a7ef697200526ebb5e94bf6d5c0ad470a226c692b7290233e9e6b5775f1a6056", func := "loop.example/chancery/laws.FnExactDecSub", spec := "fnExactDecSub", apart := false, narrowed := true }
def FnExactDecSubUptoSaid : Prop := fnExactDecSubUptoRow.holds Try.pinned (OpenSpec.upto fnExactDecSubSpec)

/-- 'laws.FnExactDecMul', WHERE WHAT IT READS IS OF BULK AT MOST 1048576: true; the input reads as it did. -/
def fnExactDecMulUptoRow : OpenClaim := { program := "ytddephmekoiemaa", sum := "a7ef697200526ebb5e94bf6d5c0ad470a226c692b7290233e9e6b5775f1a6056", func := "loop.example/chancery/laws.FnExactDecMul", spec := "fnExactDecMul", apart := false, narrowed := true }
def FnExactDecMulUptoSaid : Prop := fnExactDecMulUptoRow.holds Try.pinned (OpenSpec.upto fnExactDecMulSpec)

/-- 'laws.FnExactDecDiv', WHERE WHAT IT READS IS OF BULK AT MOST 1048576: true; the input reads as it did. -/
def fnExactDecDivUptoRow : OpenClaim := { program := "ytddephmekoiemaa", sum := "a7ef697200526ebb5e94bf6d5c0ad470a226c692b7290233e9e6b5775f1a6056", func := "loop.example/chancery/laws.FnExactDecDiv", spec := "fnExactDecDiv", apart := false, narrowed := true }
def FnExactDecDivUptoSaid : Prop := fnExactDecDivUptoRow.holds Try.pinned (OpenSpec.upto fnExactDecDivSpec)

/-- 'laws.FnExactDecMod', WHERE WHAT IT READS IS OF BULK AT MOST 1048576: true; the input reads as it did. -/
def fnExactDecModUptoRow : OpenClaim := { program := "ytddephmekoiemaa", sum := "a7ef697200526ebb5e94bf6d5c0ad470a226c692b7290233e9e6b5775f1a6056", func := "loop.example/chancery/laws.FnExactDecMod", spec := "fnExactDecMod", apart := false, narrowed := true }
def FnExactDecModUptoSaid : Prop := fnExactDecModUptoRow.holds Try.pinned (OpenSpec.upto fnExactDecModSpec)

/-- 'laws.FnExactDecCmp', WHERE WHAT IT READS IS OF BULK AT MOST 1048576: true; the input reads as it did. -/
def fnExactDecCmpUptoRow : OpenClaim := { program := "ytddephmekoiemaa", sum := "a7ef697200526ebb5e94bf6d5c0ad470a226c692b7290233e9e6b5775f1a6056", func := "loop.example/chancery/laws.FnExactDecCmp", spec := "fnExactDecCmp", recurses := true, apart := false, narrowed := true }
def FnExactDecCmpUptoSaid : Prop := fnExactDecCmpUptoRow.holds Try.pinned (OpenSpec.upto fnExactDecCmpSpec)

/-- 'laws.FnExactDecText', WHERE WHAT IT READS IS OF BULK AT MOST 1048576: true; the input reads as it did. -/
def fnExactDecTextUptoRow : OpenClaim := { program := "ytddephmekoiemaa", sum := "a7ef697200526ebb5e94bf6d5c0ad470a226c692b7290233e9e6b5775f1a6056", func := "loop.example/chancery/laws.FnExactDecText", spec := "fnExactDecText", inPlace := ["internal/abi.NoEscape"], unfollowed := true, recurses := true, apart := false, narrowed := true }
def FnExactDecTextUptoSaid : Prop := fnExactDecTextUptoRow.holds Try.pinned (OpenSpec.upto fnExactDecTextSpec)

/-- 'laws.FnExactDecRead', WHERE WHAT IT READS IS OF BULK AT MOST 1048576: true; the input reads as it did. -/
def fnExactDecReadUptoRow : OpenClaim := { program := "ytddephmekoiemaa", sum := "a7ef697200526ebb5e94bf6d5c0ad470a226c692b7290233e9e6b5775f1a6056", func := "loop.example/chancery/laws.FnExactDecRead", spec := "fnExactDecRead", inPlace := ["internal/bytealg.IndexByteString", "internal/bytealg.IndexString"], named := ["internal/bytealg.MaxLen"], apart := false, narrowed := true }
def FnExactDecReadUptoSaid : Prop := fnExactDecReadUptoRow.holds Try.pinned (OpenSpec.upto fnExactDecReadSpec)

end Rows
end Go.Proofs.Ytddephmekoiemaa
