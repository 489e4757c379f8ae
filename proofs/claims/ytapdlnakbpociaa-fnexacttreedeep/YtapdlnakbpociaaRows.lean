/-
  NARROWER THAN 'FOR EVERY INPUT', by the rows' own cells (each row's printed sentence says how): FnExactTreeSize: loops · FnExactTreeDeep: loops · FnExactScopeCheck: loops · FnExactImports: loops.
  DERIVED. THE GIVEN ROWS OF THIS SEAT. 5 by the template 'for every input the law returns true; each argument reads behind the call as it read before'; 0 by the template 'total and deterministic' (their statements: YtapdlnakbpociaaTotals.lean).
  GIVEN WITH THE SEED: the statements are not yours to turn. If you find one false, say at which input.
  Laid BY PROGRAM, IN A SANDBOX (cutbox-rows.mjs): the forced cells as the released guide's own fill.sh prints them over the translation 00a0a28d81b62f6f… (all of the seat's roots in one cut). By AI agents, Wed Nov 11 2026. No macro, syntax, notation, axiom, sorry.
-/
import Derived.Test.YtapdlnakbpociaaChecked
import GoSem.Claim
import GoSem.ClaimJoined
import GoSem.ClaimMapViews
import Derived.JoinedTies
import Derived.KernelRfl
namespace Go.Proofs.Ytapdlnakbpociaa
/- THE CELL 'sum', in the pinned program and in every row, IS THE sha256 OF THE DUMP (.gsa) THAT YtapdlnakbpociaaProg.lean LOADS. Nothing in Lean hashes anything: it is a label: what it is worth is what the hold of that sum in a sandbox is worth. -/
noncomputable def Try.pinned : Pinned := { name := "ytapdlnakbpociaa", sum := "00a0a28d81b62f6ffe76a646d090bdeebb7c076b171400ab4a186f5f7314c090", checked := Try.checked }
namespace Rows
def none {H : Type} : Left H := { results := [], args := [] }

/-- 'laws.FnExactTreeSize': WHATEVER THE INPUT: true; the input reads as it did. -/
def fnExactTreeSizeSpec : ChangeSpec := { name := "fnExactTreeSize", fn := fun _ => fun
  | [d] => { results := [.lit (.bool true)], args := [d] }
  | _ => none }
def fnExactTreeSizeRow : OpenClaim := { program := "ytapdlnakbpociaa", sum := "00a0a28d81b62f6ffe76a646d090bdeebb7c076b171400ab4a186f5f7314c090", func := "loop.example/chancery/laws.FnExactTreeSize", spec := "fnExactTreeSize", unfollowed := true, recurses := true, loops := true, plainKeys := false, apart := false }
def FnExactTreeSizeSaid : Prop := fnExactTreeSizeRow.holds Try.pinned (OpenSpec.ofChange fnExactTreeSizeSpec)

/-- ITS FALSE NEIGHBOUR: 'it returns false'. Refute it at one input. -/
def fnExactTreeSizeWrong : ChangeSpec := { name := "fnExactTreeSize", fn := fun _ => fun
  | [d] => { results := [.lit (.bool false)], args := [d] }
  | _ => none }
def FnExactTreeSizeWrongFalsely : Prop := fnExactTreeSizeRow.holds Try.pinned (OpenSpec.ofChange fnExactTreeSizeWrong)

/-- 'laws.FnExactTreeDeep': WHATEVER THE INPUT: true; the input reads as it did. -/
def fnExactTreeDeepSpec : ChangeSpec := { name := "fnExactTreeDeep", fn := fun _ => fun
  | [d] => { results := [.lit (.bool true)], args := [d] }
  | _ => none }
def fnExactTreeDeepRow : OpenClaim := { program := "ytapdlnakbpociaa", sum := "00a0a28d81b62f6ffe76a646d090bdeebb7c076b171400ab4a186f5f7314c090", func := "loop.example/chancery/laws.FnExactTreeDeep", spec := "fnExactTreeDeep", unfollowed := true, recurses := true, loops := true, plainKeys := false, apart := false }
def FnExactTreeDeepSaid : Prop := fnExactTreeDeepRow.holds Try.pinned (OpenSpec.ofChange fnExactTreeDeepSpec)

/-- ITS FALSE NEIGHBOUR: 'it returns false'. Refute it at one input. -/
def fnExactTreeDeepWrong : ChangeSpec := { name := "fnExactTreeDeep", fn := fun _ => fun
  | [d] => { results := [.lit (.bool false)], args := [d] }
  | _ => none }
def FnExactTreeDeepWrongFalsely : Prop := fnExactTreeDeepRow.holds Try.pinned (OpenSpec.ofChange fnExactTreeDeepWrong)

/-- 'laws.FnExactScopeCheck': WHATEVER THE INPUT: true; the input reads as it did. -/
def fnExactScopeCheckSpec : ChangeSpec := { name := "fnExactScopeCheck", fn := fun _ => fun
  | [d] => { results := [.lit (.bool true)], args := [d] }
  | _ => none }
def fnExactScopeCheckRow : OpenClaim := { program := "ytapdlnakbpociaa", sum := "00a0a28d81b62f6ffe76a646d090bdeebb7c076b171400ab4a186f5f7314c090", func := "loop.example/chancery/laws.FnExactScopeCheck", spec := "fnExactScopeCheck", inPlace := ["slices.overlaps[string]"], unfollowed := true, recurses := true, loops := true, plainKeys := false, apart := false }
def FnExactScopeCheckSaid : Prop := fnExactScopeCheckRow.holds Try.pinned (OpenSpec.ofChange fnExactScopeCheckSpec)

/-- ITS FALSE NEIGHBOUR: 'it returns false'. Refute it at one input. -/
def fnExactScopeCheckWrong : ChangeSpec := { name := "fnExactScopeCheck", fn := fun _ => fun
  | [d] => { results := [.lit (.bool false)], args := [d] }
  | _ => none }
def FnExactScopeCheckWrongFalsely : Prop := fnExactScopeCheckRow.holds Try.pinned (OpenSpec.ofChange fnExactScopeCheckWrong)

/-- 'laws.FnExactImports': WHATEVER THE INPUT: true; the input reads as it did. -/
def fnExactImportsSpec : ChangeSpec := { name := "fnExactImports", fn := fun _ => fun
  | [d] => { results := [.lit (.bool true)], args := [d] }
  | _ => none }
def fnExactImportsRow : OpenClaim := { program := "ytapdlnakbpociaa", sum := "00a0a28d81b62f6ffe76a646d090bdeebb7c076b171400ab4a186f5f7314c090", func := "loop.example/chancery/laws.FnExactImports", spec := "fnExactImports", inPlace := ["slices.overlaps[string]"], unfollowed := true, recurses := true, loops := true, plainKeys := false, apart := false }
def FnExactImportsSaid : Prop := fnExactImportsRow.holds Try.pinned (OpenSpec.ofChange fnExactImportsSpec)

/-- ITS FALSE NEIGHBOUR: 'it returns false'. Refute it at one input. -/
def fnExactImportsWrong : ChangeSpec := { name := "fnExactImports", fn := fun _ => fun
  | [d] => { results := [.lit (.bool false)], args := [d] }
  | _ => none }
def FnExactImportsWrongFalsely : Prop := fnExactImportsRow.holds Try.pinned (OpenSpec.ofChange fnExactImportsWrong)

/-- 'laws.FnTreeOk': WHATEVER THE INPUT: true; the input reads as it did. -/
def fnTreeOkSpec : ChangeSpec := { name := "fnTreeOk", fn := fun _ => fun
  | [d] => { results := [.lit (.bool true)], args := [d] }
  | _ => none }
def fnTreeOkRow : OpenClaim := { program := "ytapdlnakbpociaa", sum := "00a0a28d81b62f6ffe76a646d090bdeebb7c076b171400ab4a186f5f7314c090", func := "loop.example/chancery/laws.FnTreeOk", spec := "fnTreeOk", unfollowed := true, recurses := true, plainKeys := false, apart := false }
def FnTreeOkSaid : Prop := fnTreeOkRow.holds Try.pinned (OpenSpec.ofChange fnTreeOkSpec)

/-- ITS FALSE NEIGHBOUR: 'it returns false'. Refute it at one input. -/
def fnTreeOkWrong : ChangeSpec := { name := "fnTreeOk", fn := fun _ => fun
  | [d] => { results := [.lit (.bool false)], args := [d] }
  | _ => none }
def FnTreeOkWrongFalsely : Prop := fnTreeOkRow.holds Try.pinned (OpenSpec.ofChange fnTreeOkWrong)

/- THE SECOND FORM. 'bulk': how many values and letters a reading holds, each counted each time it is reached (what is shared counts as often as it is met; a slice's spare places count too). A statement '..UptoSaid' is the law's where the arguments, and the package variables that the reading takes, are together of bulk at most 1048576: NARROWER than '..Said'. Prove '..Said' where nothing that the law and all that it calls make is longer than what came in: it says more and counts as full. Else prove '..UptoSaid'. A law counts once. -/
mutual
def uptoBulk {H : Type} : DataW H → Nat
  | .lit (.string bytes) => bytes.length + 1
  | .lit _ => 1
  | .nil => 1
  | .ptr d => uptoBulk d + 1
  | .slice elems spare => uptoBulkAll elems + uptoBulkAll spare + 1
  | .agg parts => uptoBulkAll parts + 1
  | .iface _ d => uptoBulk d + 1
  | .map entries => uptoBulkEntries entries + 1
  | .held _ => 1
def uptoBulkAll {H : Type} : List (DataW H) → Nat
  | [] => 0
  | d :: r => uptoBulk d + uptoBulkAll r
def uptoBulkEntries {H : Type} : List (Lit × DataW H) → Nat
  | [] => 0
  | x :: r => uptoBulkEntry x + uptoBulkEntries r
def uptoBulkEntry {H : Type} : Lit × DataW H → Nat
  | (.string bytes, d) => bytes.length + uptoBulk d + 1
  | (_, d) => uptoBulk d + 1
 end
def uptoSmall : (H : Type) → List (DataW H) → Bool := fun _ ds => decide (uptoBulkAll ds ≤ 1048576)
def OpenSpec.upto (s : _root_.Go.ChangeSpec) : _root_.Go.OpenSpec := { _root_.Go.OpenSpec.ofChange s with cond := some uptoSmall }

/-- 'laws.FnExactTreeSize', WHERE WHAT IT READS IS OF BULK AT MOST 1048576: true; the input reads as it did. -/
def fnExactTreeSizeUptoRow : OpenClaim := { program := "ytapdlnakbpociaa", sum := "00a0a28d81b62f6ffe76a646d090bdeebb7c076b171400ab4a186f5f7314c090", func := "loop.example/chancery/laws.FnExactTreeSize", spec := "fnExactTreeSize", unfollowed := true, recurses := true, loops := true, plainKeys := false, apart := false, narrowed := true }
def FnExactTreeSizeUptoSaid : Prop := fnExactTreeSizeUptoRow.holds Try.pinned (OpenSpec.upto fnExactTreeSizeSpec)

/-- 'laws.FnExactTreeDeep', WHERE WHAT IT READS IS OF BULK AT MOST 1048576: true; the input reads as it did. -/
def fnExactTreeDeepUptoRow : OpenClaim := { program := "ytapdlnakbpociaa", sum := "00a0a28d81b62f6ffe76a646d090bdeebb7c076b171400ab4a186f5f7314c090", func := "loop.example/chancery/laws.FnExactTreeDeep", spec := "fnExactTreeDeep", unfollowed := true, recurses := true, loops := true, plainKeys := false, apart := false, narrowed := true }
def FnExactTreeDeepUptoSaid : Prop := fnExactTreeDeepUptoRow.holds Try.pinned (OpenSpec.upto fnExactTreeDeepSpec)

/-- 'laws.FnExactScopeCheck', WHERE WHAT IT READS IS OF BULK AT MOST 1048576: true; the input reads as it did. -/
def fnExactScopeCheckUptoRow : OpenClaim := { program := "ytapdlnakbpociaa", sum := "00a0a28d81b62f6ffe76a646d090bdeebb7c076b171400ab4a186f5f7314c090", func := "loop.example/chancery/laws.FnExactScopeCheck", spec := "fnExactScopeCheck", inPlace := ["slices.overlaps[string]"], unfollowed := true, recurses := true, loops := true, plainKeys := false, apart := false, narrowed := true }
def FnExactScopeCheckUptoSaid : Prop := fnExactScopeCheckUptoRow.holds Try.pinned (OpenSpec.upto fnExactScopeCheckSpec)

/-- 'laws.FnExactImports', WHERE WHAT IT READS IS OF BULK AT MOST 1048576: true; the input reads as it did. -/
def fnExactImportsUptoRow : OpenClaim := { program := "ytapdlnakbpociaa", sum := "00a0a28d81b62f6ffe76a646d090bdeebb7c076b171400ab4a186f5f7314c090", func := "loop.example/chancery/laws.FnExactImports", spec := "fnExactImports", inPlace := ["slices.overlaps[string]"], unfollowed := true, recurses := true, loops := true, plainKeys := false, apart := false, narrowed := true }
def FnExactImportsUptoSaid : Prop := fnExactImportsUptoRow.holds Try.pinned (OpenSpec.upto fnExactImportsSpec)

/-- 'laws.FnTreeOk', WHERE WHAT IT READS IS OF BULK AT MOST 1048576: true; the input reads as it did. -/
def fnTreeOkUptoRow : OpenClaim := { program := "ytapdlnakbpociaa", sum := "00a0a28d81b62f6ffe76a646d090bdeebb7c076b171400ab4a186f5f7314c090", func := "loop.example/chancery/laws.FnTreeOk", spec := "fnTreeOk", unfollowed := true, recurses := true, plainKeys := false, apart := false, narrowed := true }
def FnTreeOkUptoSaid : Prop := fnTreeOkUptoRow.holds Try.pinned (OpenSpec.upto fnTreeOkSpec)

end Rows
end Go.Proofs.Ytapdlnakbpociaa
