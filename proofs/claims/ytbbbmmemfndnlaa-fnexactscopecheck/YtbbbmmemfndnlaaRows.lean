/-
  NARROWER THAN 'FOR EVERY INPUT', by the rows' own cells (each row's printed sentence says how): FnExactFrees: loops · FnExactScopeCheck: loops · FnExactRename: loops · FnExactImports: loops.
  DERIVED. THE GIVEN ROWS OF THIS SEAT. 4 by the template 'for every input the law returns true; each argument reads behind the call as it read before'; 0 by the template 'total and deterministic' (their statements: YtbbbmmemfndnlaaTotals.lean).
  GIVEN WITH THE SEED: the statements are not yours to turn. If you find one false, say at which input.
  Laid BY PROGRAM, IN A SANDBOX (cutbox-rows.mjs): the forced cells as the released guide's own fill.sh prints them over the translation eb4765b084e4d945… (all of the seat's roots in one cut). By AI agents, Wed Nov 11 2026. No macro, syntax, notation, axiom, sorry.
-/
import Derived.Test.YtbbbmmemfndnlaaChecked
import GoSem.Claim
import GoSem.ClaimJoined
import GoSem.ClaimMapViews
import Derived.JoinedTies
import Derived.KernelRfl
namespace Go.Proofs.Ytbbbmmemfndnlaa
/- THE CELL 'sum', in the pinned program and in every row, IS THE sha256 OF THE DUMP (.gsa) THAT YtbbbmmemfndnlaaProg.lean LOADS. Nothing in Lean hashes anything: it is a label: what it is worth is what the hold of that sum in a sandbox is worth. -/
noncomputable def Try.pinned : Pinned := { name := "ytbbbmmemfndnlaa", sum := "eb4765b084e4d94517a82ef9c25391e4f00949524ea9251a59efbea2cae8a9d4", checked := Try.checked }
namespace Rows
def none {H : Type} : Left H := { results := [], args := [] }

/-- 'laws.FnExactFrees': WHATEVER THE INPUT: true; the input reads as it did. -/
def fnExactFreesSpec : ChangeSpec := { name := "fnExactFrees", fn := fun _ => fun
  | [d] => { results := [.lit (.bool true)], args := [d] }
  | _ => none }
def fnExactFreesRow : OpenClaim := { program := "ytbbbmmemfndnlaa", sum := "eb4765b084e4d94517a82ef9c25391e4f00949524ea9251a59efbea2cae8a9d4", func := "loop.example/chancery/laws.FnExactFrees", spec := "fnExactFrees", inPlace := ["slices.overlaps[string]"], unfollowed := true, recurses := true, loops := true, apart := false }
def FnExactFreesSaid : Prop := fnExactFreesRow.holds Try.pinned (OpenSpec.ofChange fnExactFreesSpec)

/-- ITS FALSE NEIGHBOUR: 'it returns false'. Refute it at one input. -/
def fnExactFreesWrong : ChangeSpec := { name := "fnExactFrees", fn := fun _ => fun
  | [d] => { results := [.lit (.bool false)], args := [d] }
  | _ => none }
def FnExactFreesWrongFalsely : Prop := fnExactFreesRow.holds Try.pinned (OpenSpec.ofChange fnExactFreesWrong)

/-- 'laws.FnExactScopeCheck': WHATEVER THE INPUT: true; the input reads as it did. -/
def fnExactScopeCheckSpec : ChangeSpec := { name := "fnExactScopeCheck", fn := fun _ => fun
  | [d] => { results := [.lit (.bool true)], args := [d] }
  | _ => none }
def fnExactScopeCheckRow : OpenClaim := { program := "ytbbbmmemfndnlaa", sum := "eb4765b084e4d94517a82ef9c25391e4f00949524ea9251a59efbea2cae8a9d4", func := "loop.example/chancery/laws.FnExactScopeCheck", spec := "fnExactScopeCheck", inPlace := ["slices.overlaps[string]"], unfollowed := true, recurses := true, loops := true, apart := false }
def FnExactScopeCheckSaid : Prop := fnExactScopeCheckRow.holds Try.pinned (OpenSpec.ofChange fnExactScopeCheckSpec)

/-- ITS FALSE NEIGHBOUR: 'it returns false'. Refute it at one input. -/
def fnExactScopeCheckWrong : ChangeSpec := { name := "fnExactScopeCheck", fn := fun _ => fun
  | [d] => { results := [.lit (.bool false)], args := [d] }
  | _ => none }
def FnExactScopeCheckWrongFalsely : Prop := fnExactScopeCheckRow.holds Try.pinned (OpenSpec.ofChange fnExactScopeCheckWrong)

/-- 'laws.FnExactRename': WHATEVER THE INPUT: true; the input reads as it did. -/
def fnExactRenameSpec : ChangeSpec := { name := "fnExactRename", fn := fun _ => fun
  | [d1, d2, d3] => { results := [.lit (.bool true)], args := [d1, d2, d3] }
  | _ => none }
def fnExactRenameRow : OpenClaim := { program := "ytbbbmmemfndnlaa", sum := "eb4765b084e4d94517a82ef9c25391e4f00949524ea9251a59efbea2cae8a9d4", func := "loop.example/chancery/laws.FnExactRename", spec := "fnExactRename", unfollowed := true, recurses := true, loops := true, apart := false }
def FnExactRenameSaid : Prop := fnExactRenameRow.holds Try.pinned (OpenSpec.ofChange fnExactRenameSpec)

/-- ITS FALSE NEIGHBOUR: 'it returns false'. Refute it at one input. -/
def fnExactRenameWrong : ChangeSpec := { name := "fnExactRename", fn := fun _ => fun
  | [d1, d2, d3] => { results := [.lit (.bool false)], args := [d1, d2, d3] }
  | _ => none }
def FnExactRenameWrongFalsely : Prop := fnExactRenameRow.holds Try.pinned (OpenSpec.ofChange fnExactRenameWrong)

/-- 'laws.FnExactImports': WHATEVER THE INPUT: true; the input reads as it did. -/
def fnExactImportsSpec : ChangeSpec := { name := "fnExactImports", fn := fun _ => fun
  | [d] => { results := [.lit (.bool true)], args := [d] }
  | _ => none }
def fnExactImportsRow : OpenClaim := { program := "ytbbbmmemfndnlaa", sum := "eb4765b084e4d94517a82ef9c25391e4f00949524ea9251a59efbea2cae8a9d4", func := "loop.example/chancery/laws.FnExactImports", spec := "fnExactImports", inPlace := ["slices.overlaps[string]"], unfollowed := true, recurses := true, loops := true, apart := false }
def FnExactImportsSaid : Prop := fnExactImportsRow.holds Try.pinned (OpenSpec.ofChange fnExactImportsSpec)

/-- ITS FALSE NEIGHBOUR: 'it returns false'. Refute it at one input. -/
def fnExactImportsWrong : ChangeSpec := { name := "fnExactImports", fn := fun _ => fun
  | [d] => { results := [.lit (.bool false)], args := [d] }
  | _ => none }
def FnExactImportsWrongFalsely : Prop := fnExactImportsRow.holds Try.pinned (OpenSpec.ofChange fnExactImportsWrong)

/- THE SECOND FORM. 'bulk': how many values and letters a reading holds, each counted each time it is reached (what is shared counts as often as it is met; a slice's spare places count too). A statement '..UptoSaid' is the law's where the arguments, and the package variables that the reading takes, are together of bulk at most 1048576: NARROWER than '..Said'. Prove '..Said' where nothing that the law and all that it calls make is longer than what came in: it says more and counts as full. Else prove '..UptoSaid'. A law counts once. -/
mutual
def uptoBulk {H : Type} : DataW H → Nat
  | .lit (.string bytes) => bytes.length + 1
  | .lit _ => 1
  | .nil => 1
  | .ptr d => uptoBulk d + 1
  | .slice elems spare => uptoBulkAll elems + uptoBulkAll spare + 1
  | .agg parts => uptoBulkAll parts + 1
  | .iface _ d => uptoBulk d + 1
  | .map entries => uptoBulkEntries entries + 1
  | .held _ => 1
def uptoBulkAll {H : Type} : List (DataW H) → Nat
  | [] => 0
  | d :: r => uptoBulk d + uptoBulkAll r
def uptoBulkEntries {H : Type} : List (Lit × DataW H) → Nat
  | [] => 0
  | x :: r => uptoBulkEntry x + uptoBulkEntries r
def uptoBulkEntry {H : Type} : Lit × DataW H → Nat
  | (.string bytes, d) => bytes.length + uptoBulk d + 1
  | (_, d) => uptoBulk d + 1
 end
def uptoSmall : (H : Type) → List (DataW H) → Bool := fun _ ds => decide (uptoBulkAll ds ≤ 1048576)
def OpenSpec.upto (s : _root_.Go.ChangeSpec) : _root_.Go.OpenSpec := { _root_.Go.OpenSpec.ofChange s with cond := some uptoSmall }

/-- 'laws.FnExactFrees', WHERE WHAT IT READS IS OF BULK AT MOST 1048576: true; the input reads as it did. -/
def fnExactFreesUptoRow : OpenClaim := { program := "ytbbbmmemfndnlaa", sum := "eb4765b084e4d94517a82ef9c25391e4f00949524ea9251a59efbea2cae8a9d4", func := "loop.example/chancery/laws.FnExactFrees", spec := "fnExactFrees", inPlace := ["slices.overlaps[string]"], unfollowed := true, recurses := true, loops := true, apart := false, narrowed := true }
def FnExactFreesUptoSaid : Prop := fnExactFreesUptoRow.holds Try.pinned (OpenSpec.upto fnExactFreesSpec)

/-- 'laws.FnExactScopeCheck', WHERE WHAT IT READS IS OF BULK AT MOST 1048576: true; the input reads as it did. -/
def fnExactScopeCheckUptoRow : OpenClaim := { program := "ytbbbmmemfndnlaa", sum := "eb4765b084e4d94517a82ef9c25391e4f00949524ea9251a59efbea2cae8a9d4", func := "loop.example/chancery/laws.FnExactScopeCheck", spec := "fnExactScopeCheck", inPlace := ["slices.overlaps[string]"], unfollowed := true, recurses := true, loops := true, apart := false, narrowed := true }
def FnExactScopeCheckUptoSaid : Prop := fnExactScopeCheckUptoRow.holds Try.pinned (OpenSpec.upto fnExactScopeCheckSpec)

/-- 'laws.FnExactRename', WHERE WHAT IT READS IS OF BULK AT MOST 1048576: true; the input reads as it did. -/
def fnExactRenameUptoRow : OpenClaim := { program := "ytbbbmmemfndnlaa", sum := "eb4765b084e4d94517a82ef9c25391e4f00949524ea9251a59efbea2cae8a9d4", func := "loop.example/chancery/laws.FnExactRename", spec := "fnExactRename", unfollowed := true, recurses := true, loops := true, apart := false, narrowed := true }
def FnExactRenameUptoSaid : Prop := fnExactRenameUptoRow.holds Try.pinned (OpenSpec.upto fnExactRenameSpec)

/-- 'laws.FnExactImports', WHERE WHAT IT READS IS OF BULK AT MOST 1048576: true; the input reads as it did. -/
def fnExactImportsUptoRow : OpenClaim := { program := "ytbbbmmemfndnlaa", sum := "eb4765b084e4d94517a82ef9c25391e4f00949524ea9251a59efbea2cae8a9d4", func := "loop.example/chancery/laws.FnExactImports", spec := "fnExactImports", inPlace := ["slices.overlaps[string]"], unfollowed := true, recurses := true, loops := true, apart := false, narrowed := true }
def FnExactImportsUptoSaid : Prop := fnExactImportsUptoRow.holds Try.pinned (OpenSpec.upto fnExactImportsSpec)

end Rows
end Go.Proofs.Ytbbbmmemfndnlaa
