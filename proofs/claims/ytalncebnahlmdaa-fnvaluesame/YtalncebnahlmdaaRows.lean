/-
  No cell of these rows narrows 'for every input' (looked for: loops, veiled, ifaces, maps, wideKeys, modest, calm, conditions, laid).
  DERIVED. THE GIVEN ROWS OF THIS SEAT. 4 by the template 'for every input the law returns true; each argument reads behind the call as it read before'; 0 by the template 'total and deterministic' (their statements: YtalncebnahlmdaaTotals.lean).
  GIVEN WITH THE SEED: the statements are not yours to turn. If you find one false, say at which input.
  Laid BY PROGRAM, IN A SANDBOX (cutbox-rows.mjs): the forced cells as the released guide's own fill.sh prints them over the translation efc86348d3a3505b… (all of the seat's roots in one cut). By AI agents, Wed Nov 11 2026. No macro, syntax, notation, axiom, sorry.
-/
import Derived.Test.YtalncebnahlmdaaChecked
import GoSem.Claim
import GoSem.ClaimJoined
import GoSem.ClaimMapViews
import Derived.JoinedTies
import Derived.KernelRfl
namespace Go.Proofs.Ytalncebnahlmdaa
/- THE CELL 'sum', in the pinned program and in every row, IS THE sha256 OF THE DUMP (.gsa) THAT YtalncebnahlmdaaProg.lean LOADS. Nothing in Lean hashes anything: it is a label: what it is worth is what the hold of that sum in a sandbox is worth. -/
noncomputable def Try.pinned : Pinned := { name := "ytalncebnahlmdaa", sum := "efc86348d3a3505bad6197fe910b0320693ff4e5d7e3547eca7d5e67f047b9ea", checked := Try.checked }
namespace Rows
def none {H : Type} : Left H := { results := [], args := [] }

/-- 'laws.FnValueOk': WHATEVER THE INPUT: true; the input reads as it did. -/
def fnValueOkSpec : ChangeSpec := { name := "fnValueOk", fn := fun _ => fun
  | [d] => { results := [.lit (.bool true)], args := [d] }
  | _ => none }
def fnValueOkRow : OpenClaim := { program := "ytalncebnahlmdaa", sum := "efc86348d3a3505bad6197fe910b0320693ff4e5d7e3547eca7d5e67f047b9ea", func := "loop.example/chancery/laws.FnValueOk", spec := "fnValueOk", unfollowed := true, recurses := true, plainKeys := false, apart := false }
def FnValueOkSaid : Prop := fnValueOkRow.holds Try.pinned (OpenSpec.ofChange fnValueOkSpec)

/-- ITS FALSE NEIGHBOUR: 'it returns false'. Refute it at one input. -/
def fnValueOkWrong : ChangeSpec := { name := "fnValueOk", fn := fun _ => fun
  | [d] => { results := [.lit (.bool false)], args := [d] }
  | _ => none }
def FnValueOkWrongFalsely : Prop := fnValueOkRow.holds Try.pinned (OpenSpec.ofChange fnValueOkWrong)

/-- 'laws.FnValueSame': WHATEVER THE INPUT: true; the input reads as it did. -/
def fnValueSameSpec : ChangeSpec := { name := "fnValueSame", fn := fun _ => fun
  | [d] => { results := [.lit (.bool true)], args := [d] }
  | _ => none }
def fnValueSameRow : OpenClaim := { program := "ytalncebnahlmdaa", sum := "efc86348d3a3505bad6197fe910b0320693ff4e5d7e3547eca7d5e67f047b9ea", func := "loop.example/chancery/laws.FnValueSame", spec := "fnValueSame", inPlace := ["internal/abi.NoEscape", "internal/bytealg.IndexByteString", "internal/bytealg.abigen_runtime_cmpstring"], unfollowed := true, recurses := true, plainKeys := false, apart := false }
def FnValueSameSaid : Prop := fnValueSameRow.holds Try.pinned (OpenSpec.ofChange fnValueSameSpec)

/-- ITS FALSE NEIGHBOUR: 'it returns false'. Refute it at one input. -/
def fnValueSameWrong : ChangeSpec := { name := "fnValueSame", fn := fun _ => fun
  | [d] => { results := [.lit (.bool false)], args := [d] }
  | _ => none }
def FnValueSameWrongFalsely : Prop := fnValueSameRow.holds Try.pinned (OpenSpec.ofChange fnValueSameWrong)

/-- 'laws.FnValueCmp': WHATEVER THE INPUT: true; the input reads as it did. -/
def fnValueCmpSpec : ChangeSpec := { name := "fnValueCmp", fn := fun _ => fun
  | [d1, d2] => { results := [.lit (.bool true)], args := [d1, d2] }
  | _ => none }
def fnValueCmpRow : OpenClaim := { program := "ytalncebnahlmdaa", sum := "efc86348d3a3505bad6197fe910b0320693ff4e5d7e3547eca7d5e67f047b9ea", func := "loop.example/chancery/laws.FnValueCmp", spec := "fnValueCmp", inPlace := ["internal/bytealg.abigen_runtime_cmpstring"], unfollowed := true, recurses := true, plainKeys := false, apart := false }
def FnValueCmpSaid : Prop := fnValueCmpRow.holds Try.pinned (OpenSpec.ofChange fnValueCmpSpec)

/-- ITS FALSE NEIGHBOUR: 'it returns false'. Refute it at one input. -/
def fnValueCmpWrong : ChangeSpec := { name := "fnValueCmp", fn := fun _ => fun
  | [d1, d2] => { results := [.lit (.bool false)], args := [d1, d2] }
  | _ => none }
def FnValueCmpWrongFalsely : Prop := fnValueCmpRow.holds Try.pinned (OpenSpec.ofChange fnValueCmpWrong)

/-- 'laws.FnTomlNot': WHATEVER THE INPUT: true; the input reads as it did. -/
def fnTomlNotSpec : ChangeSpec := { name := "fnTomlNot", fn := fun _ => fun
  | [d] => { results := [.lit (.bool true)], args := [d] }
  | _ => none }
def fnTomlNotRow : OpenClaim := { program := "ytalncebnahlmdaa", sum := "efc86348d3a3505bad6197fe910b0320693ff4e5d7e3547eca7d5e67f047b9ea", func := "loop.example/chancery/laws.FnTomlNot", spec := "fnTomlNot", inPlace := ["internal/abi.NoEscape", "internal/bytealg.IndexByteString"], unfollowed := true, recurses := true, plainKeys := false, apart := false }
def FnTomlNotSaid : Prop := fnTomlNotRow.holds Try.pinned (OpenSpec.ofChange fnTomlNotSpec)

/-- ITS FALSE NEIGHBOUR: 'it returns false'. Refute it at one input. -/
def fnTomlNotWrong : ChangeSpec := { name := "fnTomlNot", fn := fun _ => fun
  | [d] => { results := [.lit (.bool false)], args := [d] }
  | _ => none }
def FnTomlNotWrongFalsely : Prop := fnTomlNotRow.holds Try.pinned (OpenSpec.ofChange fnTomlNotWrong)

/- THE SECOND FORM. 'bulk': how many values and letters a reading holds, each counted each time it is reached (what is shared counts as often as it is met; a slice's spare places count too). A statement '..UptoSaid' is the law's where the arguments, and the package variables that the reading takes, are together of bulk at most 1048576: NARROWER than '..Said'. Prove '..Said' where nothing that the law and all that it calls make is longer than what came in: it says more and counts as full. Else prove '..UptoSaid'. A law counts once. -/
mutual
def uptoBulk {H : Type} : DataW H → Nat
  | .lit (.string bytes) => bytes.length + 1
  | .lit _ => 1
  | .nil => 1
  | .ptr d => uptoBulk d + 1
  | .slice elems spare => uptoBulkAll elems + uptoBulkAll spare + 1
  | .agg parts => uptoBulkAll parts + 1
  | .iface _ d => uptoBulk d + 1
  | .map entries => uptoBulkEntries entries + 1
  | .held _ => 1
def uptoBulkAll {H : Type} : List (DataW H) → Nat
  | [] => 0
  | d :: r => uptoBulk d + uptoBulkAll r
def uptoBulkEntries {H : Type} : List (Lit × DataW H) → Nat
  | [] => 0
  | x :: r => uptoBulkEntry x + uptoBulkEntries r
def uptoBulkEntry {H : Type} : Lit × DataW H → Nat
  | (.string bytes, d) => bytes.length + uptoBulk d + 1
  | (_, d) => uptoBulk d + 1
 end
def uptoSmall : (H : Type) → List (DataW H) → Bool := fun _ ds => decide (uptoBulkAll ds ≤ 1048576)
def OpenSpec.upto (s : _root_.Go.ChangeSpec) : _root_.Go.OpenSpec := { _root_.Go.OpenSpec.ofChange s with cond := some uptoSmall }

/-- 'laws.FnValueOk', WHERE WHAT IT READS IS OF BULK AT MOST 1048576: true; the input reads as it did. -/
def fnValueOkUptoRow : OpenClaim := { program := "ytalncebnahlmdaa", sum := "efc86348d3a3505bad6197fe910b0320693ff4e5d7e3547eca7d5e67f047b9ea", func := "loop.example/chancery/laws.FnValueOk", spec := "fnValueOk", unfollowed := true, recurses := true, plainKeys := false, apart := false, narrowed := true }
def FnValueOkUptoSaid : Prop := fnValueOkUptoRow.holds Try.pinned (OpenSpec.upto fnValueOkSpec)

/-- 'laws.FnValueSame', WHERE WHAT IT READS IS OF BULK AT MOST 1048576: true; the input reads as it did. -/
def fnValueSameUptoRow : OpenClaim := { program := "ytalncebnahlmdaa", sum := "efc86348d3a3505bad6197fe910b0320693ff4e5d7e3547eca7d5e67f047b9ea", func := "loop.example/chancery/laws.FnValueSame", spec := "fnValueSame", inPlace := ["internal/abi.NoEscape", "internal/bytealg.IndexByteString", "internal/bytealg.abigen_runtime_cmpstring"], unfollowed := true, recurses := true, plainKeys := false, apart := false, narrowed := true }
def FnValueSameUptoSaid : Prop := fnValueSameUptoRow.holds Try.pinned (OpenSpec.upto fnValueSameSpec)

/-- 'laws.FnValueCmp', WHERE WHAT IT READS IS OF BULK AT MOST 1048576: true; the input reads as it did. -/
def fnValueCmpUptoRow : OpenClaim := { program := "ytalncebnahlmdaa", sum := "efc86348d3a3505bad6197fe910b0320693ff4e5d7e3547eca7d5e67f047b9ea", func := "loop.example/chancery/laws.FnValueCmp", spec := "fnValueCmp", inPlace := ["internal/bytealg.abigen_runtime_cmpstring"], unfollowed := true, recurses := true, plainKeys := false, apart := false, narrowed := true }
def FnValueCmpUptoSaid : Prop := fnValueCmpUptoRow.holds Try.pinned (OpenSpec.upto fnValueCmpSpec)

/-- 'laws.FnTomlNot', WHERE WHAT IT READS IS OF BULK AT MOST 1048576: true; the input reads as it did. -/
def fnTomlNotUptoRow : OpenClaim := { program := "ytalncebnahlmdaa", sum := "efc86348d3a3505bad6197fe910b0320693ff4e5d7e3547eca7d5e67f047b9ea", func := "loop.example/chancery/laws.FnTomlNot", spec := "fnTomlNot", inPlace := ["internal/abi.NoEscape", "internal/bytealg.IndexByteString"], unfollowed := true, recurses := true, plainKeys := false, apart := false, narrowed := true }
def FnTomlNotUptoSaid : Prop := fnTomlNotUptoRow.holds Try.pinned (OpenSpec.upto fnTomlNotSpec)

end Rows
end Go.Proofs.Ytalncebnahlmdaa
