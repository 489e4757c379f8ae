/-
  NARROWER THAN 'FOR EVERY INPUT', by the rows' own cells (each row's printed sentence says how): FnExactJsonPut: loops · FnExactJsonWide: loops · FnExactTomlPut: loops · FnExactIniPut: loops.
  DERIVED. THE GIVEN ROWS OF THIS SEAT. 4 by the template 'for every input the law returns true; each argument reads behind the call as it read before'; 0 by the template 'total and deterministic' (their statements: YtpgpkdeiapeoiaaTotals.lean).
  GIVEN WITH THE SEED: the statements are not yours to turn. If you find one false, say at which input.
  Laid BY PROGRAM, IN A SANDBOX (cutbox-rows.mjs): the forced cells as the released guide's own fill.sh prints them over the translation df81a664bfe89ed2… (all of the seat's roots in one cut). By AI agents, Wed Nov 11 2026. No macro, syntax, notation, axiom, sorry.
-/
import Derived.Test.YtpgpkdeiapeoiaaChecked
import GoSem.Claim
import GoSem.ClaimJoined
import GoSem.ClaimMapViews
import Derived.JoinedTies
import Derived.KernelRfl
namespace Go.Proofs.Ytpgpkdeiapeoiaa
/- THE CELL 'sum', in the pinned program and in every row, IS THE sha256 OF THE DUMP (.gsa) THAT YtpgpkdeiapeoiaaProg.lean LOADS. Nothing in Lean hashes anything: it is a label: what it is worth is what the hold of that sum in a sandbox is worth. -/
noncomputable def Try.pinned : Pinned := { name := "ytpgpkdeiapeoiaa", sum := "df81a664bfe89ed26a56861d166b1ebb17b7dda7408c0de7884e26b7a5234127", checked := Try.checked }
namespace Rows
def none {H : Type} : Left H := { results := [], args := [] }

/-- 'laws.FnExactJsonPut': WHATEVER THE INPUT: true; the input reads as it did. -/
def fnExactJsonPutSpec : ChangeSpec := { name := "fnExactJsonPut", fn := fun _ => fun
  | [d] => { results := [.lit (.bool true)], args := [d] }
  | _ => none }
def fnExactJsonPutRow : OpenClaim := { program := "ytpgpkdeiapeoiaa", sum := "df81a664bfe89ed26a56861d166b1ebb17b7dda7408c0de7884e26b7a5234127", func := "loop.example/chancery/laws.FnExactJsonPut", spec := "fnExactJsonPut", inPlace := ["internal/abi.NoEscape", "internal/bytealg.IndexByteString"], unfollowed := true, recurses := true, loops := true, apart := false }
def FnExactJsonPutSaid : Prop := fnExactJsonPutRow.holds Try.pinned (OpenSpec.ofChange fnExactJsonPutSpec)

/-- ITS FALSE NEIGHBOUR: 'it returns false'. Refute it at one input. -/
def fnExactJsonPutWrong : ChangeSpec := { name := "fnExactJsonPut", fn := fun _ => fun
  | [d] => { results := [.lit (.bool false)], args := [d] }
  | _ => none }
def FnExactJsonPutWrongFalsely : Prop := fnExactJsonPutRow.holds Try.pinned (OpenSpec.ofChange fnExactJsonPutWrong)

/-- 'laws.FnExactJsonWide': WHATEVER THE INPUT: true; the input reads as it did. -/
def fnExactJsonWideSpec : ChangeSpec := { name := "fnExactJsonWide", fn := fun _ => fun
  | [d] => { results := [.lit (.bool true)], args := [d] }
  | _ => none }
def fnExactJsonWideRow : OpenClaim := { program := "ytpgpkdeiapeoiaa", sum := "df81a664bfe89ed26a56861d166b1ebb17b7dda7408c0de7884e26b7a5234127", func := "loop.example/chancery/laws.FnExactJsonWide", spec := "fnExactJsonWide", inPlace := ["internal/abi.NoEscape", "internal/bytealg.IndexByteString"], unfollowed := true, recurses := true, loops := true, apart := false }
def FnExactJsonWideSaid : Prop := fnExactJsonWideRow.holds Try.pinned (OpenSpec.ofChange fnExactJsonWideSpec)

/-- ITS FALSE NEIGHBOUR: 'it returns false'. Refute it at one input. -/
def fnExactJsonWideWrong : ChangeSpec := { name := "fnExactJsonWide", fn := fun _ => fun
  | [d] => { results := [.lit (.bool false)], args := [d] }
  | _ => none }
def FnExactJsonWideWrongFalsely : Prop := fnExactJsonWideRow.holds Try.pinned (OpenSpec.ofChange fnExactJsonWideWrong)

/-- 'laws.FnExactTomlPut': WHATEVER THE INPUT: true; the input reads as it did. -/
def fnExactTomlPutSpec : ChangeSpec := { name := "fnExactTomlPut", fn := fun _ => fun
  | [d] => { results := [.lit (.bool true)], args := [d] }
  | _ => none }
def fnExactTomlPutRow : OpenClaim := { program := "ytpgpkdeiapeoiaa", sum := "df81a664bfe89ed26a56861d166b1ebb17b7dda7408c0de7884e26b7a5234127", func := "loop.example/chancery/laws.FnExactTomlPut", spec := "fnExactTomlPut", inPlace := ["internal/abi.NoEscape", "internal/bytealg.IndexByteString"], unfollowed := true, recurses := true, loops := true, apart := false }
def FnExactTomlPutSaid : Prop := fnExactTomlPutRow.holds Try.pinned (OpenSpec.ofChange fnExactTomlPutSpec)

/-- ITS FALSE NEIGHBOUR: 'it returns false'. Refute it at one input. -/
def fnExactTomlPutWrong : ChangeSpec := { name := "fnExactTomlPut", fn := fun _ => fun
  | [d] => { results := [.lit (.bool false)], args := [d] }
  | _ => none }
def FnExactTomlPutWrongFalsely : Prop := fnExactTomlPutRow.holds Try.pinned (OpenSpec.ofChange fnExactTomlPutWrong)

/-- 'laws.FnExactIniPut': WHATEVER THE INPUT: true; the input reads as it did. -/
def fnExactIniPutSpec : ChangeSpec := { name := "fnExactIniPut", fn := fun _ => fun
  | [d] => { results := [.lit (.bool true)], args := [d] }
  | _ => none }
def fnExactIniPutRow : OpenClaim := { program := "ytpgpkdeiapeoiaa", sum := "df81a664bfe89ed26a56861d166b1ebb17b7dda7408c0de7884e26b7a5234127", func := "loop.example/chancery/laws.FnExactIniPut", spec := "fnExactIniPut", inPlace := ["internal/abi.NoEscape", "internal/bytealg.IndexByteString"], unfollowed := true, recurses := true, loops := true, apart := false }
def FnExactIniPutSaid : Prop := fnExactIniPutRow.holds Try.pinned (OpenSpec.ofChange fnExactIniPutSpec)

/-- ITS FALSE NEIGHBOUR: 'it returns false'. Refute it at one input. -/
def fnExactIniPutWrong : ChangeSpec := { name := "fnExactIniPut", fn := fun _ => fun
  | [d] => { results := [.lit (.bool false)], args := [d] }
  | _ => none }
def FnExactIniPutWrongFalsely : Prop := fnExactIniPutRow.holds Try.pinned (OpenSpec.ofChange fnExactIniPutWrong)

/- THE SECOND FORM. 'bulk': how many values and letters a reading holds, each counted each time it is reached (what is shared counts as often as it is met; a slice's spare places count too). A statement '..UptoSaid' is the law's where the arguments, and the package variables that the reading takes, are together of bulk at most 1048576: NARROWER than '..Said'. Prove '..Said' where nothing that the law and all that it calls make is longer than what came in: it says more and counts as full. Else prove '..UptoSaid'. A law counts once. -/
mutual
def uptoBulk {H : Type} : DataW H → Nat
  | .lit (.string bytes) => bytes.length + 1
  | .lit _ => 1
  | .nil => 1
  | .ptr d => uptoBulk d + 1
  | .slice elems spare => uptoBulkAll elems + uptoBulkAll spare + 1
  | .agg parts => uptoBulkAll parts + 1
  | .iface _ d => uptoBulk d + 1
  | .map entries => uptoBulkEntries entries + 1
  | .held _ => 1
def uptoBulkAll {H : Type} : List (DataW H) → Nat
  | [] => 0
  | d :: r => uptoBulk d + uptoBulkAll r
def uptoBulkEntries {H : Type} : List (Lit × DataW H) → Nat
  | [] => 0
  | x :: r => uptoBulkEntry x + uptoBulkEntries r
def uptoBulkEntry {H : Type} : Lit × DataW H → Nat
  | (.string bytes, d) => bytes.length + uptoBulk d + 1
  | (_, d) => uptoBulk d + 1
 end
def uptoSmall : (H : Type) → List (DataW H) → Bool := fun _ ds => decide (uptoBulkAll ds ≤ 1048576)
def OpenSpec.upto (s : _root_.Go.ChangeSpec) : _root_.Go.OpenSpec := { _root_.Go.OpenSpec.ofChange s with cond := some uptoSmall }

/-- 'laws.FnExactJsonPut', WHERE WHAT IT READS IS OF BULK AT MOST 1048576: true; the input reads as it did. -/
def fnExactJsonPutUptoRow : OpenClaim := { program := "ytpgpkdeiapeoiaa", sum := "df81a664bfe89ed26a56861d166b1ebb17b7dda7408c0de7884e26b7a5234127", func := "loop.example/chancery/laws.FnExactJsonPut", spec := "fnExactJsonPut", inPlace := ["internal/abi.NoEscape", "internal/bytealg.IndexByteString"], unfollowed := true, recurses := true, loops := true, apart := false, narrowed := true }
def FnExactJsonPutUptoSaid : Prop := fnExactJsonPutUptoRow.holds Try.pinned (OpenSpec.upto fnExactJsonPutSpec)

/-- 'laws.FnExactJsonWide', WHERE WHAT IT READS IS OF BULK AT MOST 1048576: true; the input reads as it did. -/
def fnExactJsonWideUptoRow : OpenClaim := { program := "ytpgpkdeiapeoiaa", sum := "df81a664bfe89ed26a56861d166b1ebb17b7dda7408c0de7884e26b7a5234127", func := "loop.example/chancery/laws.FnExactJsonWide", spec := "fnExactJsonWide", inPlace := ["internal/abi.NoEscape", "internal/bytealg.IndexByteString"], unfollowed := true, recurses := true, loops := true, apart := false, narrowed := true }
def FnExactJsonWideUptoSaid : Prop := fnExactJsonWideUptoRow.holds Try.pinned (OpenSpec.upto fnExactJsonWideSpec)

/-- 'laws.FnExactTomlPut', WHERE WHAT IT READS IS OF BULK AT MOST 1048576: true; the input reads as it did. -/
def fnExactTomlPutUptoRow : OpenClaim := { program := "ytpgpkdeiapeoiaa", sum := "df81a664bfe89ed26a56861d166b1ebb17b7dda7408c0de7884e26b7a5234127", func := "loop.example/chancery/laws.FnExactTomlPut", spec := "fnExactTomlPut", inPlace := ["internal/abi.NoEscape", "internal/bytealg.IndexByteString"], unfollowed := true, recurses := true, loops := true, apart := false, narrowed := true }
def FnExactTomlPutUptoSaid : Prop := fnExactTomlPutUptoRow.holds Try.pinned (OpenSpec.upto fnExactTomlPutSpec)

/-- 'laws.FnExactIniPut', WHERE WHAT IT READS IS OF BULK AT MOST 1048576: true; the input reads as it did. -/
def fnExactIniPutUptoRow : OpenClaim := { program := "ytpgpkdeiapeoiaa", sum := "df81a664bfe89ed26a56861d166b1ebb17b7dda7408c0de7884e26b7a5234127", func := "loop.example/chancery/laws.FnExactIniPut", spec := "fnExactIniPut", inPlace := ["internal/abi.NoEscape", "internal/bytealg.IndexByteString"], unfollowed := true, recurses := true, loops := true, apart := false, narrowed := true }
def FnExactIniPutUptoSaid : Prop := fnExactIniPutUptoRow.holds Try.pinned (OpenSpec.upto fnExactIniPutSpec)

end Rows
end Go.Proofs.Ytpgpkdeiapeoiaa
