/-
  No cell of these rows narrows 'for every input' (looked for: loops, veiled, ifaces, maps, wideKeys, modest, calm, conditions, laid).
  DERIVED. THE GIVEN ROWS OF THIS SEAT. 4 by the template 'for every input the law returns true; each argument reads behind the call as it read before'; 0 by the template 'total and deterministic' (their statements: YtldlfmehplemiaaTotals.lean).
  GIVEN WITH THE SEED: the statements are not yours to turn. If you find one false, say at which input.
  Laid BY PROGRAM, IN A SANDBOX (cutbox-rows.mjs): the forced cells as the released guide's own fill.sh prints them over the translation f69dd130dc26d54a… (all of the seat's roots in one cut). By AI agents, Wed Nov 11 2026. No macro, syntax, notation, axiom, sorry.
-/
import Derived.Test.YtldlfmehplemiaaChecked
import GoSem.Claim
import GoSem.ClaimJoined
import GoSem.ClaimMapViews
import Derived.JoinedTies
import Derived.KernelRfl
namespace Go.Proofs.Ytldlfmehplemiaa
/- THE CELL 'sum', in the pinned program and in every row, IS THE sha256 OF THE DUMP (.gsa) THAT YtldlfmehplemiaaProg.lean LOADS. Nothing in Lean hashes anything: it is a label: what it is worth is what the hold of that sum in a sandbox is worth. -/
noncomputable def Try.pinned : Pinned := { name := "ytldlfmehplemiaa", sum := "f69dd130dc26d54abdb0e1ab664a8cebd3a12153736787563735c4aca172b1d0", checked := Try.checked }
namespace Rows
def none {H : Type} : Left H := { results := [], args := [] }

/-- 'laws.FnExactDecText': WHATEVER THE INPUT: true; the input reads as it did. -/
def fnExactDecTextSpec : ChangeSpec := { name := "fnExactDecText", fn := fun _ => fun
  | [d] => { results := [.lit (.bool true)], args := [d] }
  | _ => none }
def fnExactDecTextRow : OpenClaim := { program := "ytldlfmehplemiaa", sum := "f69dd130dc26d54abdb0e1ab664a8cebd3a12153736787563735c4aca172b1d0", func := "loop.example/chancery/laws.FnExactDecText", spec := "fnExactDecText", inPlace := ["internal/abi.NoEscape"], unfollowed := true, recurses := true, apart := false }
def FnExactDecTextSaid : Prop := fnExactDecTextRow.holds Try.pinned (OpenSpec.ofChange fnExactDecTextSpec)

/-- ITS FALSE NEIGHBOUR: 'it returns false'. Refute it at one input. -/
def fnExactDecTextWrong : ChangeSpec := { name := "fnExactDecText", fn := fun _ => fun
  | [d] => { results := [.lit (.bool false)], args := [d] }
  | _ => none }
def FnExactDecTextWrongFalsely : Prop := fnExactDecTextRow.holds Try.pinned (OpenSpec.ofChange fnExactDecTextWrong)

/-- 'laws.FnExactDecRead': WHATEVER THE INPUT: true; the input reads as it did. -/
def fnExactDecReadSpec : ChangeSpec := { name := "fnExactDecRead", fn := fun _ => fun
  | [d] => { results := [.lit (.bool true)], args := [d] }
  | _ => none }
def fnExactDecReadRow : OpenClaim := { program := "ytldlfmehplemiaa", sum := "f69dd130dc26d54abdb0e1ab664a8cebd3a12153736787563735c4aca172b1d0", func := "loop.example/chancery/laws.FnExactDecRead", spec := "fnExactDecRead", inPlace := ["internal/bytealg.IndexByteString", "internal/bytealg.IndexString"], named := ["internal/bytealg.MaxLen"], apart := false }
def FnExactDecReadSaid : Prop := fnExactDecReadRow.holds Try.pinned (OpenSpec.ofChange fnExactDecReadSpec)

/-- ITS FALSE NEIGHBOUR: 'it returns false'. Refute it at one input. -/
def fnExactDecReadWrong : ChangeSpec := { name := "fnExactDecRead", fn := fun _ => fun
  | [d] => { results := [.lit (.bool false)], args := [d] }
  | _ => none }
def FnExactDecReadWrongFalsely : Prop := fnExactDecReadRow.holds Try.pinned (OpenSpec.ofChange fnExactDecReadWrong)

/-- 'laws.FnDecText': WHATEVER THE INPUT: true; the input reads as it did. -/
def fnDecTextSpec : ChangeSpec := { name := "fnDecText", fn := fun _ => fun
  | [d1, d2] => { results := [.lit (.bool true)], args := [d1, d2] }
  | _ => none }
def fnDecTextRow : OpenClaim := { program := "ytldlfmehplemiaa", sum := "f69dd130dc26d54abdb0e1ab664a8cebd3a12153736787563735c4aca172b1d0", func := "loop.example/chancery/laws.FnDecText", spec := "fnDecText", inPlace := ["internal/abi.NoEscape", "internal/bytealg.IndexByteString", "internal/bytealg.IndexString"], unfollowed := true, recurses := true, named := ["internal/bytealg.MaxLen"], apart := false }
def FnDecTextSaid : Prop := fnDecTextRow.holds Try.pinned (OpenSpec.ofChange fnDecTextSpec)

/-- ITS FALSE NEIGHBOUR: 'it returns false'. Refute it at one input. -/
def fnDecTextWrong : ChangeSpec := { name := "fnDecText", fn := fun _ => fun
  | [d1, d2] => { results := [.lit (.bool false)], args := [d1, d2] }
  | _ => none }
def FnDecTextWrongFalsely : Prop := fnDecTextRow.holds Try.pinned (OpenSpec.ofChange fnDecTextWrong)

/-- 'laws.FnDecDiv': WHATEVER THE INPUT: true; the input reads as it did. -/
def fnDecDivSpec : ChangeSpec := { name := "fnDecDiv", fn := fun _ => fun
  | [d] => { results := [.lit (.bool true)], args := [d] }
  | _ => none }
def fnDecDivRow : OpenClaim := { program := "ytldlfmehplemiaa", sum := "f69dd130dc26d54abdb0e1ab664a8cebd3a12153736787563735c4aca172b1d0", func := "loop.example/chancery/laws.FnDecDiv", spec := "fnDecDiv", apart := false }
def FnDecDivSaid : Prop := fnDecDivRow.holds Try.pinned (OpenSpec.ofChange fnDecDivSpec)

/-- ITS FALSE NEIGHBOUR: 'it returns false'. Refute it at one input. -/
def fnDecDivWrong : ChangeSpec := { name := "fnDecDiv", fn := fun _ => fun
  | [d] => { results := [.lit (.bool false)], args := [d] }
  | _ => none }
def FnDecDivWrongFalsely : Prop := fnDecDivRow.holds Try.pinned (OpenSpec.ofChange fnDecDivWrong)

/- THE SECOND FORM. 'bulk': how many values and letters a reading holds, each counted each time it is reached (what is shared counts as often as it is met; a slice's spare places count too). A statement '..UptoSaid' is the law's where the arguments, and the package variables that the reading takes, are together of bulk at most 1048576: NARROWER than '..Said'. Prove '..Said' where nothing that the law and all that it calls make is longer than what came in: it says more and counts as full. Else prove '..UptoSaid'. A law counts once. -/
mutual
def uptoBulk {H : Type} : DataW H → Nat
  | .lit (.string bytes) => bytes.length + 1
  | .lit _ => 1
  | .nil => 1
  | .ptr d => uptoBulk d + 1
  | .slice elems spare => uptoBulkAll elems + uptoBulkAll spare + 1
  | .agg parts => uptoBulkAll parts + 1
  | .iface _ d => uptoBulk d + 1
  | .map entries => uptoBulkEntries entries + 1
  | .held _ => 1
def uptoBulkAll {H : Type} : List (DataW H) → Nat
  | [] => 0
  | d :: r => uptoBulk d + uptoBulkAll r
def uptoBulkEntries {H : Type} : List (Lit × DataW H) → Nat
  | [] => 0
  | x :: r => uptoBulkEntry x + uptoBulkEntries r
def uptoBulkEntry {H : Type} : Lit × DataW H → Nat
  | (.string bytes, d) => bytes.length + uptoBulk d + 1
  | (_, d) => uptoBulk d + 1
 end
def uptoSmall : (H : Type) → List (DataW H) → Bool := fun _ ds => decide (uptoBulkAll ds ≤ 1048576)
def OpenSpec.upto (s : _root_.Go.ChangeSpec) : _root_.Go.OpenSpec := { _root_.Go.OpenSpec.ofChange s with cond := some uptoSmall }

/-- 'laws.FnExactDecText', WHERE WHAT IT READS IS OF BULK AT MOST 1048576: true; the input reads as it did. -/
def fnExactDecTextUptoRow : OpenClaim := { program := "ytldlfmehplemiaa", sum := "f69dd130dc26d54abdb0e1ab664a8cebd3a12153736787563735c4aca172b1d0", func := "loop.example/chancery/laws.FnExactDecText", spec := "fnExactDecText", inPlace := ["internal/abi.NoEscape"], unfollowed := true, recurses := true, apart := false, narrowed := true }
def FnExactDecTextUptoSaid : Prop := fnExactDecTextUptoRow.holds Try.pinned (OpenSpec.upto fnExactDecTextSpec)

/-- 'laws.FnExactDecRead', WHERE WHAT IT READS IS OF BULK AT MOST 1048576: true; the input reads as it did. -/
def fnExactDecReadUptoRow : OpenClaim := { program := "ytldlfmehplemiaa", sum := "f69dd130dc26d54abdb0e1ab664a8cebd3a12153736787563735c4aca172b1d0", func := "loop.example/chancery/laws.FnExactDecRead", spec := "fnExactDecRead", inPlace := ["internal/bytealg.IndexByteString", "internal/bytealg.IndexString"], named := ["internal/bytealg.MaxLen"], apart := false, narrowed := true }
def FnExactDecReadUptoSaid : Prop := fnExactDecReadUptoRow.holds Try.pinned (OpenSpec.upto fnExactDecReadSpec)

/-- 'laws.FnDecText', WHERE WHAT IT READS IS OF BULK AT MOST 1048576: true; the input reads as it did. -/
def fnDecTextUptoRow : OpenClaim := { program := "ytldlfmehplemiaa", sum := "f69dd130dc26d54abdb0e1ab664a8cebd3a12153736787563735c4aca172b1d0", func := "loop.example/chancery/laws.FnDecText", spec := "fnDecText", inPlace := ["internal/abi.NoEscape", "internal/bytealg.IndexByteString", "internal/bytealg.IndexString"], unfollowed := true, recurses := true, named := ["internal/bytealg.MaxLen"], apart := false, narrowed := true }
def FnDecTextUptoSaid : Prop := fnDecTextUptoRow.holds Try.pinned (OpenSpec.upto fnDecTextSpec)

/-- 'laws.FnDecDiv', WHERE WHAT IT READS IS OF BULK AT MOST 1048576: true; the input reads as it did. -/
def fnDecDivUptoRow : OpenClaim := { program := "ytldlfmehplemiaa", sum := "f69dd130dc26d54abdb0e1ab664a8cebd3a12153736787563735c4aca172b1d0", func := "loop.example/chancery/laws.FnDecDiv", spec := "fnDecDiv", apart := false, narrowed := true }
def FnDecDivUptoSaid : Prop := fnDecDivUptoRow.holds Try.pinned (OpenSpec.upto fnDecDivSpec)

end Rows
end Go.Proofs.Ytldlfmehplemiaa
