/-
  No cell of these rows narrows 'for every input' (looked for: loops, veiled, ifaces, maps, wideKeys, modest, calm, conditions, laid).
  DERIVED. THE GIVEN ROWS OF THIS SEAT. 4 by the template 'for every input the law returns true; each argument reads behind the call as it read before'; 0 by the template 'total and deterministic' (their statements: YtkdilgmlabaehaaTotals.lean).
  GIVEN WITH THE SEED: the statements are not yours to turn. If you find one false, say at which input.
  Laid BY PROGRAM, IN A SANDBOX (cutbox-rows.mjs): the forced cells as the released guide's own fill.sh prints them over the translation 4669228d67303caa… (all of the seat's roots in one cut). By AI agents, Wed Nov 11 2026. No macro, syntax, notation, axiom, sorry.
-/
import Derived.Test.YtkdilgmlabaehaaChecked
import GoSem.Claim
import GoSem.ClaimJoined
import GoSem.ClaimMapViews
import Derived.JoinedTies
import Derived.KernelRfl
namespace Go.Proofs.Ytkdilgmlabaehaa
/- THE CELL 'sum', in the pinned program and in every row, IS THE sha256 OF THE DUMP (.gsa) THAT YtkdilgmlabaehaaProg.lean LOADS. Nothing in Lean hashes anything: it is a label: what it is worth is what the hold of that sum in a sandbox is worth. -/
noncomputable def Try.pinned : Pinned := { name := "ytkdilgmlabaehaa", sum := "4669228d67303caadae9bd72f8c53f366b23d2698292b2d743ab1dfc1df854db", checked := Try.checked }
namespace Rows
def none {H : Type} : Left H := { results := [], args := [] }

/-- 'laws.FnExactQuotePut': WHATEVER THE INPUT: true; the input reads as it did. -/
def fnExactQuotePutSpec : ChangeSpec := { name := "fnExactQuotePut", fn := fun _ => fun
  | [d] => { results := [.lit (.bool true)], args := [d] }
  | _ => none }
def fnExactQuotePutRow : OpenClaim := { program := "ytkdilgmlabaehaa", sum := "4669228d67303caadae9bd72f8c53f366b23d2698292b2d743ab1dfc1df854db", func := "loop.example/chancery/laws.FnExactQuotePut", spec := "fnExactQuotePut", inPlace := ["internal/abi.NoEscape", "internal/bytealg.IndexByteString"], apart := false }
def FnExactQuotePutSaid : Prop := fnExactQuotePutRow.holds Try.pinned (OpenSpec.ofChange fnExactQuotePutSpec)

/-- ITS FALSE NEIGHBOUR: 'it returns false'. Refute it at one input. -/
def fnExactQuotePutWrong : ChangeSpec := { name := "fnExactQuotePut", fn := fun _ => fun
  | [d] => { results := [.lit (.bool false)], args := [d] }
  | _ => none }
def FnExactQuotePutWrongFalsely : Prop := fnExactQuotePutRow.holds Try.pinned (OpenSpec.ofChange fnExactQuotePutWrong)

/-- 'laws.FnExactQuoteGet': WHATEVER THE INPUT: true; the input reads as it did. -/
def fnExactQuoteGetSpec : ChangeSpec := { name := "fnExactQuoteGet", fn := fun _ => fun
  | [d] => { results := [.lit (.bool true)], args := [d] }
  | _ => none }
def fnExactQuoteGetRow : OpenClaim := { program := "ytkdilgmlabaehaa", sum := "4669228d67303caadae9bd72f8c53f366b23d2698292b2d743ab1dfc1df854db", func := "loop.example/chancery/laws.FnExactQuoteGet", spec := "fnExactQuoteGet", inPlace := ["internal/bytealg.IndexByteString", "internal/abi.NoEscape"], apart := false }
def FnExactQuoteGetSaid : Prop := fnExactQuoteGetRow.holds Try.pinned (OpenSpec.ofChange fnExactQuoteGetSpec)

/-- ITS FALSE NEIGHBOUR: 'it returns false'. Refute it at one input. -/
def fnExactQuoteGetWrong : ChangeSpec := { name := "fnExactQuoteGet", fn := fun _ => fun
  | [d] => { results := [.lit (.bool false)], args := [d] }
  | _ => none }
def FnExactQuoteGetWrongFalsely : Prop := fnExactQuoteGetRow.holds Try.pinned (OpenSpec.ofChange fnExactQuoteGetWrong)

/-- 'laws.FnQuote': WHATEVER THE INPUT: true; the input reads as it did. -/
def fnQuoteSpec : ChangeSpec := { name := "fnQuote", fn := fun _ => fun
  | [d1, d2] => { results := [.lit (.bool true)], args := [d1, d2] }
  | _ => none }
def fnQuoteRow : OpenClaim := { program := "ytkdilgmlabaehaa", sum := "4669228d67303caadae9bd72f8c53f366b23d2698292b2d743ab1dfc1df854db", func := "loop.example/chancery/laws.FnQuote", spec := "fnQuote", inPlace := ["internal/abi.NoEscape", "internal/bytealg.IndexByteString"], apart := false }
def FnQuoteSaid : Prop := fnQuoteRow.holds Try.pinned (OpenSpec.ofChange fnQuoteSpec)

/-- ITS FALSE NEIGHBOUR: 'it returns false'. Refute it at one input. -/
def fnQuoteWrong : ChangeSpec := { name := "fnQuote", fn := fun _ => fun
  | [d1, d2] => { results := [.lit (.bool false)], args := [d1, d2] }
  | _ => none }
def FnQuoteWrongFalsely : Prop := fnQuoteRow.holds Try.pinned (OpenSpec.ofChange fnQuoteWrong)

/-- 'laws.FnExactPapersOk': WHATEVER THE INPUT: true; the input reads as it did. -/
def fnExactPapersOkSpec : ChangeSpec := { name := "fnExactPapersOk", fn := fun _ => fun
  | [d] => { results := [.lit (.bool true)], args := [d] }
  | _ => none }
def fnExactPapersOkRow : OpenClaim := { program := "ytkdilgmlabaehaa", sum := "4669228d67303caadae9bd72f8c53f366b23d2698292b2d743ab1dfc1df854db", func := "loop.example/chancery/laws.FnExactPapersOk", spec := "fnExactPapersOk", unfollowed := true, recurses := true, apart := false }
def FnExactPapersOkSaid : Prop := fnExactPapersOkRow.holds Try.pinned (OpenSpec.ofChange fnExactPapersOkSpec)

/-- ITS FALSE NEIGHBOUR: 'it returns false'. Refute it at one input. -/
def fnExactPapersOkWrong : ChangeSpec := { name := "fnExactPapersOk", fn := fun _ => fun
  | [d] => { results := [.lit (.bool false)], args := [d] }
  | _ => none }
def FnExactPapersOkWrongFalsely : Prop := fnExactPapersOkRow.holds Try.pinned (OpenSpec.ofChange fnExactPapersOkWrong)

/- THE SECOND FORM. 'bulk': how many values and letters a reading holds, each counted each time it is reached (what is shared counts as often as it is met; a slice's spare places count too). A statement '..UptoSaid' is the law's where the arguments, and the package variables that the reading takes, are together of bulk at most 1048576: NARROWER than '..Said'. Prove '..Said' where nothing that the law and all that it calls make is longer than what came in: it says more and counts as full. Else prove '..UptoSaid'. A law counts once. -/
mutual
def uptoBulk {H : Type} : DataW H → Nat
  | .lit (.string bytes) => bytes.length + 1
  | .lit _ => 1
  | .nil => 1
  | .ptr d => uptoBulk d + 1
  | .slice elems spare => uptoBulkAll elems + uptoBulkAll spare + 1
  | .agg parts => uptoBulkAll parts + 1
  | .iface _ d => uptoBulk d + 1
  | .map entries => uptoBulkEntries entries + 1
  | .held _ => 1
def uptoBulkAll {H : Type} : List (DataW H) → Nat
  | [] => 0
  | d :: r => uptoBulk d + uptoBulkAll r
def uptoBulkEntries {H : Type} : List (Lit × DataW H) → Nat
  | [] => 0
  | x :: r => uptoBulkEntry x + uptoBulkEntries r
def uptoBulkEntry {H : Type} : Lit × DataW H → Nat
  | (.string bytes, d) => bytes.length + uptoBulk d + 1
  | (_, d) => uptoBulk d + 1
 end
def uptoSmall : (H : Type) → List (DataW H) → Bool := fun _ ds => decide (uptoBulkAll ds ≤ 1048576)
def OpenSpec.upto (s : _root_.Go.ChangeSpec) : _root_.Go.OpenSpec := { _root_.Go.OpenSpec.ofChange s with cond := some uptoSmall }

/-- 'laws.FnExactQuotePut', WHERE WHAT IT READS IS OF BULK AT MOST 1048576: true; the input reads as it did. -/
def fnExactQuotePutUptoRow : OpenClaim := { program := "ytkdilgmlabaehaa", sum := "4669228d67303caadae9bd72f8c53f366b23d2698292b2d743ab1dfc1df854db", func := "loop.example/chancery/laws.FnExactQuotePut", spec := "fnExactQuotePut", inPlace := ["internal/abi.NoEscape", "internal/bytealg.IndexByteString"], apart := false, narrowed := true }
def FnExactQuotePutUptoSaid : Prop := fnExactQuotePutUptoRow.holds Try.pinned (OpenSpec.upto fnExactQuotePutSpec)

/-- 'laws.FnExactQuoteGet', WHERE WHAT IT READS IS OF BULK AT MOST 1048576: true; the input reads as it did. -/
def fnExactQuoteGetUptoRow : OpenClaim := { program := "ytkdilgmlabaehaa", sum := "4669228d67303caadae9bd72f8c53f366b23d2698292b2d743ab1dfc1df854db", func := "loop.example/chancery/laws.FnExactQuoteGet", spec := "fnExactQuoteGet", inPlace := ["internal/bytealg.IndexByteString", "internal/abi.NoEscape"], apart := false, narrowed := true }
def FnExactQuoteGetUptoSaid : Prop := fnExactQuoteGetUptoRow.holds Try.pinned (OpenSpec.upto fnExactQuoteGetSpec)

/-- 'laws.FnQuote', WHERE WHAT IT READS IS OF BULK AT MOST 1048576: true; the input reads as it did. -/
def fnQuoteUptoRow : OpenClaim := { program := "ytkdilgmlabaehaa", sum := "4669228d67303caadae9bd72f8c53f366b23d2698292b2d743ab1dfc1df854db", func := "loop.example/chancery/laws.FnQuote", spec := "fnQuote", inPlace := ["internal/abi.NoEscape", "internal/bytealg.IndexByteString"], apart := false, narrowed := true }
def FnQuoteUptoSaid : Prop := fnQuoteUptoRow.holds Try.pinned (OpenSpec.upto fnQuoteSpec)

/-- 'laws.FnExactPapersOk', WHERE WHAT IT READS IS OF BULK AT MOST 1048576: true; the input reads as it did. -/
def fnExactPapersOkUptoRow : OpenClaim := { program := "ytkdilgmlabaehaa", sum := "4669228d67303caadae9bd72f8c53f366b23d2698292b2d743ab1dfc1df854db", func := "loop.example/chancery/laws.FnExactPapersOk", spec := "fnExactPapersOk", unfollowed := true, recurses := true, apart := false, narrowed := true }
def FnExactPapersOkUptoSaid : Prop := fnExactPapersOkUptoRow.holds Try.pinned (OpenSpec.upto fnExactPapersOkSpec)

end Rows
end Go.Proofs.Ytkdilgmlabaehaa
