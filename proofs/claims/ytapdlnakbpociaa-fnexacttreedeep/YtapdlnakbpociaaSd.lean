/- Two trees that are the same, by the program: the row of pairs that are to be done. -/
import Derived.Test.YtapdlnakbpociaaSc
import Derived.Test.YtapdlnakbpociaaKr
import Derived.Carry
import Derived.Laws.OwnMore
namespace Go.Proofs.Ytapdlnakbpociaa
open Go.RowKit
theorem pcells_length (S : List It2) : (S.flatMap pcells).length = S.length * 10 := by
  induction S with
  | nil => rfl
  | cons p t ih => rw [List.flatMap_cons, List.length_append, ih, List.length_cons]; show 10 + _ = _; omega
end Go.Proofs.Ytapdlnakbpociaa
