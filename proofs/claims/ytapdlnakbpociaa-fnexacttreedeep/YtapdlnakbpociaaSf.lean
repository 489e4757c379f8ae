/- Two trees that are the same, by the program: the loop walked. -/
import Derived.Test.YtapdlnakbpociaaSj
namespace Go.Proofs.Ytapdlnakbpociaa
open Go.RowKit
end Go.Proofs.Ytapdlnakbpociaa
