/- The draws that hand the draw of two on. -/
import Derived.Test.YtldlfmehplemiaaDraw2
namespace Go.Proofs.Ytldlfmehplemiaa
open Go.RowKit
end Go.Proofs.Ytldlfmehplemiaa
