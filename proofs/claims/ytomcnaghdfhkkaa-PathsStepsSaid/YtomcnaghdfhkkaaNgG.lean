/- Graphs: where the link of two stands. -/
import Derived.Test.YtomcnaghdfhkkaaNgF
namespace Go.Proofs.Ytomcnaghdfhkkaa
open Go.RowKit Go.Lib Go.Nq
set_option linter.unusedVariables false
set_option linter.unusedSimpArgs false
set_option maxRecDepth 100000

end Go.Proofs.Ytomcnaghdfhkkaa
