/- put, whatever the items. -/
import Derived.Test.YtgikdmognolmoaaDoorWrC
import Derived.Test.YtgikdmognolmoaaDoorWqAll
namespace Go.Proofs.YtgikdmognolmoaaDoor
open Go.RowKit Go.Lib Go.Wq
end Go.Proofs.YtgikdmognolmoaaDoor
