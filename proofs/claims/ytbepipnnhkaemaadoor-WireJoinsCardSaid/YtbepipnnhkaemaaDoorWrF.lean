/- put, whatever the items. -/
import Derived.Test.YtbepipnnhkaemaaDoorWrC
import Derived.Test.YtbepipnnhkaemaaDoorWqQ
namespace Go.Proofs.YtbepipnnhkaemaaDoor
open Go.RowKit Go.Lib Go.Wq
theorem put_says (its : List It) : PutSays its := its_ind PutSays put_any its
end Go.Proofs.YtbepipnnhkaemaaDoor
