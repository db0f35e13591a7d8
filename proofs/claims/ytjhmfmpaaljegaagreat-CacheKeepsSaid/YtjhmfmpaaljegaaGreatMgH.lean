/- Messages: lists of News, the document. -/
import Derived.Test.YtjhmfmpaaljegaaGreatMgG
namespace Go.Proofs.YtjhmfmpaaljegaaGreat
open Go.Fq Go.RowKit Go.Mq
open Go.Iq (idE nameE)
set_option linter.unusedVariables false
set_option linter.unusedSimpArgs false
set_option maxRecDepth 100000

end Go.Proofs.YtjhmfmpaaljegaaGreat
