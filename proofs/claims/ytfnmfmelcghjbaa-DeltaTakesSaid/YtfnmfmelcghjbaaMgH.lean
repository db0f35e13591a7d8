/- Messages: lists of News, the document. -/
import Derived.Test.YtfnmfmelcghjbaaMgG
namespace Go.Proofs.Ytfnmfmelcghjbaa
open Go.Fq Go.RowKit Go.Mq
open Go.Iq (idE nameE)
set_option linter.unusedVariables false
set_option linter.unusedSimpArgs false
set_option maxRecDepth 100000

end Go.Proofs.Ytfnmfmelcghjbaa
