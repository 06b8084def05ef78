/- The model's cheapest ways first: just which set. -/
import Derived.Test.YtcpefijmcajebaaDoorWT
import Derived.Test.YtcpefijmcajebaaDoorMB
set_option linter.unusedSimpArgs false
set_option linter.unusedVariables false
namespace Go.Proofs.YtcpefijmcajebaaDoor
open Go.ChangeShapes Go.WideShapes Go.ChangeAt Go.RowKit

end Go.Proofs.YtcpefijmcajebaaDoor
