/- All choices in the order of their sizes: the program's list. -/
import Derived.Test.YtcpefijmcajebaaDoorMK
import Derived.Test.YtcpefijmcajebaaDoorMJ
set_option linter.unusedSimpArgs false
set_option linter.unusedVariables false
namespace Go.Proofs.YtcpefijmcajebaaDoor
open Go.ChangeShapes Go.WideShapes Go.ChangeAt Go.RowKit

end Go.Proofs.YtcpefijmcajebaaDoor
