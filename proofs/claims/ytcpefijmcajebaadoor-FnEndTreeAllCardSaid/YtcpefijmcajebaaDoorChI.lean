/- BestChoice of the program. -/
import Derived.Test.YtcpefijmcajebaaDoorChIa
import Derived.Test.YtcpefijmcajebaaDoorChIb
import Derived.Test.YtcpefijmcajebaaDoorChB
import Derived.Test.YtcpefijmcajebaaDoorMK
import Derived.Test.YtcpefijmcajebaaDoorMJ
set_option linter.unusedSimpArgs false
set_option linter.unusedVariables false
namespace Go.Proofs.YtcpefijmcajebaaDoor
open Go.ChangeShapes Go.WideShapes Go.ChangeAt Go.RowKit

end Go.Proofs.YtcpefijmcajebaaDoor
