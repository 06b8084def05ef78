/- RootOf and RootCost, of the program and of its model. -/
import Derived.Test.YtbbomajgmgmigaaDT
set_option linter.unusedSimpArgs false
set_option linter.unusedVariables false
namespace Go.Proofs.Ytbbomajgmgmigaa
open Go.ChangeShapes Go.WideShapes Go.ChangeAt Go.RowKit

end Go.Proofs.Ytbbomajgmgmigaa
