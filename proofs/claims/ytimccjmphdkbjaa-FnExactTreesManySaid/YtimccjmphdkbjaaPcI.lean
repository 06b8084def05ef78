/- The program's codes of trees: LinksOk, CodeOf. -/
import Derived.Test.YtimccjmphdkbjaaPcJ
import Derived.Test.YtimccjmphdkbjaaME
import Derived.Test.YtimccjmphdkbjaaPcE
set_option linter.unusedSimpArgs false
set_option linter.unusedVariables false
attribute [local go_sem ↓] Go.wp_at_zero Go.wp_at_succ
namespace Go.Proofs.Ytimccjmphdkbjaa
open Go.ChangeShapes Go.WideShapes Go.ChangeAt Go.RowKit
end Go.Proofs.Ytimccjmphdkbjaa
