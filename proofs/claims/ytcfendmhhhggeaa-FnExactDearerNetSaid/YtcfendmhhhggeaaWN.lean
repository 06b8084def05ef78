/- Drawing functions that hand out a net. -/
import Derived.Test.YtcfendmhhhggeaaWH
set_option linter.unusedSimpArgs false
set_option linter.unusedVariables false
attribute [local go_sem ↓] Go.wp_at_zero Go.wp_at_succ
namespace Go.Proofs.Ytcfendmhhhggeaa
open Go.ChangeShapes Go.WideShapes Go.ChangeAt Go.RowKit

end Go.Proofs.Ytcfendmhhhggeaa
