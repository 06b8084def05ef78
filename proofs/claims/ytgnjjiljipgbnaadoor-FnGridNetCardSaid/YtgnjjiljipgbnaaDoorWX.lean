/- Drawn nets with drawn ends. -/
import Derived.Test.YtgnjjiljipgbnaaDoorWJ
import Derived.Deep.RegionHeld3
set_option linter.unusedSimpArgs false
set_option linter.unusedVariables false
attribute [local go_sem ↓] Go.wp_at_zero Go.wp_at_succ
namespace Go.Proofs.YtgnjjiljipgbnaaDoor
open Go.ChangeShapes Go.WideShapes Go.ChangeAt Go.RowKit






end Go.Proofs.YtgnjjiljipgbnaaDoor
