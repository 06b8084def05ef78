/- PathOf, of the program and of its model: the end. -/
import Derived.Test.YtbbomajgmgmigaaDS
set_option linter.unusedSimpArgs false
set_option linter.unusedVariables false
namespace Go.Proofs.Ytbbomajgmgmigaa
open Go.ChangeShapes Go.WideShapes Go.ChangeAt Go.RowKit


def both (a b : Int) : Int := ior (2 ^ a.toNat) (2 ^ b.toNat)
noncomputable def pathOf (n : Int) (ws : List Wy) (a b : Int) : Int := if (netOk n ws && (hasPl n a && hasPl n b)) = true then best ws (both a b) else -1


end Go.Proofs.Ytbbomajgmgmigaa
