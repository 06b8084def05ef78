/- ReachOf, of the program and of its model. -/
import Derived.Test.YtnbihejoglgdhaaWD
import Derived.Test.YtnbihejoglgdhaaReach
set_option linter.unusedSimpArgs false
set_option linter.unusedVariables false
namespace Go.Proofs.Ytnbihejoglgdhaa
open Go.ChangeShapes Go.WideShapes Go.ChangeAt Go.RowKit

theorem wayPl_is (x : Wy) : wayPl x = ior (2 ^ x.a.toNat) (2 ^ x.b.toNat) := rfl
theorem wayPl_bd6 {n : Int} {ws : List Wy} (hn : NetIs n ws) {x : Wy} {k : Nat} (hx : ws[k]? = some x) : 0 ≤ wayPl x ∧ wayPl x < 64 := by
  have h := hn.at_ hx
  have hh := hn.hi
  have ha := shl1_bd x.a (by omega)
  have hb := shl1_bd x.b (by omega)
  exact ior_bd _ _ 6 (by omega) (by omega)



noncomputable def reachOf (n : Int) (ws : List Wy) (s p : Int) : Int := if setOk n ws s = true ∧ hasPl n p = true then reach ws s p else -1
end Go.Proofs.Ytnbihejoglgdhaa
