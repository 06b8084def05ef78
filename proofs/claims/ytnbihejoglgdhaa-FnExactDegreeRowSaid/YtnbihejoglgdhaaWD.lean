import Derived.Test.YtnbihejoglgdhaaWC
set_option linter.unusedSimpArgs false
set_option linter.unusedVariables false
namespace Go.Proofs.Ytnbihejoglgdhaa
open Go.ChangeShapes Go.WideShapes Go.ChangeAt Go.RowKit

theorem full_wrap (len : Nat) (h : len ≤ 20) : wrap64 (wrap64 (2 ^ len) - 1) = full len := by
  have hp := pow_bd (len : Int) 20 (by omega)
  rw [Int.toNat_natCast] at hp
  have e1 : wrap64 (2 ^ len) = 2 ^ len := IntWalk.wrap64_in _ ⟨by omega, by omega⟩
  rw [e1]
  exact IntWalk.wrap64_in _ ⟨by omega, by omega⟩

end Go.Proofs.Ytnbihejoglgdhaa
