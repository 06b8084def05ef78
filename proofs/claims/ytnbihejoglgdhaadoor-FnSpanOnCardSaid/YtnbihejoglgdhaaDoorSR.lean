/- SpanTree and SpanCost of the model. -/
import Derived.Test.YtnbihejoglgdhaaDoorSQ
import Derived.Test.YtnbihejoglgdhaaDoorST
set_option linter.unusedSimpArgs false
set_option linter.unusedVariables false
namespace Go.Proofs.YtnbihejoglgdhaaDoor
open Go.ChangeShapes Go.WideShapes Go.ChangeAt Go.RowKit


/-- is there one -/
theorem span_told (n : Int) (ws : List Wy) : (spanTreeOf n ws = -1 ∧ spanCostOf n ws = -1) ∨ (netOk n ws = true ∧ joins ws (span ws (allPl n)) (allPl n) = true ∧ spanTreeOf n ws = span ws (allPl n) ∧ spanCostOf n ws = cost ws (span ws (allPl n)) ∧ 0 ≤ spanTreeOf n ws ∧ spanTreeOf n ws ≤ full ws.length) := by
  have hS := span_bd ws (allPl n)
  unfold spanTreeOf spanCostOf
  cases h1 : netOk n ws
  · exact .inl ⟨by simp, by simp⟩
  · cases h2 : joins ws (span ws (allPl n)) (allPl n)
    · exact .inl ⟨by simp, by simp⟩
    · refine .inr ⟨rfl, rfl, by simp, by simp, ?_⟩
      simpa using hS

end Go.Proofs.YtnbihejoglgdhaaDoor
