/- A net's ways are written over. -/
import Derived.Test.YtbbomajgmgmigaaDoorRo
import Derived.Test.YtbbomajgmgmigaaDoorLO
import Derived.Deep.DrawnRows
set_option linter.unusedSimpArgs false
set_option linter.unusedVariables false
attribute [local go_sem ↓] Go.wp_at_zero Go.wp_at_succ
namespace Go.Proofs.YtbbomajgmgmigaaDoor
open Go.ChangeShapes Go.WideShapes Go.ChangeAt Go.RowKit

/-! ### a net's ways are written over -/
theorem Row3.set0 {w : World} {b : Nat} {t : TypeId} {ws : List Wy} (h : Row3 w b t ws 0) (j : Nat) (u : Value) : Row3 (w.setCell ⟨b, j, none⟩ u) b t ws 0 := by
  obtain ⟨cs, h1, h2, _⟩ := h.blk
  exact ⟨cs.setIfInBounds j u, by simp [World.setCell, Array.getElem?_modify, h1], by simpa using h2, fun i x hi => by omega⟩
theorem Row3.zero {w : World} {b : Nat} {t : TypeId} {ws : List Wy} {k : Nat} (h : Row3 w b t ws k) : Row3 w b t ws 0 := by
  obtain ⟨cs, h1, h2, _⟩ := h.blk
  exact ⟨cs, h1, h2, fun i x hi => by omega⟩
end Go.Proofs.YtbbomajgmgmigaaDoor
