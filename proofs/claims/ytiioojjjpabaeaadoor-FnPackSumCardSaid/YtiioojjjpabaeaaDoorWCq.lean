/- DrawPathCuts: some net, two numbers. -/
import Derived.Test.YtiioojjjpabaeaaDoorWQ
import Derived.Test.YtiioojjjpabaeaaDoorWX
set_option linter.unusedSimpArgs false
set_option linter.unusedVariables false
attribute [local go_sem ↓] Go.wp_at_zero Go.wp_at_succ
namespace Go.Proofs.YtiioojjjpabaeaaDoor
open Go.ChangeShapes Go.WideShapes Go.ChangeAt Go.RowKit
theorem not_pair {w : World} {b j : Nat} {t : TypeId} (hres : w.heap[b]? = some (.cells #[.int .i64 0, .slice none 0 0] t (0, 0))) {x y : Int} (h0 : w.cell? ⟨b, j, none⟩ = some (.int .i64 x)) (h1 : w.cell? ⟨b, j + 1, none⟩ = some (.int .i64 y)) : False := by
  rw [cell_of_row _ _ _ _ _ (0, 0) hres] at h0 h1
  match j with
  | 0 => simp at h1
  | j + 1 => simp at h1
end Go.Proofs.YtiioojjjpabaeaaDoor
