/- DrawPruned: some net, some set, some ends. -/
import Derived.Test.YtimccjmphdkbjaaDoorWM
import Derived.Test.YtimccjmphdkbjaaDoorWU
import Derived.Deep.RegionHeld3
set_option linter.unusedSimpArgs false
set_option linter.unusedVariables false
attribute [local go_sem ↓] Go.wp_at_zero Go.wp_at_succ
namespace Go.Proofs.YtimccjmphdkbjaaDoor
open Go.ChangeShapes Go.WideShapes Go.ChangeAt Go.RowKit

theorem set_p {w1 w2 : World} {g h : Nat} {o o' : Obj} (hr : w1.heap[h]? = some o) (hg2 : (w1.alloc o').drew.grownBy w2 (some g)) (hl : h < w1.heap.size) (hg : h < g) : w2.heap[h]? = some o := by
  have hne : some h ≠ some g := by intro e; injection e; omega
  rw [hg2.block h (by simp; omega) hne]
  exact (Below.heap_alloc _ _ _ hl).trans hr

end Go.Proofs.YtimccjmphdkbjaaDoor
