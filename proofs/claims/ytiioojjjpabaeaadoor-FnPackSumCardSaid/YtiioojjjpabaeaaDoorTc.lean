/- FarTable of the program. -/
import Derived.Test.YtiioojjjpabaeaaDoorMI
set_option linter.unusedSimpArgs false
set_option linter.unusedVariables false
attribute [local go_sem ↓] Go.wp_at_zero Go.wp_at_succ
namespace Go.Proofs.YtiioojjjpabaeaaDoor
open Go.ChangeShapes Go.WideShapes Go.ChangeAt Go.RowKit

theorem Only.keep2_ {lo hi h : Nat} {w w' : World} {x0 x1 : Value} (ho : Only lo hi w w') (hh : h < lo) (hs : h < w.heap.size) (hk : w.cell? ⟨h, 0, none⟩ = some x0 ∧ w.cell? ⟨h, 1, none⟩ = some x1) : w'.cell? ⟨h, 0, none⟩ = some x0 ∧ w'.cell? ⟨h, 1, none⟩ = some x1 :=
  ⟨(World.cell?_of_block (w := w) (ho.block h hs (.inl hh))).trans hk.1, (World.cell?_of_block (w := w) (ho.block h hs (.inl hh))).trans hk.2⟩

end Go.Proofs.YtiioojjjpabaeaaDoor
