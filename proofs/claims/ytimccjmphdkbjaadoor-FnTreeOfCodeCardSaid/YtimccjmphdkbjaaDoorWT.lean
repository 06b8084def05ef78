/- The model's cheapest ways first: some set of ways. -/
import Derived.Test.YtimccjmphdkbjaaDoorMD
import Derived.Test.YtimccjmphdkbjaaDoorMA
import Derived.Test.YtimccjmphdkbjaaDoorMC
import Derived.Deep.RegionHeld3
set_option linter.unusedSimpArgs false
set_option linter.unusedVariables false
namespace Go.Proofs.YtimccjmphdkbjaaDoor
open Go.ChangeShapes Go.WideShapes Go.ChangeAt Go.RowKit

theorem keep5' {w w' : World} {h g : Nat} {x0 x1 y0 y1 y2 : Value} (hb : Below w.heap.size w w') (hk : w.cell? ⟨h, 0, none⟩ = some x0 ∧ w.cell? ⟨h, 1, none⟩ = some x1 ∧ w.cell? ⟨g, 0, none⟩ = some y0 ∧ w.cell? ⟨g, 1, none⟩ = some y1 ∧ w.cell? ⟨g, 2, none⟩ = some y2) (hl : h < w.heap.size) (hg : g < w.heap.size) :
    w'.cell? ⟨h, 0, none⟩ = some x0 ∧ w'.cell? ⟨h, 1, none⟩ = some x1 ∧ w'.cell? ⟨g, 0, none⟩ = some y0 ∧ w'.cell? ⟨g, 1, none⟩ = some y1 ∧ w'.cell? ⟨g, 2, none⟩ = some y2 :=
  ⟨(hb.cell (p := ⟨h, 0, none⟩) hl).trans hk.1, (hb.cell (p := ⟨h, 1, none⟩) hl).trans hk.2.1, (hb.cell (p := ⟨g, 0, none⟩) hg).trans hk.2.2.1, (hb.cell (p := ⟨g, 1, none⟩) hg).trans hk.2.2.2.1, (hb.cell (p := ⟨g, 2, none⟩) hg).trans hk.2.2.2.2⟩
theorem start5' {w : World} {h : Nat} {x0 x1 y0 y1 y2 : Value} {t : TypeId} (b0 : w.cell? ⟨h, 0, none⟩ = some x0) (b1 : w.cell? ⟨h, 1, none⟩ = some x1) (hl : h < w.heap.size) :
    (w.alloc (.cells #[y0, y1, y2] t)).cell? ⟨h, 0, none⟩ = some x0 ∧ (w.alloc (.cells #[y0, y1, y2] t)).cell? ⟨h, 1, none⟩ = some x1 ∧ (w.alloc (.cells #[y0, y1, y2] t)).cell? ⟨w.heap.size, 0, none⟩ = some y0 ∧ (w.alloc (.cells #[y0, y1, y2] t)).cell? ⟨w.heap.size, 1, none⟩ = some y1 ∧ (w.alloc (.cells #[y0, y1, y2] t)).cell? ⟨w.heap.size, 2, none⟩ = some y2 :=
  ⟨(World.cell?_alloc_lt w _ _ hl).trans b0, (World.cell?_alloc_lt w _ _ hl).trans b1, cell_of_row _ _ 0 _ _ (0, 0) (heap_alloc_new w _), cell_of_row _ _ 1 _ _ (0, 0) (heap_alloc_new w _), cell_of_row _ _ 2 _ _ (0, 0) (heap_alloc_new w _)⟩
def SomeSet (ws : List Wy) (w : World) (e : Ending) (w' : World) : Prop := ∃ r : Int, e = .returned (.int .i64 r) ∧ 0 ≤ r ∧ r ≤ full ws.length ∧ Below w.heap.size w w'

end Go.Proofs.YtimccjmphdkbjaaDoor
