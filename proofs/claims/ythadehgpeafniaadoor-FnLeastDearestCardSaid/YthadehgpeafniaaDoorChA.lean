/- SpanOn and ChosenCost of the model. -/
import Derived.Test.YthadehgpeafniaaDoorSQ
import Derived.Test.YthadehgpeafniaaDoorMK
import Derived.Test.YthadehgpeafniaaDoorMG
set_option linter.unusedSimpArgs false
set_option linter.unusedVariables false
namespace Go.Proofs.YthadehgpeafniaaDoor
open Go.ChangeShapes Go.WideShapes Go.ChangeAt Go.RowKit

noncomputable def spanOn (n : Int) (ws : List Wy) (e : Int) : Int := if (netOk n ws && plOk n e) = true then so ws e else -1
noncomputable def chosenCost (n : Int) (ws : List Wy) (e c : Int) : Int := if ((netOk n ws && plOk n e) && plOk n c) = true then so ws (ior e c) else -1
theorem plOk_ior {n e c : Int} (h : plOk n e = true) (h' : plOk n c = true) : plOk n (ior e c) = true := by
  obtain ⟨e0, e1⟩ := plOk_t h
  obtain ⟨c0, c1⟩ := plOk_t h'
  have := ior_bd e c _ e1 c1
  exact plOk_mk this.1 this.2
end Go.Proofs.YthadehgpeafniaaDoor
