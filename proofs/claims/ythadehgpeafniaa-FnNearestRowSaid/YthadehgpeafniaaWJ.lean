/- Drawing functions that hand on a net and a set. -/
import Derived.Test.YthadehgpeafniaaWI
set_option linter.unusedSimpArgs false
set_option linter.unusedVariables false
namespace Go.Proofs.Ythadehgpeafniaa
open Go.ChangeShapes Go.WideShapes Go.ChangeAt Go.RowKit

/-- a drawn net, and a set: its ways are read in new memory -/
def DrawnSet (w : World) (e : Ending) (w' : World) : Prop :=
  ∃ (nn s : Int) (A' : Option Addr) (c' : Nat) (ws : List Wy), e = .returned (.tuple #[.agg #[.int .i64 nn, .slice A' ws.length c'], .int .i64 s]) ∧ RW w' w'.heap.size A' ws ∧ ws.length ≤ 10 ∧ ws.length ≤ c' ∧ 0 ≤ nn ∧ nn ≤ 7 ∧ 0 ≤ s ∧ s ≤ 2000 ∧ Below w.heap.size w w'



end Go.Proofs.Ythadehgpeafniaa
