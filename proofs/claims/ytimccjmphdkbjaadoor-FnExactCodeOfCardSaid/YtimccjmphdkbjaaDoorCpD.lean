/- The model's pairs: PairsOk, l9Joins, JoinsPairs, PairsOf, PairsCost; PartMany. -/
import Derived.Test.YtimccjmphdkbjaaDoorCpM
import Derived.Test.YtimccjmphdkbjaaDoorCpN
import Derived.Test.YtimccjmphdkbjaaDoorCuA
import Derived.Test.YtimccjmphdkbjaaDoorMD
import Derived.Test.YtimccjmphdkbjaaDoorMG
import Derived.Test.YtimccjmphdkbjaaDoorWC
set_option linter.unusedSimpArgs false
set_option linter.unusedVariables false
attribute [local go_sem ↓] Go.wp_at_zero Go.wp_at_succ
namespace Go.Proofs.YtimccjmphdkbjaaDoor
open Go.ChangeShapes Go.WideShapes Go.ChangeAt Go.RowKit

theorem RC.at_ {w : World} {B : Nat} {A : Option Addr} {cs : List (Int × Int)} (h : RC w B A cs) {k : Nat} {x : Int × Int} (hx : cs[k]? = some x) : ∃ b o, A = some ⟨b, o, none⟩ ∧ b < B ∧ w.cell? ⟨b, o + k * 2, none⟩ = some (.int .i64 x.1) ∧ w.cell? ⟨b, o + k * 2 + 1, none⟩ = some (.int .i64 x.2) := h k x hx
theorem joinsPairs_no {n : Int} {ws : List Wy} {ps : List (Int × Int)} {s : Int} (h : pairsOk n ws ps = false) : joinsPairs n ws ps s = false := by unfold joinsPairs; rw [h]; rfl
theorem setOk_in {n : Int} {ws : List Wy} {s : Int} (hno : netOk n ws = true) : setOk n ws s = inB s 0 (full ws.length) := by
  unfold setOk inB; rw [hno]; rfl
theorem ptTo_step (ws : List Wy) (s : Int) (k : Nat) : ptTo ws s (k + 1) = ptTo ws s k + if (bit (nodesTo ws s ws.length) k && lowB ws s k) = true then 1 else 0 := rfl
theorem ptTo_bd (ws : List Wy) (s : Int) (k : Nat) : 0 ≤ ptTo ws s k ∧ ptTo ws s k ≤ k := cnB_bd _ k
end Go.Proofs.YtimccjmphdkbjaaDoor
