/- The model's points: PointsOk, PointsFar, HalfRound, MiddleOf, MeetCost. -/
import Derived.Test.YtgnjjiljipgbnaaDoorPoM
import Derived.Test.YtgnjjiljipgbnaaDoorCuA
import Derived.Test.YtgnjjiljipgbnaaDoorOrd
import Derived.Test.YtgnjjiljipgbnaaDoorWC
set_option linter.unusedSimpArgs false
set_option linter.unusedVariables false
attribute [local go_sem ↓] Go.wp_at_zero Go.wp_at_succ
namespace Go.Proofs.YtgnjjiljipgbnaaDoor
open Go.ChangeShapes Go.WideShapes Go.ChangeAt Go.RowKit

theorem RC.at2 {w : World} {B : Nat} {A : Option Addr} {cs : List (Int × Int)} (h : RC w B A cs) {k : Nat} (hk : k < cs.length) : ∃ b o, A = some ⟨b, o, none⟩ ∧ b < B ∧ w.cell? ⟨b, o + k * 2, none⟩ = some (.int .i64 (ptAt cs k).1) ∧ w.cell? ⟨b, o + k * 2 + 1, none⟩ = some (.int .i64 (ptAt cs k).2) := by
  have hx : cs[k]? = some cs[k] := List.getElem?_eq_getElem hk
  rw [ptAt_at hx]
  exact h k _ hx
theorem two_block {w : World} {b : Nat} {x0 x1 v0 v1 : Value} {t : TypeId} (h : w.heap[b]? = some (.cells #[x0, x1] t (0, 0))) :
    ((w.setCell ⟨b, 0, none⟩ v0).setCell ⟨b, 1, none⟩ v1).heap[b]? = some (.cells #[v0, v1] t (0, 0)) := by
  simp [World.setCell, Array.getElem?_modify, h]
theorem minforms {a b M : Int} (h : min a b = M) : (if a < b then a else b) = M ∧ (if b < a then b else a) = M ∧ (if a ≤ b then a else b) = M ∧ (if b ≤ a then b else a) = M := by
  refine ⟨?_, ?_, ?_, ?_⟩ <;> split <;> omega
theorem maxforms {a b M : Int} (h : max a b = M) : (if a < b then b else a) = M ∧ (if b < a then a else b) = M ∧ (if a ≤ b then b else a) = M ∧ (if b ≤ a then a else b) = M := by
  refine ⟨?_, ?_, ?_, ?_⟩ <;> split <;> omega
end Go.Proofs.YtgnjjiljipgbnaaDoor
