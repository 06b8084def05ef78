/- The model's codes of trees: LinksOk. -/
import Derived.Test.YtimccjmphdkbjaaPdA
import Derived.Test.YtimccjmphdkbjaaCpD
import Derived.Test.YtimccjmphdkbjaaGnA
import Derived.Test.YtimccjmphdkbjaaOrd
import Derived.Test.YtimccjmphdkbjaaME
set_option linter.unusedSimpArgs false
set_option linter.unusedVariables false
attribute [local go_sem ↓] Go.wp_at_zero Go.wp_at_succ
namespace Go.Proofs.Ytimccjmphdkbjaa
open Go.ChangeShapes Go.WideShapes Go.ChangeAt Go.RowKit

theorem lw_snoc (L : List (Int × Int)) (p : Int × Int) : lw (L ++ [p]) = lw L ++ [⟨p.1, p.2, 0⟩] := by unfold lw; rw [List.map_append]; rfl
theorem lw_take {L : List (Int × Int)} {k : Nat} {p : Int × Int} (h : L[k]? = some p) : lw (L.take (k + 1)) = lw (L.take k) ++ [⟨p.1, p.2, 0⟩] := by rw [List.take_add_one, h]; exact lw_snoc _ _
theorem linksOk_no1 {n : Int} {L : List (Int × Int)} (h : inB n 2 6 = false) : linksOk n L = false := by
  unfold inB at h
  unfold linksOk
  cases h1 : decide (2 ≤ n)
  · rfl
  · cases h2 : decide (n ≤ 6)
    · rfl
    · rw [h1, h2] at h; cases h
theorem linksOk_no2 {m : Nat} {L : List (Int × Int)} (h : shapeB m L = false) : linksOk (m : Int) L = false := by unfold linksOk; rw [Int.toNat_natCast, h]; simp
theorem linksOk_is {m : Nat} {L : List (Int × Int)} (h2 : 2 ≤ m) (h6 : m ≤ 6) (h : shapeB m L = true) : linksOk (m : Int) L = joins (lw L) (full L.length) (allPl m) := by
  unfold linksOk
  rw [decide_eq_true (by omega : (2 : Int) ≤ m), decide_eq_true (by omega : (m : Int) ≤ 6), Int.toNat_natCast, h]; rfl
theorem shape_no1 {m : Nat} {L : List (Int × Int)} (h : L.length + 1 ≠ m) : shapeB m L = false := by unfold shapeB; rw [decide_eq_false h]; rfl
theorem shape_no2 {m : Nat} {L : List (Int × Int)} {k : Nat} (hk : k < L.length) (h : okAt m L k = false) : shapeB m L = false := by
  unfold shapeB
  rw [Bool.and_eq_false_iff]
  right
  rw [List.all_eq_false]
  exact ⟨k, List.mem_range.2 hk, by rw [h]; simp⟩
theorem shape_yes {m : Nat} {L : List (Int × Int)} (h : L.length + 1 = m) (hall : ∀ j, j < L.length → okAt m L j = true) : shapeB m L = true := by
  unfold shapeB
  rw [decide_eq_true h, Bool.true_and, List.all_eq_true]
  exact fun j hj => hall j (List.mem_range.1 hj)
/-- a pair as it must be, by itself -/
def okP (m : Nat) (p : Int × Int) : Bool := decide (0 ≤ p.1) && (decide (p.1 < p.2) && decide (p.2 < (m : Int)))
theorem okAt_p {m : Nat} {L : List (Int × Int)} {k : Nat} {p : Int × Int} (h : L[k]? = some p) : okAt m L k = (okP m p && (decide (k = 0) || gtP p (L.getD (k - 1) (0, 0)))) := by
  unfold okAt okP; rw [getD_some h]
theorem okAt_net {m : Nat} (h2 : 2 ≤ m) (h6 : m ≤ 6) {L : List (Int × Int)} (h : shapeB m L = true) : NetIs (m : Int) (lw L) := lw_net h2 h6 h
end Go.Proofs.Ytimccjmphdkbjaa
