/- What the laws of chapter 7 call of trees that are not told. -/
import Derived.Test.YtfpaalmbllhmaaaDoorUpE
import Derived.Test.YtfpaalmbllhmaaaDoorUpF
import Derived.Test.YtfpaalmbllhmaaaDoorST
set_option linter.unusedSimpArgs false
set_option linter.unusedVariables false
namespace Go.Proofs.YtfpaalmbllhmaaaDoor
open Go.RowKit
theorem selTo_none : ∀ m, selTo (fun _ => false) m = 0
  | 0 => rfl
  | m + 1 => by rw [selTo, selTo_none m]; rfl
theorem spanCost_neg {n : Int} {ws : List Wy} (h : spanCostOf n ws < 0) : spanCostOf n ws = -1 := by
  have hb := fun (hn : NetIs n ws) => (cost_bds hn (span ws (allPl n))).1
  unfold spanCostOf at h ⊢
  cases hno : netOk n ws
  · rfl
  · rw [hno] at h
    simp only [if_true] at h ⊢
    have := hb (netOk_t hno)
    split
    · rename_i hj; rw [if_pos hj] at h; omega
    · rfl
theorem spanTree_neg {n : Int} {ws : List Wy} (h : spanTreeOf n ws < 0) : spanTreeOf n ws = -1 := by
  have := spanTreeOf_bd n ws
  omega
theorem up_none {n : Int} {ws : List Wy} (h : (upWays n ws).length = 0) : spanTreeOf n ws < 0 := by
  by_cases ht : spanTreeOf n ws < 0
  · exact ht
  · unfold upWays at h
    rw [if_neg ht, upRow_len] at h
    have := (treeFor (n := n) (ws := ws) (by omega)).1.net.lo
    omega
theorem up_len {n : Int} {ws : List Wy} (h : (upWays n ws).length ≠ 0) : 0 ≤ spanTreeOf n ws ∧ ((upWays n ws).length : Int) = n ∧ upWays n ws = upRow ws (spanTreeOf n ws) n.toNat := by
  by_cases ht : spanTreeOf n ws < 0
  · unfold upWays at h
    rw [if_pos ht] at h
    simp at h
  · have h1 : upWays n ws = upRow ws (spanTreeOf n ws) n.toNat := by unfold upWays; rw [if_neg ht]
    have := (treeFor (n := n) (ws := ws) (by omega)).1.net.lo
    refine ⟨by omega, ?_, h1⟩
    rw [h1, upRow_len]
    omega
end Go.Proofs.YtfpaalmbllhmaaaDoor
