/- BestChoice of the model. -/
import Derived.Test.YthadehgpeafniaaDoorChA
set_option linter.unusedSimpArgs false
set_option linter.unusedVariables false
attribute [local go_sem ↓] Go.wp_at_zero Go.wp_at_succ
namespace Go.Proofs.YthadehgpeafniaaDoor
open Go.ChangeShapes Go.WideShapes Go.ChangeAt Go.RowKit

noncomputable def bestChoice (n : Int) (ws : List Wy) (e : Int) : Int := if rootCost n ws e < 0 then -1 else bc n ws e
theorem rc_told2 {n : Int} {ws : List Wy} {e : Int} (h : ¬ rootCost n ws e < 0) : netOk n ws = true ∧ plOk n e = true ∧ rootCost n ws e = rc ws e := by
  cases hk : netOk n ws && plOk n e
  · rw [rootCost_not hk] at h; omega
  · rw [Bool.and_eq_true] at hk
    exact ⟨hk.1, hk.2, rootCost_rc hk.1 hk.2⟩
theorem okC_no1 {ws : List Wy} {e k : Int} (h : iand k e ≠ 0) : okC ws e k = false := by unfold okC; simp [h]
theorem okC_no2 {ws : List Wy} {e k : Int} (h : so ws (ior e k) ≠ rc ws e) : okC ws e k = false := by unfold okC; simp [h]
theorem okC_yes {ws : List Wy} {e k : Int} (h1 : iand k e = 0) (h2 : so ws (ior e k) = rc ws e) : okC ws e k = true := by unfold okC; simp [h1, h2]
theorem bcTo_off {ws : List Wy} {e : Int} {k : Nat} (h : okC ws e k = false) : bcTo ws e (k + 1) = bcTo ws e k := by rw [bcTo, if_neg (by rw [h]; simp)]
theorem bcTo_yes {ws : List Wy} {e : Int} {k : Nat} (h : okC ws e k = true) (h' : bcTo ws e k < 0 ∨ pop k < pop (bcTo ws e k)) : bcTo ws e (k + 1) = k := by rw [bcTo, if_pos ⟨h, h'⟩]
theorem bcTo_no {ws : List Wy} {e : Int} {k : Nat} (h' : ¬ (bcTo ws e k < 0 ∨ pop k < pop (bcTo ws e k))) : bcTo ws e (k + 1) = bcTo ws e k := by rw [bcTo, if_neg (fun h => h' h.2)]
end Go.Proofs.YthadehgpeafniaaDoor
