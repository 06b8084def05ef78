/- PathOf, of the program and of its model. -/
import Derived.Test.YtbbomajgmgmigaaDR
set_option linter.unusedSimpArgs false
set_option linter.unusedVariables false
namespace Go.Proofs.Ytbbomajgmgmigaa
open Go.ChangeShapes Go.WideShapes Go.ChangeAt Go.RowKit

/-- the one set comes before the other one: cheaper, or as cheap with fewer ways -/
def chp (ws : List Wy) (a b : Int) : Bool := if cost ws a = cost ws b then decide (pop a < pop b) else decide (cost ws a < cost ws b)
/-- the best set below k that joins the places e -/
noncomputable def bestTo (ws : List Wy) (e : Int) : Nat → Int
  | 0 => -1
  | k + 1 => if (decide (bestTo ws e k < 0) || chp ws k (bestTo ws e k)) && joins ws k e then k else bestTo ws e k
theorem bestTo_bd (ws : List Wy) (e : Int) : ∀ k, -1 ≤ bestTo ws e k ∧ bestTo ws e k < k
  | 0 => by simp [bestTo]
  | k + 1 => by
    have ih := bestTo_bd ws e k
    rw [bestTo]
    split <;> omega
noncomputable def best (ws : List Wy) (e : Int) : Int := bestTo ws e (2 ^ ws.length)
theorem cost_bds {n : Int} {ws : List Wy} (hn : NetIs n ws) (s : Int) : 0 ≤ cost ws s ∧ cost ws s ≤ 81 := by
  have := cost_bd hn s ws.length
  rwa [List.take_of_length_le (Nat.le_refl _)] at this



theorem bestTo_yes {ws : List Wy} {e : Int} {k : Nat} (h : bestTo ws e k < 0 ∨ chp ws k (bestTo ws e k) = true) (hj : joins ws k e = true) : bestTo ws e (k + 1) = k := by
  rw [bestTo, if_pos]
  rw [hj, Bool.and_true, Bool.or_eq_true]
  rcases h with h | h
  · left; simpa using h
  · right; exact h
theorem bestTo_no {ws : List Wy} {e : Int} {k : Nat} (h : joins ws k e = false ∨ (¬ bestTo ws e k < 0 ∧ chp ws k (bestTo ws e k) = false)) : bestTo ws e (k + 1) = bestTo ws e k := by
  rw [bestTo, if_neg]
  rcases h with h | ⟨h1, h2⟩
  · rw [h]; simp
  · rw [h2]; simp only [Bool.or_false, Bool.and_eq_true, decide_eq_true_eq]; omega

end Go.Proofs.Ytbbomajgmgmigaa
