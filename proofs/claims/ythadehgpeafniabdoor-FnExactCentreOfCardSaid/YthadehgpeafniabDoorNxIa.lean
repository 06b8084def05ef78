/- The program's dearest ways and nearest ends: DearestOf, waysUpTo, nearestOf, NearestRow, and the greatest, the least and the place of a number in a row. -/
import Derived.Test.YthadehgpeafniabDoorNxO
import Derived.Test.YthadehgpeafniabDoorME
import Derived.Test.YthadehgpeafniabDoorMJ
import Derived.Test.YthadehgpeafniabDoorMG
import Derived.Test.YthadehgpeafniabDoorTc
import Derived.Test.YthadehgpeafniabDoorUpA
set_option linter.unusedSimpArgs false
set_option linter.unusedVariables false
attribute [local go_sem ↓] Go.wp_at_zero Go.wp_at_succ
namespace Go.Proofs.YthadehgpeafniabDoor
open Go.ChangeShapes Go.WideShapes Go.ChangeAt Go.RowKit

theorem nxmax {a b M : Int} (h : max a b = M) : (if a < b then b else a) = M ∧ (if b < a then a else b) = M ∧ (if a ≤ b then b else a) = M ∧ (if b ≤ a then a else b) = M := by
  subst h
  refine ⟨?_, ?_, ?_, ?_⟩ <;> (split <;> omega)
theorem nxmin {a b M : Int} (h : min a b = M) : (if a < b then a else b) = M ∧ (if b < a then b else a) = M ∧ (if a ≤ b then a else b) = M ∧ (if b ≤ a then b else a) = M := by
  subst h
  refine ⟨?_, ?_, ?_, ?_⟩ <;> (split <;> omega)
/-- as the program takes the nearest end -/
theorem nxNr_yes {F : Nat → Nat → Int} {e : Int} {a k : Nat} (h : bit e (k : Nat) = true) (h0 : 0 ≤ F a k) (h1 : nrTo F e a k < 0 ∨ F a k < F a (nrTo F e a k).toNat) : nrTo F e a (k + 1) = k := by
  rw [nrTo, if_pos]
  rw [h, decide_eq_true h0]
  rcases h1 with h1 | h1
  · rw [decide_eq_true h1]; rfl
  · rw [decide_eq_true h1]; simp
theorem nxNr_out {F : Nat → Nat → Int} {e : Int} {a k : Nat} (h : bit e (k : Nat) = false) : nrTo F e a (k + 1) = nrTo F e a k := by
  rw [nrTo, if_neg]; rw [h]; simp
theorem nxNr_far {F : Nat → Nat → Int} {e : Int} {a k : Nat} (h : F a k < 0) : nrTo F e a (k + 1) = nrTo F e a k := by
  rw [nrTo, if_neg]; rw [decide_eq_false (p := 0 ≤ F a k) (by omega)]; simp
theorem nxNr_worse {F : Nat → Nat → Int} {e : Int} {a k : Nat} (h0 : ¬ nrTo F e a k < 0) (h1 : ¬ F a k < F a (nrTo F e a k).toNat) : nrTo F e a (k + 1) = nrTo F e a k := by
  rw [nrTo, if_neg]; rw [decide_eq_false h0, decide_eq_false h1]; simp
end Go.Proofs.YthadehgpeafniabDoor
