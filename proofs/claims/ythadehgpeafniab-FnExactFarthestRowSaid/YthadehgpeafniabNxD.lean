/- The model's least dearest way, and dearest way of a set. -/
import Derived.Test.YthadehgpeafniabNxM
import Derived.Test.YthadehgpeafniabMD
import Derived.Test.YthadehgpeafniabME
import Derived.Test.YthadehgpeafniabWC
set_option linter.unusedSimpArgs false
set_option linter.unusedVariables false
attribute [local go_sem ↓] Go.wp_at_zero Go.wp_at_succ
namespace Go.Proofs.Ythadehgpeafniab
open Go.ChangeShapes Go.WideShapes Go.ChangeAt Go.RowKit

theorem ldF_none {ws : List Wy} {e : Int} (h : ∀ j : Nat, j < 10 → joins ws (upto ws j) e = false) : ld ws e = -1 := by
  rcases ldF_ok ws e 10 0 with ⟨h1, _⟩ | ⟨i, h1, _, h3, h4, _⟩
  · exact h1
  · rw [h i (by omega)] at h4; cases h4
theorem ldF_at {ws : List Wy} {e : Int} {k : Nat} (hk : k < 10) (h : ∀ j : Nat, j < k → joins ws (upto ws j) e = false) (hj : joins ws (upto ws k) e = true) : ld ws e = k := by
  rcases ldF_ok ws e 10 0 with ⟨_, h2⟩ | ⟨i, h1, _, h3, h4, h5⟩
  · rw [h2 k (by omega) (by omega)] at hj; cases hj
  · unfold ld
    rw [h1]
    by_cases e1 : i < k
    · rw [h i e1] at h4; cases h4
    · by_cases e2 : k < i
      · rw [h5 k (by omega) e2] at hj; cases hj
      · omega
theorem dear_end {ws : List Wy} {s : Int} : dearTo ws s ws.length = dear ws s := rfl
end Go.Proofs.Ythadehgpeafniab
