/- Walk of the law FnDearestOf. -/
import Derived.Test.YthadehgpeafniaaDoorNxI
import Derived.Test.YthadehgpeafniaaDoorNxD
import Derived.Test.YthadehgpeafniaaDoorWC
import Derived.Test.YthadehgpeafniaaDoorMC
import Derived.Test.YthadehgpeafniaaDoorME
import Derived.Test.YthadehgpeafniaaDoorWNa
set_option linter.unusedSimpArgs false
set_option linter.unusedVariables false
attribute [local go_sem ↓] Go.wp_at_zero Go.wp_at_succ
namespace Go.Proofs.YthadehgpeafniaaDoor
open Go.ChangeShapes Go.WideShapes Go.ChangeAt Go.RowKit

theorem dearest_no {n : Int} {ws : List Wy} {s : Int} (h : dearestOf n ws s < 0) : dearestOf n ws s = -1 := by
  unfold dearestOf at h ⊢
  split at h
  · have := dear_nn ws s; omega
  · rw [if_neg (by assumption)]
theorem dearest_t {n : Int} {ws : List Wy} {s : Int} (h : ¬ dearestOf n ws s < 0) : setOk n ws s = true ∧ dearestOf n ws s = dear ws s := by
  unfold dearestOf at h ⊢
  split at h
  · rename_i h1; rw [if_pos h1]; exact ⟨h1, rfl⟩
  · omega
theorem dearest_of {n : Int} {ws : List Wy} {s : Int} (h : setOk n ws s = true) : dearestOf n ws s = dear ws s := by unfold dearestOf; rw [if_pos h]
theorem setOk_pow {n : Int} {ws : List Wy} (hno : netOk n ws = true) {k : Nat} (hk : k < ws.length) : setOk n ws (2 ^ k) = true := by
  have h9 := Nat.pow_lt_pow_right (a := 2) (by omega) hk
  have h8 := Nat.two_pow_pos k
  have e2 : ((2 : Int) ^ k) = ((2 ^ k : Nat) : Int) := by simp
  have e3 : ((2 : Int) ^ ws.length) = ((2 ^ ws.length : Nat) : Int) := by simp
  exact setOk_mk hno (by omega) ((full_lt ws.length _).2 (by omega))
end Go.Proofs.YthadehgpeafniaaDoor
