/- The model's cuts: CutWays, PartsEnds, PacksOk, PackSum. -/
import Derived.Test.YtfpaalmbllhmaaaDoorCuB
import Derived.Test.YtfpaalmbllhmaaaDoorMD
import Derived.Test.YtfpaalmbllhmaaaDoorMG
import Derived.Test.YtfpaalmbllhmaaaDoorWC
set_option linter.unusedSimpArgs false
set_option linter.unusedVariables false
attribute [local go_sem ↓] Go.wp_at_zero Go.wp_at_succ
namespace Go.Proofs.YtfpaalmbllhmaaaDoor
open Go.ChangeShapes Go.WideShapes Go.ChangeAt Go.RowKit

/-- a place's bit, as a number -/
def bv (P i : Int) : Int := if bit P i = true then 1 else 0
theorem bv_is {P i : Int} (hi : 0 ≤ i) (hP : 0 ≤ P) : P / 2 ^ i.toNat % 2 = bv P i ∧ (P / 2 ^ i.toNat).tmod 2 = bv P i := by
  unfold bv
  cases h : bit P i
  · have := bit_zero hi hP h
    rw [if_neg (by simp)]; exact this
  · have := bit_one hi hP h
    rw [if_pos rfl]; exact this
theorem bv_ne (P Q i j : Int) : (bv P i != bv Q j) = (bit P i != bit Q j) := by
  unfold bv
  cases bit P i <;> cases bit Q j <;> rfl
theorem plOk_lt {n P : Int} (hn : n ≤ 6) (h : plOk n P = true) : 0 ≤ P ∧ P < 64 := by
  obtain ⟨p0, p1⟩ := plOk_t h
  have hp6 := pow_bd n 6 (by omega)
  exact ⟨p0, by omega⟩
theorem partsEnds_no {n : Int} {ws : List Wy} {e P : Int} (h : (netOk n ws && plOk n e) = false) : partsEnds n ws e P = false := by
  unfold partsEnds; rw [← Bool.and_assoc, h]; rfl
theorem partsEnds_no2 {n : Int} {ws : List Wy} {e P : Int} (h : (netOk n ws && plOk n P) = false) : partsEnds n ws e P = false := by
  unfold partsEnds
  cases h1 : netOk n ws
  · rfl
  · rw [h1, Bool.true_and] at h
    rw [h]; simp
theorem partsEnds_is {n : Int} {ws : List Wy} {e P : Int} (h1 : (netOk n ws && plOk n e) = true) (h2 : (netOk n ws && plOk n P) = true) : partsEnds n ws e P = parts e P := by
  rw [Bool.and_eq_true] at h1 h2
  unfold partsEnds; rw [h1.1, h1.2, h2.2]; rfl
theorem parts_no1 {e P : Int} (h : iand e P = 0) : parts e P = false := by unfold parts; simp [h]
theorem parts_no2 {e P : Int} (h : idiff e P = 0) : parts e P = false := by unfold parts; simp [h]
theorem parts_yes {e P : Int} (h : iand e P ≠ 0) (h' : idiff e P ≠ 0) : parts e P = true := by unfold parts; simp [h, h']
theorem packSum_no {n : Int} {ws : List Wy} {e : Int} {cs : List (Int × Int)} (h : packsOk n ws e cs = false) : packSum n ws e cs = -1 := by unfold packSum; rw [h, if_neg (by simp)]
theorem packSum_is {n : Int} {ws : List Wy} {e : Int} {cs : List (Int × Int)} (h : packsOk n ws e cs = true) : packSum n ws e cs = wsum cs := by unfold packSum; rw [h, if_pos rfl]
end Go.Proofs.YtfpaalmbllhmaaaDoor
