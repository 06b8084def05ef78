/- The program's least dearest way, what ends cover, the fewest ends, the centre. -/
import Derived.Test.YthadehgpeafniabDoorNxIc
import Derived.Test.YthadehgpeafniabDoorNxD
set_option linter.unusedSimpArgs false
set_option linter.unusedVariables false
attribute [local go_sem ↓] Go.wp_at_zero Go.wp_at_succ
namespace Go.Proofs.YthadehgpeafniabDoor
open Go.ChangeShapes Go.WideShapes Go.ChangeAt Go.RowKit

theorem cv_bad {F : Nat → Nat → Int} {m : Nat} {e : Int} {k : Nat} (hk : k < m) (h : nrTo F e k m < 0) : cv F m e = -1 := by
  unfold cv
  rw [if_neg]
  rw [allNr_iff]
  intro h9
  have := h9 k hk
  omega
theorem cv_told {F : Nat → Nat → Int} {m : Nat} (hm : 0 < m) {e : Int} (h : ∀ j, j < m → 0 ≤ nrTo F e j m) : cv F m e = max 0 (cvTo F m e m) := by
  unfold cv
  rw [if_pos (allNr_iff.2 h)]
  have h1 := (cvTo_le (F := F) (m := m) (e := e) (c := cvTo F m e m) (cvTo_ge F m e m) m).1 (Int.le_refl _) 0 hm
  obtain ⟨_, h2, _⟩ := (nrTo_ok F e 0 m).some (h 0 hm)
  omega
theorem nxFe_yes {F : Nat → Nat → Int} {m : Nat} {c : Int} {k : Nat} (h0 : 0 ≤ cv F m k) (h1 : cv F m k ≤ c) : feTo F m c (k + 1) = min (feTo F m c k) (pop k) := by
  rw [feTo, if_pos]; rw [decide_eq_true h0, decide_eq_true h1]; rfl
theorem nxFe_no {F : Nat → Nat → Int} {m : Nat} {c : Int} {k : Nat} (h : ¬ (0 ≤ cv F m k ∧ cv F m k ≤ c)) : feTo F m c (k + 1) = feTo F m c k := by
  rw [feTo, if_neg]; simpa using h
theorem fe_but {F : Nat → Nat → Int} {m N : Nat} {c : Int} (hm6 : m ≤ 6) (hN : allPl m = (N : Int)) : fe F m c = feTo F m c N := by
  have h1 : 2 ^ m = N + 1 := by
    have h2 : ((2 ^ m : Nat) : Int) = N + 1 := by
      rw [← hN]; unfold allPl; rw [Int.toNat_natCast]; simp
    omega
  unfold fe
  rw [h1]
  by_cases h : 0 ≤ cv F m N ∧ cv F m N ≤ c
  · rw [nxFe_yes h.1 h.2]
    have h3 := pop_allPl (n := (m : Int)) (by omega) (by omega)
    rw [hN] at h3
    have h4 := (feTo_ok F m c N).1
    rw [h3]; omega
  · rw [nxFe_no h]
end Go.Proofs.YthadehgpeafniabDoor
