/- LeastIn, of the program and of its model: ways are taken away from behind. -/
import Derived.Test.YtbbomajgmgmigaaRA
set_option linter.unusedSimpArgs false
set_option linter.unusedVariables false
namespace Go.Proofs.Ytbbomajgmgmigaa
open Go.ChangeShapes Go.WideShapes Go.ChangeAt Go.RowKit

/-- what is left when the last j ways have been looked at -/
noncomputable def thS (ws : List Wy) (e s : Int) : Nat → Int
  | 0 => s
  | j + 1 => if joins ws (idiff (thS ws e s j) (2 ^ (ws.length - 1 - j))) e = true then idiff (thS ws e s j) (2 ^ (ws.length - 1 - j)) else thS ws e s j
theorem thS_bd {ws : List Wy} {e s : Int} (h0 : 0 ≤ s) : ∀ j, 0 ≤ thS ws e s j ∧ thS ws e s j ≤ s
  | 0 => ⟨h0, Int.le_refl _⟩
  | j + 1 => by
    have ih := thS_bd (ws := ws) (e := e) h0 j
    have hd := idiff_bd (thS ws e s j) (2 ^ (ws.length - 1 - j)) ih.1
    rw [thS]
    split <;> omega
theorem thS_le {ws : List Wy} {e s : Int} (h0 : 0 ≤ s) (j : Nat) : thS ws e s (j + 1) ≤ thS ws e s j := by
  have ih := thS_bd (ws := ws) (e := e) h0 j
  have hd := idiff_bd (thS ws e s j) (2 ^ (ws.length - 1 - j)) ih.1
  rw [thS]
  split <;> omega
theorem thS_le2 {ws : List Wy} {e s : Int} (h0 : 0 ≤ s) (j : Nat) : ∀ d, thS ws e s (j + d) ≤ thS ws e s j
  | 0 => Int.le_refl _
  | d + 1 => Int.le_trans (thS_le h0 (j + d)) (thS_le2 h0 j d)
theorem thS_yes {ws : List Wy} {e s : Int} {j k : Nat} (hk : k + j + 1 = ws.length) (h : joins ws (idiff (thS ws e s j) (2 ^ k)) e = true) : thS ws e s (j + 1) = idiff (thS ws e s j) (2 ^ k) := by
  have e1 : ws.length - 1 - j = k := by omega
  rw [thS, e1, if_pos h]
theorem thS_no {ws : List Wy} {e s : Int} {j k : Nat} (hk : k + j + 1 = ws.length) (h : joins ws (idiff (thS ws e s j) (2 ^ k)) e = false) : thS ws e s (j + 1) = thS ws e s j := by
  have e1 : ws.length - 1 - j = k := by omega
  rw [thS, e1, if_neg (by rw [h]; simp)]
theorem idiff_not {u : Int} {k : Nat} (h0 : 0 ≤ u) (hb : bit u k = false) : idiff u (2 ^ k) = u := by
  have hd := idiff_bd u (2 ^ k) h0
  refine set_ext hd.1 h0 fun q hq => ?_
  have e2 : ((2 : Int) ^ k) = 2 ^ ((k : Int)).toNat := by rw [Int.toNat_natCast]
  rw [bit_idiff, e2, bit_shl (k : Int) q (by omega) hq]
  by_cases h : q = k
  · subst h; rw [hb]; rfl
  · rw [decide_eq_false h]; simp
theorem thS_same {ws : List Wy} {e s : Int} {j k : Nat} (h0 : 0 ≤ s) (hk : k + j + 1 = ws.length) (hb : bit (thS ws e s j) k = false) : thS ws e s (j + 1) = thS ws e s j := by
  have ih := thS_bd (ws := ws) (e := e) h0 j
  cases h : joins ws (idiff (thS ws e s j) (2 ^ k)) e
  · exact thS_no hk h
  · rw [thS_yes hk h, idiff_not ih.1 hb]
theorem thS_joins {ws : List Wy} {e s : Int} (h : joins ws s e = true) : ∀ j, joins ws (thS ws e s j) e = true
  | 0 => h
  | j + 1 => by
    have ih := thS_joins h j
    rw [thS]
    split
    · assumption
    · exact ih
noncomputable def leastIn (n : Int) (ws : List Wy) (s e : Int) : Int := if joinsEnds n ws s e = true then thS ws e s ws.length else -1
theorem joinsEnds_t {n : Int} {ws : List Wy} {s e : Int} (h : joinsEnds n ws s e = true) : setOk n ws s = true ∧ plOk n e = true ∧ joins ws s e = true := by
  unfold joinsEnds at h
  rw [Bool.and_eq_true, Bool.and_eq_true] at h
  exact ⟨h.1.1, h.1.2, h.2⟩

end Go.Proofs.Ytbbomajgmgmigaa
