/- Trees between ends, in the words of the laws. Plain mathematics. -/
import Derived.Test.YtcpefijmcajebaaDoorEnE
import Derived.Test.YtcpefijmcajebaaDoorMG
import Derived.Test.YtcpefijmcajebaaDoorChA
import Derived.Test.YtcpefijmcajebaaDoorST
set_option linter.unusedVariables false
set_option linter.unusedSimpArgs false
namespace Go.Proofs.YtcpefijmcajebaaDoor
open Go.RowKit

theorem endLinks_none {n : Int} {ws : List Wy} {e : Int} (h : endLinks n ws e = none) : rootCost n ws e = -1 := by
  cases hk : netOk n ws && plOk n e
  · exact rootCost_not hk
  · have hk2 := hk
    rw [Bool.and_eq_true] at hk2
    have hni := netOk_t hk2.1
    obtain ⟨e0, e1⟩ := plOk_t hk2.2
    obtain ⟨m, rfl⟩ := Int.eq_ofNat_of_zero_le (show 0 ≤ n by have := hni.lo; omega)
    unfold endLinks at h
    rw [if_pos hk, Int.toNat_natCast] at h
    rw [Int.toNat_natCast] at e1
    have h1 := rootCost_rc hk2.1 hk2.2
    have h2 := (rc_ge hni e).1
    by_cases hr : 0 ≤ rc ws e
    · obtain ⟨L, hL, -⟩ := lnks_told hni e0 e1 hr
      rw [h] at hL; cases hL
    · omega
/-- links that are told -/
theorem endLinks_some {m : Nat} {ws : List Wy} {e : Int} {L : List (Nat × Nat)} (h : endLinks (m : Int) ws e = some L) :
    NetIs (m : Int) ws ∧ 0 ≤ e ∧ e < 2 ^ m ∧ rootCost (m : Int) ws e = rc ws e ∧ 0 ≤ rc ws e ∧ endTreeCost (m : Int) ws e = sumL (farF ws m) L ∧ rc ws e ≤ sumL (farF ws m) L ∧ sumL (farF ws m) L ≤ 6000 ∧
    ((pop e < 2 ∧ sumL (farF ws m) L = 0 ∧ rc ws e = 0) ∨ (2 ≤ pop e ∧ pop e ≤ 6 ∧ pop e * sumL (farF ws m) L ≤ (pop e - 1) * (2 * rc ws e))) ∧
    (L.length : Int) + pop (stE e) = pop e ∧ L.length ≤ 6 ∧ LinkOk e (stE e) L ∧ (∀ p, p ∈ L → p.1 < m ∧ p.2 < m) ∧ endTreeSet (m : Int) ws e = uni ws L 0 ∧ 0 ≤ uni ws L 0 ∧ uni ws L 0 ≤ full ws.length ∧ joins ws (uni ws L 0) e = true ∧ cost ws (uni ws L 0) ≤ sumL (farF ws m) L := by
  obtain ⟨h1, h2, h3⟩ := endLinks_told h
  have hni := netOk_t h1
  obtain ⟨e0, e1⟩ := plOk_t h2
  rw [Int.toNat_natCast] at e1 h3
  obtain ⟨g1, g2, g3, g4, g5⟩ := lnks_rc hni e0 e1 h3
  obtain ⟨L', k1, k2⟩ := lnks_told hni e0 e1 g1
  rw [h3] at k1
  injection k1 with k1
  subst k1
  obtain ⟨u1, u2, u3, u4⟩ := lnks_uni hni e0 e1 h3
  obtain ⟨a1, a2⟩ := lnks_all hni e0 e1 h3
  have hb := sumL_bd a2 L.length (Nat.le_refl _)
  rw [List.take_length] at hb
  have hc := endTreeCost_some h
  rw [Int.toNat_natCast] at hc
  exact ⟨hni, e0, e1, rootCost_rc h1 h2, g1, hc, g2, by omega, k2, g3, a1, g5, g4, endTreeSet_some h, u1, u2, u3, u4⟩
/-- told where they hang together between the ends -/
theorem endTree_so {m : Nat} {ws : List Wy} {e : Int} (hno : netOk (m : Int) ws = true) (hpo : plOk (m : Int) e = true) : so ws e < 0 ∨ (0 ≤ endTreeCost (m : Int) ws e ∧ endTreeCost (m : Int) ws e ≤ so ws e) := by
  have hni := netOk_t hno
  obtain ⟨e0, e1⟩ := plOk_t hpo
  rw [Int.toNat_natCast] at e1
  by_cases hs : so ws e < 0
  · exact .inl hs
  · obtain ⟨L, l1, l2⟩ := lnks_so hni e0 e1 (by omega)
    have hl : endLinks (m : Int) ws e = some L := by unfold endLinks; rw [hno, hpo, Int.toNat_natCast]; exact l1
    obtain ⟨-, -, -, -, g5, g6, g7, -⟩ := endLinks_some hl
    rw [g6]
    exact .inr ⟨by omega, l2⟩
/-- between all places it is the least tree -/
theorem endTree_all {m : Nat} {ws : List Wy} (hno : netOk (m : Int) ws = true) : endTreeCost (m : Int) ws (allPl m) = spanCostOf m ws := by
  have hni := netOk_t hno
  have hab := allPl_bd hni
  have hpo : plOk (m : Int) (allPl m) = true := plOk_mk (by omega) hab.2.2
  have hsc : spanCostOf (m : Int) ws = so ws (allPl m) := by unfold spanCostOf so; rw [if_pos hno]
  have hsa := so_all hni
  rw [hsc]
  cases hl : endLinks (m : Int) ws (allPl m) with
  | none =>
    have h1 := endLinks_none hl
    rw [rootCost_rc hno hpo] at h1
    rw [endTreeCost_none hl]; omega
  | some L =>
    obtain ⟨-, -, -, -, g5, g6, g7, -⟩ := endLinks_some hl
    rcases endTree_so hno hpo with h | h
    · omega
    · omega
/-- what is left of a set is in it -/
theorem thS_in {ws : List Wy} {e s : Int} (h0 : 0 ≤ s) : ∀ j, ∀ q, 0 ≤ q → bit (thS ws e s j) q = true → bit s q = true
  | 0, q, _, h => h
  | j + 1, q, hq, h => by
    have ih := thS_in (ws := ws) (e := e) h0 j q hq
    rw [thS] at h
    split at h
    · rw [bit_idiff, Bool.and_eq_true] at h
      exact ih h.1
    · exact ih h
/-- what is left of the paths -/
theorem left_ok {m : Nat} {ws : List Wy} {e s : Int} (hno : netOk (m : Int) ws = true) (hpo : plOk (m : Int) e = true) (s0 : 0 ≤ s) (s1 : s ≤ full ws.length) (hj : joins ws s e = true) :
    joinsEnds (m : Int) ws s e = true ∧ costOf (m : Int) ws s = cost ws s ∧ ∃ t, leastIn (m : Int) ws s e = t ∧ costOf (m : Int) ws t = cost ws t ∧ rc ws e ≤ cost ws t ∧ cost ws t ≤ cost ws s ∧ 0 ≤ cost ws t ∧ cost ws s ≤ 81 := by
  have hni := netOk_t hno
  have hje : joinsEnds (m : Int) ws s e = true := by unfold joinsEnds; rw [setOk_mk hno s0 s1, hpo, hj]; rfl
  have hb := thS_bd (ws := ws) (e := e) s0 ws.length
  have hco : ∀ t, 0 ≤ t → t ≤ full ws.length → costOf (m : Int) ws t = cost ws t := fun t t0 t1 => by unfold costOf; rw [setOk_mk hno t0 t1]; rfl
  refine ⟨hje, hco s s0 s1, _, by unfold leastIn; rw [if_pos hje], hco _ hb.1 (by omega), ?_, cost_mono hni (thS_in s0 ws.length), (cost_bds hni _).1, (cost_bds hni s).2⟩
  exact (rc_le hni hb.1 (by omega) (thS_joins hj ws.length)).2
end Go.Proofs.YtcpefijmcajebaaDoor
