/- What chosen places cost, and the best choice, in the words of the laws. Plain mathematics. -/
import Derived.Test.YthadehgpeafniaaDoorChB
import Derived.Test.YthadehgpeafniaaDoorMK
import Derived.Test.YthadehgpeafniaaDoorST
import Derived.Test.YthadehgpeafniaaDoorMD
set_option linter.unusedVariables false
set_option linter.unusedSimpArgs false
namespace Go.Proofs.YthadehgpeafniaaDoor
open Go.RowKit

theorem rootOf_told {n : Int} {ws : List Wy} {e : Int} (h : ¬ rootOf n ws e < 0) : netOk n ws = true ∧ plOk n e = true ∧ 0 ≤ best ws e ∧ rootOf n ws e = best ws e ∧ 0 ≤ rc ws e ∧ rootCost n ws e = rc ws e := by
  unfold rootOf at h ⊢
  cases hk : netOk n ws && plOk n e
  · rw [hk] at h; simp at h
  · rw [hk] at h
    rw [Bool.and_eq_true] at hk
    rw [if_pos rfl] at h ⊢
    have hn := netOk_t hk.1
    refine ⟨hk.1, hk.2, by omega, rfl, ?_, rootCost_rc hk.1 hk.2⟩
    unfold rc
    rw [if_neg h]
    exact (cost_bds hn _).1
theorem rootOf_rc {n : Int} {ws : List Wy} {e : Int} (hn : netOk n ws = true) (he : plOk n e = true) (h : 0 ≤ rc ws e) : 0 ≤ rootOf n ws e := by
  unfold rootOf
  rw [hn, he]
  unfold rc at h
  split at h
  · omega
  · simpa using (by omega : 0 ≤ best ws e)
theorem chosen_none {n : Int} {ws : List Wy} {e : Int} (c : Int) (h : rootOf n ws e < 0) : chosenCost n ws e c = -1 := by
  unfold chosenCost
  split
  · rename_i hc
    rw [Bool.and_eq_true, Bool.and_eq_true] at hc
    have hni := netOk_t hc.1.1
    obtain ⟨e0, e1⟩ := plOk_t hc.1.2
    obtain ⟨c0, c1⟩ := plOk_t hc.2
    have hg := so_ge hni (ior e c)
    by_cases hs : 0 ≤ so ws (ior e c)
    · have := so_least hni e0 e1 c1 hs
      have := rootOf_rc hc.1.1 hc.1.2 this.1
      omega
    · omega
  · rfl
theorem chosen_ge {n : Int} {ws : List Wy} {e : Int} (c : Int) (h : ¬ rootOf n ws e < 0) : chosenCost n ws e c < 0 ∨ rc ws e ≤ chosenCost n ws e c := by
  unfold chosenCost
  split
  · rename_i hc
    rw [Bool.and_eq_true, Bool.and_eq_true] at hc
    have hni := netOk_t hc.1.1
    obtain ⟨e0, e1⟩ := plOk_t hc.1.2
    obtain ⟨c0, c1⟩ := plOk_t hc.2
    by_cases hs : 0 ≤ so ws (ior e c)
    · exact .inr (so_least hni e0 e1 c1 hs).2
    · exact .inl (by omega)
  · exact .inl (by omega)
theorem nodes_best {n : Int} {ws : List Wy} {e : Int} (hn : netOk n ws = true) (h : 0 ≤ best ws e) : nodesOf n ws (best ws e) = nds ws (best ws e) := by
  have hb := best_bd ws e
  unfold nodesOf
  rw [setOk_mk hn h (by unfold full; omega)]; rfl
theorem chosen_root {n : Int} {ws : List Wy} {e : Int} (hn : netOk n ws = true) (he : plOk n e = true) (h : 0 ≤ best ws e) (hr : 0 ≤ rc ws e) : chosenCost n ws e (nds ws (best ws e)) = rc ws e := by
  have hni := netOk_t hn
  have hb := nds_bd hni (best ws e)
  obtain ⟨e0, e1⟩ := plOk_t he
  unfold chosenCost
  rw [hn, he, plOk_mk hb.1 hb.2.2]
  exact so_root hni e0 e1 hr
theorem bestChoice_neg {n : Int} {ws : List Wy} {e : Int} (h : bestChoice n ws e < 0) : bestChoice n ws e = -1 ∧ rootCost n ws e = -1 := by
  unfold bestChoice at h ⊢
  by_cases hr : rootCost n ws e < 0
  · rw [if_pos hr]
    refine ⟨rfl, ?_⟩
    cases hk : netOk n ws && plOk n e
    · exact rootCost_not hk
    · rw [Bool.and_eq_true] at hk
      have := rootCost_rc hk.1 hk.2
      have := (rc_ge (netOk_t hk.1) e).1
      omega
  · rw [if_neg hr] at h ⊢
    obtain ⟨hn, he, hrc⟩ := rc_told2 hr
    obtain ⟨e0, e1⟩ := plOk_t he
    exact (bc_told (netOk_t hn) e0 e1 h (by omega)).elim
/-- the best choice, where there is one -/
theorem bestChoice_pos {n : Int} {ws : List Wy} {e : Int} (h : ¬ bestChoice n ws e < 0) : netOk n ws = true ∧ plOk n e = true ∧ bestChoice n ws e = bc n ws e ∧ rootCost n ws e = rc ws e ∧ 0 ≤ rc ws e ∧ 0 ≤ bc n ws e := by
  unfold bestChoice at h ⊢
  by_cases hr : rootCost n ws e < 0
  · rw [if_pos hr] at h; omega
  · rw [if_neg hr] at h ⊢
    obtain ⟨hn, he, hrc⟩ := rc_told2 hr
    exact ⟨hn, he, rfl, hrc, by omega, by omega⟩
theorem chosen_bc {n : Int} {ws : List Wy} {e c : Int} (hn : netOk n ws = true) (he : plOk n e = true) (c0 : 0 ≤ c) (c1 : c < 2 ^ n.toNat) : chosenCost n ws e c = so ws (ior e c) := by
  unfold chosenCost
  rw [hn, he, plOk_mk c0 c1]; rfl
/-- of all places none is chosen -/
theorem bestChoice_all {n : Int} {ws : List Wy} (hn : netOk n ws = true) : (bestChoice n ws (allPl n) = 0 ∧ 0 ≤ spanTreeOf n ws) ∨ (bestChoice n ws (allPl n) = -1 ∧ spanTreeOf n ws < 0) := by
  have hni := netOk_t hn
  have hab := allPl_bd hni
  have hpo : plOk n (allPl n) = true := plOk_mk (by omega) hab.2.2
  by_cases h : bestChoice n ws (allPl n) < 0
  · obtain ⟨h1, h2⟩ := bestChoice_neg h
    rw [rootCost_rc hn hpo] at h2
    refine .inr ⟨h1, ?_⟩
    unfold spanTreeOf
    rw [if_pos hn]
    split
    · rename_i hj
      have hb := span_bd ws (allPl n)
      have := (rc_le hni hb.1 hb.2 hj).1
      omega
    · omega
  · obtain ⟨-, -, h3, h4, h5, h6⟩ := bestChoice_pos h
    have hb := bc_bd (n := n) ws (allPl n)
    have hz : bc n ws (allPl n) = 0 := by
      refine set_none h6 hb.2 fun j j0 j1 => ?_
      have hi : bit (iand (bc n ws (allPl n)) (allPl n)) j = false := by rw [(bc_ok h6).1, bit_zero_]
      rw [bit_iand, allPl_bit j0 (by have := hni.lo; omega)] at hi
      have : decide (j < n) = true := by simp; have := hni.lo; omega
      rw [this, Bool.and_true] at hi
      exact hi
    refine .inl ⟨by rw [h3, hz], ?_⟩
    obtain ⟨s, s0, s1, hj, -⟩ := rc_set hni h5
    have hj := span_joins hni hj
    unfold spanTreeOf
    rw [if_pos hn, if_pos hj]
    exact (span_bd ws (allPl n)).1
theorem bestChoice_size {n : Int} {ws : List Wy} {e : Int} (h : ¬ bestChoice n ws e < 0) : pop (bestChoice n ws e) ≤ pop (idiff (nds ws (best ws e)) e) := by
  obtain ⟨hn, he, h3, h4, h5, h6⟩ := bestChoice_pos h
  obtain ⟨e0, e1⟩ := plOk_t he
  rw [h3]
  exact (bc_root (netOk_t hn) e0 e1 h5).2
end Go.Proofs.YthadehgpeafniaaDoor
