/- What the laws on changes of ways say, in the answers' words. -/
import Derived.Test.YtcfendmhhhggeaaDoorDwN
import Derived.Test.YtcfendmhhhggeaaDoorDwD
set_option linter.unusedVariables false
set_option linter.unusedSimpArgs false
namespace Go.Proofs.YtcfendmhhhggeaaDoor
open Go.RowKit

theorem setNeg {n : Int} {ws : List Wy} {s : Int} (h : s < 0) : setOk n ws s = false := by
  cases h9 : setOk n ws s
  · rfl
  · have := (setOk_t h9).2.1; omega
theorem root_neg {n : Int} {ws : List Wy} {e : Int} (h : rootOf n ws e < 0) : rootOf n ws e = -1 ∧ rootCost n ws e = -1 ∧ mustWays n ws e = -1 ∧ mayWays n ws e = -1 := by
  have h1 : rootCost n ws e = -1 := by unfold rootCost costOf; rw [setNeg h]; rfl
  refine ⟨?_, h1, by unfold mustWays; rw [h1]; rfl, by unfold mayWays; rw [h1]; rfl⟩
  unfold rootOf at h ⊢
  split at h
  · rename_i h2
    rw [if_pos h2]
    have := (best_bd ws e).1; omega
  · rename_i h2; rw [if_neg h2]
theorem cost_neg {n : Int} {ws : List Wy} {e : Int} (h : rootCost n ws e < 0) : rootCost n ws e = -1 ∧ mustWays n ws e = -1 ∧ mayWays n ws e = -1 := by
  have h1 : rootCost n ws e = -1 := by
    unfold rootCost costOf at h ⊢
    split at h
    · rename_i h2
      have h3 := setOk_t h2
      have := (cost_bds h3.1 (rootOf n ws e)).1; omega
    · rename_i h2; rw [if_neg h2]
  exact ⟨h1, by unfold mustWays; rw [h1]; rfl, by unfold mayWays; rw [h1]; rfl⟩
structure Told (n : Int) (ws : List Wy) (e : Int) : Prop where
  ok : netOk n ws = true
  pl : plOk n e = true
  rc : 0 ≤ rc ws e
  root : rootOf n ws e = best ws e
  cost : rootCost n ws e = Go.Proofs.YtcfendmhhhggeaaDoor.rc ws e
  best : 0 ≤ best ws e
theorem told_cost {n : Int} {ws : List Wy} {e : Int} (h : ¬ rootCost n ws e < 0) : Told n ws e := by
  obtain ⟨a, b, c, d, f⟩ := rootCost_told h
  have h9 := rootCost_rc a b
  exact ⟨a, b, by rw [← h9]; omega, f, h9, c⟩
theorem told_root {n : Int} {ws : List Wy} {e : Int} (h : ¬ rootOf n ws e < 0) : Told n ws e := by
  refine told_cost fun h9 => h ?_
  unfold rootOf at h ⊢
  split
  · rename_i h2
    rw [if_pos h2] at h
    exfalso
    obtain ⟨a, b⟩ : netOk n ws = true ∧ plOk n e = true := by simpa using h2
    rw [rootCost_rc a b] at h9
    unfold rc at h9
    rw [if_neg h] at h9
    have := (cost_bds (netOk_t a) (best ws e)).1
    omega
  · decide
theorem must_told {n : Int} {ws : List Wy} {e : Int} (h : ¬ mustWays n ws e < 0) : Told n ws e := by
  refine told_cost fun h9 => h ?_
  rw [(cost_neg h9).2.1]; decide
theorem may_told {n : Int} {ws : List Wy} {e : Int} (h : ¬ mayWays n ws e < 0) : Told n ws e := by
  refine told_cost fun h9 => h ?_
  rw [(cost_neg h9).2.2]; decide
theorem must_minus {n : Int} {ws : List Wy} {e : Int} (h : mustWays n ws e < 0) : mustWays n ws e = -1 ∧ rootCost n ws e = -1 := by
  by_cases h9 : rootCost n ws e < 0
  · exact ⟨(cost_neg h9).2.1, (cost_neg h9).1⟩
  · have t := told_cost h9
    have := (must_in t.ok t.pl t.rc).2; omega
theorem may_minus {n : Int} {ws : List Wy} {e : Int} (h : mayWays n ws e < 0) : mayWays n ws e = -1 ∧ rootCost n ws e = -1 := by
  by_cases h9 : rootCost n ws e < 0
  · exact ⟨(cost_neg h9).2.2, (cost_neg h9).1⟩
  · have t := told_cost h9
    have := (may_bit t.ok t.pl t.rc).1; omega
theorem Told.words {n : Int} {ws : List Wy} {e : Int} (t : Told n ws e) :
    (0 ≤ mustWays n ws e ∧ mustWays n ws e < 512) ∧ (0 ≤ rootOf n ws e ∧ rootOf n ws e < 512) ∧ (0 ≤ mayWays n ws e ∧ mayWays n ws e < 512) ∧
    idiff (mustWays n ws e) (rootOf n ws e) = 0 ∧ idiff (rootOf n ws e) (mayWays n ws e) = 0 ∧ idiff (mustWays n ws e) (mayWays n ws e) = 0 := by
  have hl := (netOk_t t.ok).len
  have hf := full_bd ws.length hl
  have hm := must_in t.ok t.pl t.rc
  have hy := may_bit t.ok t.pl t.rc
  have hb := best_full ws e
  have h1 : mustWays n ws e < 512 := by
    rw [hm.1]
    have h2 := (mustTo_bd n ws e ws.length).2
    have h3 := (full_lt ws.length (mustTo n ws e ws.length)).2 h2
    omega
  refine ⟨⟨hm.2, h1⟩, ⟨by rw [t.root]; exact t.best, by rw [t.root]; omega⟩, ⟨hy.1, by omega⟩, ?_, ?_, must_may t.ok t.pl t.rc⟩
  · rw [t.root]; exact must_best t.ok t.pl t.rc
  · rw [t.root]; exact best_may t.ok t.pl t.rc
theorem Told.list {n : Int} {ws : List Wy} {e : Int} (t : Told n ws e) : (rootsOf n ws e).foldl iand (full ws.length) = mustWays n ws e ∧ 0 < (rootsOf n ws e).length :=
  ⟨must_and t.ok t.pl t.rc, List.length_pos_of_mem (best_mem t.ok t.pl t.rc)⟩
theorem andF_bd {L : List Int} {a : Int} (h0 : 0 ≤ a) (k : Nat) : 0 ≤ (L.take k).foldl iand a ∧ (L.take k).foldl iand a ≤ a := andF_nn _ _ h0
/-! ### costs without, and with -/
theorem cw_neg {n : Int} {ws : List Wy} {e t : Int} (h : rootCost n ws e < 0) : costWithout n ws e t = -1 := by
  by_cases hok : (netOk n ws && plOk n e) = true
  · obtain ⟨a, b⟩ : netOk n ws = true ∧ plOk n e = true := by simpa using hok
    cases hin : inB t 0 (full ws.length)
    · exact costWithout_no (.inr hin)
    · obtain ⟨t0, t1⟩ := inB_t hin
      rw [rootCost_rc a b] at h
      rcases cw_ge a b t0 t1 with h9 | h9
      · exact h9
      · omega
  · exact costWithout_no (.inl (by simpa using hok))
theorem ch_neg {n : Int} {ws : List Wy} {e t : Int} (h : rootCost n ws e < 0) : costWith n ws e t = -1 := by
  by_cases hok : (netOk n ws && plOk n e) = true
  · obtain ⟨a, b⟩ : netOk n ws = true ∧ plOk n e = true := by simpa using hok
    cases hin : inB t 0 (full ws.length)
    · exact costWith_no (.inr hin)
    · obtain ⟨t0, t1⟩ := inB_t hin
      rw [rootCost_rc a b] at h
      exact ch_none a b t0 t1 h
  · exact costWith_no (.inl (by simpa using hok))
end Go.Proofs.YtcfendmhhhggeaaDoor
