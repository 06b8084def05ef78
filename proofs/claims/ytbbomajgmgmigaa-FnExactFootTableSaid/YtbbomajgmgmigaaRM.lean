/- Roots together: a root for all ends of two sets with an end in common costs at most both. Plain mathematics. -/
import Derived.Test.YtbbomajgmgmigaaRN
import Derived.Test.YtbbomajgmgmigaaDU
set_option linter.unusedSimpArgs false
set_option linter.unusedVariables false
namespace Go.Proofs.Ytbbomajgmgmigaa
open Go.RowKit

theorem low_bit_all : ∀ e : Fin 64, e.val ≠ 0 → ∃ j : Fin 6, bits .and .i64 (e.val : Int) (-(e.val : Int)) = 2 ^ j.val ∧ e.val.testBit j.val = true := by decide +kernel
theorem low_bit {e : Int} (h0 : 0 < e) (h1 : e < 64) : ∃ j : Nat, j < 6 ∧ bits .and .i64 e (-e) = 2 ^ j ∧ bit e j = true := by
  obtain ⟨j, h2, h3⟩ := low_bit_all ⟨e.toNat, by omega⟩ (by simp only; omega)
  simp only [Int.toNat_of_nonneg (show 0 ≤ e by omega)] at h2
  refine ⟨j.val, j.isLt, h2, ?_⟩
  unfold bit
  rw [Int.toNat_natCast]
  exact h3
/-- sets that join e and f, which have an end in common, join together all of both -/
theorem joins_union {n : Int} {ws : List Wy} (hn : NetIs n ws) {s t e f p : Int} (e0 : 0 ≤ e) (e1 : e < 2 ^ n.toNat) (f0 : 0 ≤ f) (f1 : f < 2 ^ n.toNat) (hp : 0 ≤ p) (hpe : bit e p = true) (hpf : bit f p = true) (hs : joins ws s e = true) (ht : joins ws t f = true) :
    joins ws (ior s t) (ior e f) = true := by
  have hpn : p < n := by have := set_sub e0 e1 hpe; have := hn.lo; omega
  have hS := (joins_iff hn e0 e1).1 hs
  have hT := (joins_iff hn f0 f1).1 ht
  have hb := ior_bd e f n.toNat e1 f1
  have key : ∀ q, 0 ≤ q → bit (ior e f) q = true → bit (reach ws (ior s t) p) q = true := fun q hq h => by
    rw [bit_ior, Bool.or_eq_true] at h
    rcases h with h | h
    · exact re_mono hn hp hpn hq (fun k _ hb => by rw [bit_ior, hb]; rfl) (hS p q hp hq hpe h)
    · exact re_mono hn hp hpn hq (fun k _ hb => by rw [bit_ior, hb]; simp) (hT p q hp hq hpf h)
  refine (joins_iff hn hb.1 hb.2).2 fun a b ha hb hba hbb => ?_
  have h1 := key a ha hba
  rw [reach_back hn hp hpn ha h1]
  exact key b hb hbb
theorem root_join {n : Int} {ws : List Wy} (hn : NetIs n ws) {e f p : Int} (e0 : 0 ≤ e) (e1 : e < 2 ^ n.toNat) (f0 : 0 ≤ f) (f1 : f < 2 ^ n.toNat) (hp : 0 ≤ p) (hpe : bit e p = true) (hpf : bit f p = true) (he : 0 ≤ best ws e) :
    (best ws f < 0 ∧ best ws (ior e f) < 0) ∨ (0 ≤ best ws f ∧ 0 ≤ best ws (ior e f) ∧ cost ws (best ws (ior e f)) ≤ cost ws (best ws e) + cost ws (best ws f)) := by
  have hb := ior_bd e f n.toNat e1 f1
  by_cases hf : best ws f < 0
  · refine .inl ⟨hf, ?_⟩
    apply Classical.byContradiction
    intro h
    have hj := best_joins (ws := ws) (e := ior e f) (by omega)
    have hj2 := joins_less_ends hn hb.1 hb.2 f0 f1 (fun q _ h => by rw [bit_ior, h]; simp) hj
    have := (best_cost_le hn (by omega) (best_full ws (ior e f)) hj2).1
    omega
  · have hj := joins_union hn e0 e1 f0 f1 hp hpe hpf (best_joins he) (best_joins (ws := ws) (e := f) (by omega))
    have hi := ior_full he (best_full ws e) (show 0 ≤ best ws f by omega) (best_full ws f)
    have h := best_cost_le hn hi.1 hi.2 hj
    have hc := cost_union hn (best ws e) (best ws f)
    exact .inr ⟨by omega, h.1, by omega⟩
theorem plOk_mk {n e : Int} (h0 : 0 ≤ e) (h1 : e < 2 ^ n.toNat) : plOk n e = true := by unfold plOk; simp; omega
end Go.Proofs.Ytbbomajgmgmigaa
