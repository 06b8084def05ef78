/- What the laws of chapter 8 call of gains. -/
import Derived.Test.YtoekaembfieigaaDoorPzD
set_option linter.unusedSimpArgs false
set_option linter.unusedVariables false
namespace Go.Proofs.YtoekaembfieigaaDoor
open Go.RowKit
theorem best_no {n : Int} {ws : List Wy} {pz : List Int} (h : prizesOk n ws pz = false) : bestGain n ws pz = -1 ∧ bestWays n ws pz = -1 := by
  unfold bestGain bestWays; rw [h, if_neg (by simp), if_neg (by simp)]; exact ⟨rfl, rfl⟩
theorem best_is {n : Int} {ws : List Wy} {pz : List Int} (h : prizesOk n ws pz = true) : bestGain n ws pz = bgTo ws pz (2 ^ ws.length) := by
  unfold bestGain; rw [if_pos h]
theorem ends_src {n : Int} {ws : List Wy} {pz : List Int} {e x : Int} (h : endsGain n ws pz e = some x) : endsGain n ws pz (ior e 1) = some x := by
  obtain ⟨h1, h2, h3, rfl⟩ := endsGain_t h
  have hn := netOk_t h1.ok
  obtain ⟨e0, e1⟩ := plOk_t h2
  obtain ⟨i0, i1, i2⟩ := src_in e0 e1 hn
  have hii : ior (ior e 1) 1 = ior e 1 := by
    refine set_ext (ior_nn _ _) (ior_nn _ _) fun q hq => ?_
    rw [bit_ior, bit_ior, Bool.or_assoc, Bool.or_self]
  rw [endsGain_is h1 (plOk_mk i0 i1) (by rw [hii]; exact h3)]
  unfold eGain
  rw [hii]
theorem ends_none {n : Int} {ws : List Wy} {pz : List Int} (h : PzIs n ws pz) : endsGain n ws pz 0 = some (pz.getD 0 0) := by
  have hn := netOk_t h.ok
  have h2 := hn.lo
  obtain ⟨m, rfl⟩ := Int.eq_ofNat_of_zero_le (show 0 ≤ n by omega)
  have h1 : ior 0 1 = 1 := by
    refine set_ext (ior_nn _ _) (by omega) fun q hq => ?_
    rw [bit_ior, bit_zero_, Bool.false_or]
  have hr : rc ws (ior 0 1) = 0 := rc_one hn (v := 0) (by omega)
  have hp : plOk (m : Int) 0 = true := plOk_mk (Int.le_refl 0) (by
    rw [Int.toNat_natCast]
    have e9 : ((2 : Int) ^ m) = ((2 ^ m : Nat) : Int) := by simp
    have := Nat.two_pow_pos m
    omega)
  rw [endsGain_is h hp (by rw [hr]; omega)]
  unfold eGain
  rw [hr, h1, prTo_one pz _ (by have := h.len; omega), Int.sub_zero]
theorem gainOf_is {n : Int} {ws : List Wy} {pz : List Int} {s : Int} (h : prizesOk n ws pz = true) (s0 : 0 ≤ s) (s1 : s ≤ full ws.length) : gainOf n ws pz s = some (gain ws pz s) := by
  unfold gainOf
  have : inB s 0 (full ws.length) = true := by unfold inB; simp; omega
  rw [h, this, if_pos (show (true && true) = true from rfl)]
theorem gainOf_t {n : Int} {ws : List Wy} {pz : List Int} {s x : Int} (h : gainOf n ws pz s = some x) : prizesOk n ws pz = true ∧ 0 ≤ s ∧ s ≤ full ws.length ∧ x = gain ws pz s := by
  unfold gainOf at h
  split at h
  · rename_i hc
    rw [Bool.and_eq_true] at hc
    have h2 := hc.2
    unfold inB at h2
    simp at h2
    injection h with h
    exact ⟨hc.1, h2.1, h2.2, h.symm⟩
  · cases h
end Go.Proofs.YtoekaembfieigaaDoor
