/- Pruned of the model. -/
import Derived.Test.YtbbomajgmgmigaaDoorDP
set_option linter.unusedSimpArgs false
set_option linter.unusedVariables false
namespace Go.Proofs.YtbbomajgmgmigaaDoor
open Go.ChangeShapes Go.WideShapes Go.ChangeAt Go.RowKit

theorem sub_bit_all : ∀ (u : Fin 512) (k : Fin 9), u.val.testBit k.val = true → u.val &&& (u.val ^^^ 2 ^ k.val) = u.val - 2 ^ k.val := by decide +kernel
/-- one member taken out -/
theorem idiff_one {u : Int} {k : Nat} (h0 : 0 ≤ u) (h1 : u < 512) (hk : k < 9) (hb : bit u k = true) : idiff u (2 ^ k) = u - 2 ^ k ∧ (2 : Int) ^ k ≤ u := by
  obtain ⟨x, rfl⟩ := Int.eq_ofNat_of_zero_le h0
  have hb' : x.testBit k = true := by simpa [bit] using hb
  have h := sub_bit_all ⟨x, by omega⟩ ⟨k, hk⟩ hb'
  simp only at h
  have hge : 2 ^ k ≤ x := Nat.ge_two_pow_of_testBit hb'
  have e : ((2 : Int) ^ k) = ((2 ^ k : Nat) : Int) := by simp
  unfold idiff
  rw [e, Int.toNat_natCast, Int.toNat_natCast, h]
  omega
theorem idiff_ior (t m v : Int) (ht : 0 ≤ t) : idiff t (ior m v) = idiff (idiff t m) v := by
  have h1 := idiff_bd t m ht
  refine set_ext (idiff_bd _ _ ht).1 (idiff_bd _ _ h1.1).1 fun q hq => ?_
  rw [bit_idiff, bit_idiff, bit_idiff, bit_ior]
  cases bit t q <;> cases bit m q <;> cases bit v q <;> rfl
theorem idiff_none (t : Int) (ht : 0 ≤ t) : idiff t 0 = t := by
  refine set_ext (idiff_bd _ _ ht).1 ht fun q hq => ?_
  rw [bit_idiff, bit_zero_]
  cases bit t q <;> rfl
theorem iand_comm (a b : Int) : iand a b = iand b a := by unfold iand; rw [Nat.and_comm]
theorem atTo_at (ws : List Wy) (t p : Int) (k : Nat) (ht : 0 ≤ t) : bit (idiff t (atTo ws t p k)) k = bit t k := by
  have h := atTo_bd ws t p k
  rw [bit_idiff, bit_big h.1 h.2 (Int.le_refl _)]
  simp
theorem ior_ne0 (a : Int) (k : Nat) : ior a (2 ^ k) ≠ 0 := by
  intro h
  have h1 : bit (ior a (2 ^ k)) k = true := by rw [bit_ior, bit_shlN k k (by omega)]; simp
  rw [h, bit_zero_] at h1; cases h1


end Go.Proofs.YtbbomajgmgmigaaDoor
