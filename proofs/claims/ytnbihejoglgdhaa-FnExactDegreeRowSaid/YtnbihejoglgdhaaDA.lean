/- The least place of a set, how many members it has, and whether ways join places: of the program and of its model. -/
import Derived.Test.YtnbihejoglgdhaaWS
import Derived.Test.YtnbihejoglgdhaaSets
set_option linter.unusedSimpArgs false
set_option linter.unusedVariables false
namespace Go.Proofs.Ytnbihejoglgdhaa
open Go.ChangeShapes Go.WideShapes Go.ChangeAt Go.RowKit

theorem u64_and_nat (a b : Nat) (ha : a < 18446744073709551616) (hb : b < 18446744073709551616) : bits .and .u64 (a : Int) (b : Int) = ((a &&& b : Nat) : Int) := by
  have hx : a &&& b < 2 ^ 64 := Nat.and_lt_two_pow _ (by omega)
  have h1 : (BitVec.ofInt 64 (a : Int)).toNat = a := by rw [BitVec.ofInt_natCast, BitVec.toNat_ofNat]; exact Nat.mod_eq_of_lt (by omega)
  have h2 : (BitVec.ofInt 64 (b : Int)).toNat = b := by rw [BitVec.ofInt_natCast, BitVec.toNat_ofNat]; exact Nat.mod_eq_of_lt (by omega)
  show IntKind.u64.wrap ((BitVec.ofInt 64 (a : Int) &&& BitVec.ofInt 64 (b : Int)).toNat : Int) = _
  rw [BitVec.toNat_and, h1, h2, IntKind.wrap_u64]
  omega
theorem tz_key (x a : Nat) (hx : x < 18446744073709551616) (hx0 : x ≠ 0) (hlow : x &&& (18446744073709551616 - x) = a) :
    IntKind.u64.wrap (bits BinOp.and IntKind.u64 (x : Int) (IntKind.u64.wrap (-(x : Int))) * 285870213051353865) / 288230376151711744 = ((a * 285870213051353865 % 18446744073709551616 / 288230376151711744 : Nat) : Int) := by
  have e1 : IntKind.u64.wrap (-(x : Int)) = ((18446744073709551616 - x : Nat) : Int) := by rw [IntKind.wrap_u64]; omega
  rw [e1, u64_and_nat x _ hx (by omega), hlow, IntKind.wrap_u64]
  omega


def plOk (n e : Int) : Bool := decide (0 ≤ e) && decide (e < 2 ^ n.toNat)
theorem plOk_t {n e : Int} (h : plOk n e = true) : 0 ≤ e ∧ e < 2 ^ n.toNat := by unfold plOk at h; simpa using h
noncomputable def joinsEnds (n : Int) (ws : List Wy) (s e : Int) : Bool := setOk n ws s && plOk n e && joins ws s e

theorem plOk_in (n e : Int) : plOk n e = inB e 0 (2 ^ n.toNat - 1) := by
  unfold plOk inB
  rw [Bool.eq_iff_iff]; simp; omega
end Go.Proofs.Ytnbihejoglgdhaa
