/- The leaves: what the small functions of the program compute. -/
import Derived.Test.YtnbihejoglgdhaaRows
import Derived.Test.YtnbihejoglgdhaaNets
import Derived.ProofKit
import Derived.OpenShut
import Derived.Deep.QuietTactic
import Derived.BigQuiet
import Derived.Handy
set_option linter.unusedSimpArgs false
set_option linter.unusedVariables false
namespace Go.Proofs.Ytnbihejoglgdhaa
open Go.ChangeShapes Go.WideShapes Go.ChangeAt Go.RowKit

theorem below_drewN {B : Nat} {a w : World} (h : Below B a w) (n : Nat) : Below B a (w.drewN n) := ⟨h.os, h.tape, h.output, h.size, h.block⟩

theorem inSet_any (s i : Int) (h0 : 0 ≤ i) (h1 : i ≤ 60) (h2 : 0 ≤ s) (h3 : s ≤ 1048576) (w : World) :
    Calls Try.prog 26 #[.int .i64 s, .int .i64 i] w fun e w' => e = .returned (.bool (bit s i)) ∧ w = w' := by
  go_enter Try.func26, Try.ntmps26
  go_wp2
  go_ret
  exact ⟨ret_bool (bit_and' s i h0 h2 (by omega)), rfl⟩

theorem hasPlace_any (n p : Int) (v : Value) (w : World) :
    Calls Try.prog 44 #[.agg #[.int .i64 n, v], .int .i64 p] w fun e w' => e = .returned (.bool (hasPl n p)) ∧ Below w.heap.size w w' := by
  unfold hasPl
  go_enter Try.func44, Try.ntmps44
  go_wp2
  all_goals
    go_ret
    exact ⟨ret_bool (by first | (simp [*]; done) | (rw [Bool.eq_iff_iff]; simp only [Bool.and_eq_true, Bool.or_eq_true, Bool.not_eq_true', bne_iff_ne, beq_iff_eq, decide_eq_true_eq, decide_eq_false_iff_not, beq_eq_false_iff_ne, ne_eq, Bool.true_and, Bool.and_true, Bool.false_and, Bool.and_false, Bool.true_or, Bool.false_or, Bool.or_false, true_and, and_true, Bool.false_eq_true, false_iff, iff_false, true_iff, iff_true, iff_self]; done) | (rw [Bool.eq_iff_iff]; simp only [Bool.and_eq_true, Bool.or_eq_true, Bool.not_eq_true', bne_iff_ne, beq_iff_eq, decide_eq_true_eq, decide_eq_false_iff_not, beq_eq_false_iff_ne, ne_eq, Bool.true_and, Bool.and_true, Bool.false_and, Bool.and_false, Bool.true_or, Bool.false_or, Bool.or_false, true_and, and_true, Bool.false_eq_true, false_iff, iff_false, true_iff, iff_true]; omega)), by go_grown⟩

def shl1 (i : Int) : Int := 2 ^ i.toNat
theorem shl1_bd (i : Int) (h : i ≤ 5) : 1 ≤ shl1 i ∧ shl1 i ≤ 32 := by
  have := pow_bd i 5 (by omega)
  unfold shl1; omega
theorem wrap_shl1 (i : Int) (h : i ≤ 5) : wrap64 (2 ^ i.toNat) = shl1 i := by
  have := shl1_bd i h
  exact IntWalk.wrap64_in _ ⟨by unfold shl1 at this; omega, by unfold shl1 at this; omega⟩
def wayPl (x : Wy) : Int := ior (shl1 x.a) (shl1 x.b)
theorem wayPlaces_any (x : Wy) (h0 : 0 ≤ x.a) (h1 : x.a ≤ 5) (h2 : 0 ≤ x.b) (h3 : x.b ≤ 5) (w : World) :
    Calls Try.prog 30 #[.agg #[.int .i64 x.a, .int .i64 x.b, .int .i64 x.c]] w fun e w' => e = .returned (.int .i64 (wayPl x)) ∧ Below w.heap.size w w' := by
  go_enter Try.func30, Try.ntmps30
  go_wp2
  go_quiet (fail)
  go_wp2
  go_ret
  refine ⟨ret_int ?_, below_drewN (by go_grown) _⟩
  have ha := shl1_bd x.a h1
  have hb := shl1_bd x.b h3
  show bits .or .i64 (wrap64 (2 ^ x.a.toNat)) (wrap64 (2 ^ x.b.toNat)) = _
  rw [wrap_shl1 _ h1, wrap_shl1 _ h3]
  exact bits_or _ _ (by omega) (by omega) (by omega) (by omega)

theorem allWays_any (n : Int) (A : Option Addr) (len cap : Nat) (h0 : len ≤ 20) (w : World) :
    Calls Try.prog 38 #[.agg #[.int .i64 n, .slice A len cap]] w fun e w' => e = .returned (.int .i64 (full len)) ∧ Below w.heap.size w w' := by
  have hp := pow_bd (len : Int) 20 (by omega)
  rw [Int.toNat_natCast] at hp
  go_enter Try.func38, Try.ntmps38
  go_wp2
  go_ret
  exact ⟨ret_int rfl, by go_grown⟩

theorem wayOk_any (n : Int) (x : Wy) (v : Value) (w : World) :
    Calls Try.prog 39 #[.agg #[.int .i64 n, v], .agg #[.int .i64 x.a, .int .i64 x.b, .int .i64 x.c]] w fun e w' => e = .returned (.bool (wayOk n x)) ∧ Below w.heap.size w w' := by
  unfold wayOk
  cases hA : hasPl n x.a
  · have HA := Lib.hid hA
    clear hA
    go_enter Try.func39, Try.ntmps39
    go_wp2_with ((go_at_call 44; refine (hasPlace_any _ _ _ _).mono ?_; rintro e w1 ⟨rfl, hb1⟩; rw [HA.out]))
    go_ret
    exact ⟨rfl, bstep (by go_grown) (by go_size) hb1⟩
  · cases hB : hasPl n x.b
    · have HA := Lib.hid hA
      have HB := Lib.hid hB
      clear hA hB
      go_enter Try.func39, Try.ntmps39
      go_wp2_with fail
      refine (hasPlace_any _ _ _ _).mono ?_; rintro e w1 ⟨rfl, hb1⟩
      rw [HA.out]
      obtain ⟨hc1, hf1⟩ := bcell hb1
      have hz1_0 : w.heap.size < w1.heap.size := by have hq := hb1.size; (try simp at hq); omega
      have hz1_1 : w.heap.size + 1 < w1.heap.size := by have hq := hb1.size; (try simp at hq); omega
      have HK1 := Lib.hid hb1
      have HB1 := Lib.hid (bstep (B := w.heap.size) (W := w) (by (try have hp := HB0.out); go_grown) (by go_size) hb1); clear hb1
      go_wp2_with fail
      refine (hasPlace_any _ _ _ _).mono ?_; rintro e w2 ⟨rfl, hb2⟩
      rw [HB.out]
      obtain ⟨hc2, hf2⟩ := bcell hb2
      have hz2_0 : w.heap.size < w2.heap.size := by have hq := hb2.size; (try simp at hq); omega
      have hz2_1 : w.heap.size + 1 < w2.heap.size := by have hq := hb2.size; (try simp at hq); omega
      have HK2 := Lib.hid hb2
      have HB2 := Lib.hid (bstep (B := w.heap.size) (W := w) (by have hp := HB1.out; go_grown) (by go_size) hb2); clear hb2
      go_wp2_with fail
      go_ret
      exact ⟨rfl, HB2.out⟩
    · have HA := Lib.hid hA
      have HB := Lib.hid hB
      clear hA hB
      go_enter Try.func39, Try.ntmps39
      go_wp2_with fail
      refine (hasPlace_any _ _ _ _).mono ?_; rintro e w1 ⟨rfl, hb1⟩
      rw [HA.out]
      obtain ⟨hc1, hf1⟩ := bcell hb1
      have hz1_0 : w.heap.size < w1.heap.size := by have hq := hb1.size; (try simp at hq); omega
      have hz1_1 : w.heap.size + 1 < w1.heap.size := by have hq := hb1.size; (try simp at hq); omega
      have HK1 := Lib.hid hb1
      have HB1 := Lib.hid (bstep (B := w.heap.size) (W := w) (by (try have hp := HB0.out); go_grown) (by go_size) hb1); clear hb1
      go_wp2_with fail
      refine (hasPlace_any _ _ _ _).mono ?_; rintro e w2 ⟨rfl, hb2⟩
      rw [HB.out]
      obtain ⟨hc2, hf2⟩ := bcell hb2
      have hz2_0 : w.heap.size < w2.heap.size := by have hq := hb2.size; (try simp at hq); omega
      have hz2_1 : w.heap.size + 1 < w2.heap.size := by have hq := hb2.size; (try simp at hq); omega
      have HK2 := Lib.hid hb2
      have HB2 := Lib.hid (bstep (B := w.heap.size) (W := w) (by have hp := HB1.out; go_grown) (by go_size) hb2); clear hb2
      go_wp2_with fail
      all_goals
        go_ret
        refine ⟨ret_bool ?_, HB2.out⟩
        clear hc1 hc2 hf1 hf2
        first | (simp [*]; done) | (rw [Bool.eq_iff_iff]; simp only [Bool.and_eq_true, Bool.or_eq_true, Bool.not_eq_true', bne_iff_ne, beq_iff_eq, decide_eq_true_eq, decide_eq_false_iff_not, beq_eq_false_iff_ne, ne_eq, Bool.true_and, Bool.and_true, Bool.false_and, Bool.and_false, Bool.true_or, Bool.false_or, Bool.or_false, true_and, and_true, Bool.false_eq_true, false_iff, iff_false, true_iff, iff_true, iff_self]; done) | (rw [Bool.eq_iff_iff]; simp only [Bool.and_eq_true, Bool.or_eq_true, Bool.not_eq_true', bne_iff_ne, beq_iff_eq, decide_eq_true_eq, decide_eq_false_iff_not, beq_eq_false_iff_ne, ne_eq, Bool.true_and, Bool.and_true, Bool.false_and, Bool.and_false, Bool.true_or, Bool.false_or, Bool.or_false, true_and, and_true, Bool.false_eq_true, false_iff, iff_false, true_iff, iff_true]; omega)
end Go.Proofs.Ytnbihejoglgdhaa
