/- The library's greatest and least number of a row, and the place of a number in it. -/
import Derived.Test.YthadehgpeafniaaNxO
import Derived.Test.YthadehgpeafniaaUpA
set_option linter.unusedSimpArgs false
set_option linter.unusedVariables false
attribute [local go_sem ↓] Go.wp_at_zero Go.wp_at_succ
namespace Go.Proofs.Ythadehgpeafniaa
open Go.ChangeShapes Go.WideShapes Go.ChangeAt Go.RowKit

theorem rmax {a b M : Int} (h : max a b = M) : (if a < b then b else a) = M ∧ (if b < a then a else b) = M ∧ (if a ≤ b then b else a) = M ∧ (if b ≤ a then a else b) = M := by
  subst h
  refine ⟨?_, ?_, ?_, ?_⟩ <;> (split <;> omega)
theorem rmin {a b M : Int} (h : min a b = M) : (if a < b then a else b) = M ∧ (if b < a then b else a) = M ∧ (if a ≤ b then a else b) = M ∧ (if b ≤ a then b else a) = M := by
  subst h
  refine ⟨?_, ?_, ?_, ?_⟩ <;> (split <;> omega)
/-- the greatest of the numbers 0 to k -/
def mxR (f : Nat → Int) : Nat → Int
  | 0 => f 0
  | k + 1 => max (mxR f k) (f (k + 1))
def mnR (f : Nat → Int) : Nat → Int
  | 0 => f 0
  | k + 1 => min (mnR f k) (f (k + 1))
theorem mnR_ok (f : Nat → Int) : ∀ k : Nat, (∀ j, j ≤ k → mnR f k ≤ f j) ∧ ∃ j, j ≤ k ∧ mnR f k = f j
  | 0 => ⟨fun j hj => by rw [show j = 0 by omega, mnR]; exact Int.le_refl _, 0, Nat.le_refl _, rfl⟩
  | k + 1 => by
    obtain ⟨h1, j, hj, h2⟩ := mnR_ok f k
    rw [mnR]
    refine ⟨fun i hi => ?_, ?_⟩
    · by_cases e : i = k + 1
      · subst e; omega
      · have := h1 i (by omega); omega
    · by_cases e : mnR f k ≤ f (k + 1)
      · exact ⟨j, by omega, by omega⟩
      · exact ⟨k + 1, Nat.le_refl _, by omega⟩
theorem mxR_far (F : Nat → Nat → Int) (a : Nat) (h : F a a = 0) : ∀ k : Nat, fhTo F a (k + 1) = max 0 (mxR (F a) k)
  | 0 => by rw [fhTo, fhTo, mxR]
  | k + 1 => by rw [fhTo, mxR_far F a h k, mxR]; omega
theorem mxR_ge (f : Nat → Int) : ∀ k j : Nat, j ≤ k → f j ≤ mxR f k
  | 0, j, hj => by rw [show j = 0 by omega, mxR]; exact Int.le_refl _
  | k + 1, j, hj => by
    rw [mxR]
    by_cases e : j = k + 1
    · subst e; omega
    · have := mxR_ge f k j (by omega); omega
theorem mxR_fh {F : Nat → Nat → Int} {a m : Nat} (ha : a < m) (h : F a a = 0) : mxR (F a) (m - 1) = fhTo F a m := by
  obtain ⟨k, rfl⟩ : ∃ k, m = k + 1 := ⟨m - 1, by omega⟩
  rw [mxR_far F a h k, Nat.add_sub_cancel]
  have := mxR_ge (F a) k a (by omega)
  omega
theorem mnR_ce {f : Nat → Int} {m : Nat} (hm : 0 < m) : ∃ c : Nat, ceTo f m = c ∧ c < m ∧ mnR f (m - 1) = f c ∧ ∀ j, j < c → f j ≠ mnR f (m - 1) := by
  obtain ⟨h0, h1, h2, h3⟩ := ceTo_ok f m
  have h4 := ceTo_lt (f := f) hm
  obtain ⟨c, hc⟩ := Int.eq_ofNat_of_zero_le h0
  rw [hc] at h1 h2 h3 h4
  rw [Int.toNat_natCast] at h2 h3
  obtain ⟨g1, j, g2, g3⟩ := mnR_ok f (m - 1)
  have e1 := g1 c (by omega)
  have e2 := h2 j (by omega)
  refine ⟨c, hc, by omega, by omega, fun j hj => ?_⟩
  have := h3 j hj
  omega
end Go.Proofs.Ythadehgpeafniaa
