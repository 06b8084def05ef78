/- The library's greatest and least number of a row, and the place of a number in it. -/
import Derived.Test.YthadehgpeafniabNxO
import Derived.Test.YthadehgpeafniabUpA
set_option linter.unusedSimpArgs false
set_option linter.unusedVariables false
attribute [local go_sem ↓] Go.wp_at_zero Go.wp_at_succ
namespace Go.Proofs.Ythadehgpeafniab
open Go.ChangeShapes Go.WideShapes Go.ChangeAt Go.RowKit

theorem rmax {a b M : Int} (h : max a b = M) : (if a < b then b else a) = M ∧ (if b < a then a else b) = M ∧ (if a ≤ b then b else a) = M ∧ (if b ≤ a then a else b) = M := by
  subst h
  refine ⟨?_, ?_, ?_, ?_⟩ <;> (split <;> omega)
theorem rmin {a b M : Int} (h : min a b = M) : (if a < b then a else b) = M ∧ (if b < a then b else a) = M ∧ (if a ≤ b then a else b) = M ∧ (if b ≤ a then b else a) = M := by
  subst h
  refine ⟨?_, ?_, ?_, ?_⟩ <;> (split <;> omega)
/-- the greatest of the numbers 0 to k -/
def mxR (f : Nat → Int) : Nat → Int
  | 0 => f 0
  | k + 1 => max (mxR f k) (f (k + 1))
def mnR (f : Nat → Int) : Nat → Int
  | 0 => f 0
  | k + 1 => min (mnR f k) (f (k + 1))
theorem mnR_ok (f : Nat → Int) : ∀ k : Nat, (∀ j, j ≤ k → mnR f k ≤ f j) ∧ ∃ j, j ≤ k ∧ mnR f k = f j
  | 0 => ⟨fun j hj => by rw [show j = 0 by omega, mnR]; exact Int.le_refl _, 0, Nat.le_refl _, rfl⟩
  | k + 1 => by
    obtain ⟨h1, j, hj, h2⟩ := mnR_ok f k
    rw [mnR]
    refine ⟨fun i hi => ?_, ?_⟩
    · by_cases e : i = k + 1
      · subst e; omega
      · have := h1 i (by omega); omega
    · by_cases e : mnR f k ≤ f (k + 1)
      · exact ⟨j, by omega, by omega⟩
      · exact ⟨k + 1, Nat.le_refl _, by omega⟩
theorem mxR_far (F : Nat → Nat → Int) (a : Nat) (h : F a a = 0) : ∀ k : Nat, fhTo F a (k + 1) = max 0 (mxR (F a) k)
  | 0 => by rw [fhTo, fhTo, mxR]
  | k + 1 => by rw [fhTo, mxR_far F a h k, mxR]; omega
theorem mxR_ge (f : Nat → Int) : ∀ k j : Nat, j ≤ k → f j ≤ mxR f k
  | 0, j, hj => by rw [show j = 0 by omega, mxR]; exact Int.le_refl _
  | k + 1, j, hj => by
    rw [mxR]
    by_cases e : j = k + 1
    · subst e; omega
    · have := mxR_ge f k j (by omega); omega
theorem mxR_fh {F : Nat → Nat → Int} {a m : Nat} (ha : a < m) (h : F a a = 0) : mxR (F a) (m - 1) = fhTo F a m := by
  obtain ⟨k, rfl⟩ : ∃ k, m = k + 1 := ⟨m - 1, by omega⟩
  rw [mxR_far F a h k, Nat.add_sub_cancel]
  have := mxR_ge (F a) k a (by omega)
  omega
theorem mnR_ce {f : Nat → Int} {m : Nat} (hm : 0 < m) : ∃ c : Nat, ceTo f m = c ∧ c < m ∧ mnR f (m - 1) = f c ∧ ∀ j, j < c → f j ≠ mnR f (m - 1) := by
  obtain ⟨h0, h1, h2, h3⟩ := ceTo_ok f m
  have h4 := ceTo_lt (f := f) hm
  obtain ⟨c, hc⟩ := Int.eq_ofNat_of_zero_le h0
  rw [hc] at h1 h2 h3 h4
  rw [Int.toNat_natCast] at h2 h3
  obtain ⟨g1, j, g2, g3⟩ := mnR_ok f (m - 1)
  have e1 := g1 c (by omega)
  have e2 := h2 j (by omega)
  refine ⟨c, hc, by omega, by omega, fun j hj => ?_⟩
  have := h3 j hj
  omega
set_option maxHeartbeats 1000000 in
theorem rowMax_any (r m c : Nat) (f : Nat → Int) (w : World) (h : ∀ b : Nat, b < m → w.cell? ⟨r, b, none⟩ = some (.int .i64 (f b))) (hm0 : 0 < m) (hm6 : m ≤ 6) :
    Calls Try.prog 33 #[.slice (some ⟨r, 0, none⟩) m c] w fun e w' => e = .returned (.int .i64 (mxR f (m - 1))) ∧ w = w' := by
  have H := Lib.hid h
  have c0 := h 0 hm0
  have nl : ¬ (m : Int) < 1 := by omega
  have H0 : Hid (mxR f (1 - 1) = f 0) := rfl
  clear h
  go_enter Try.func33, Try.ntmps33
  go_wp2_with fail
  go_loopw [3, 4] (fun x i wr => ∃ k : Nat, 1 ≤ k ∧ k ≤ m ∧ i = .int .i64 k ∧ x = .int .i64 (mxR f (k - 1)) ∧ w = wr) (fun _ i _ => m - (intOf i).toNat)
  case atStart => exact ⟨1, Nat.le_refl _, hm0, rfl, by rw [H0.out], rfl⟩
  case round =>
    clear c0 H0
    obtain ⟨k, hk1, hk, rfl, rfl, rfl⟩ := hrel
    have hk0 : (0 : Int) ≤ (k : Int) := by omega
    by_cases hlk : k < m
    · have c1 := H.out k hlk
      obtain ⟨q, rfl⟩ : ∃ q, k = q + 1 := ⟨k - 1, by omega⟩
      have HS : Hid (mxR f (q + 1 + 1 - 1) = max (mxR f (q + 1 - 1)) (f (q + 1))) := rfl
      have hk2 : ((q + 1 : Nat) : Int) < (m : Int) := by omega
      obtain ⟨x, hx⟩ : ∃ x, f (q + 1) = x := ⟨_, rfl⟩
      obtain ⟨g, hg⟩ : ∃ g, mxR f (q + 1 - 1) = g := ⟨_, rfl⟩
      rw [hg] at HS ⊢
      rw [hx] at HS c1
      obtain ⟨G, hG⟩ : ∃ G, max g x = G := ⟨_, rfl⟩
      rw [hG] at HS
      obtain ⟨m1, m2, m3, m4⟩ := rmax hG
      have m5 : (if x > g then x else g) = G := by omega
      clear hx hg
      generalize hQ : q + 1 = Q at *
      go_wp2_with fail
      go_roundw
      case rel => exact ⟨Q + 1, by omega, by omega, by go_num, by rw [HS.out] <;> (first | rfl | omega), by first | rfl | trivial⟩
      case measure => (simp [intOf]) <;> omega
    · obtain rfl : k = m := by omega
      go_wp2_with fail
      go_ret
      exact ⟨rfl, rfl⟩
end Go.Proofs.Ythadehgpeafniab
