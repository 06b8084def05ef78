/- The program's dearest ways and nearest ends: DearestOf, waysUpTo, nearestOf, NearestRow, and the greatest, the least and the place of a number in a row. -/
import Derived.Test.YthadehgpeafniabNxO
import Derived.Test.YthadehgpeafniabME
import Derived.Test.YthadehgpeafniabMJ
import Derived.Test.YthadehgpeafniabMG
import Derived.Test.YthadehgpeafniabTc
import Derived.Test.YthadehgpeafniabUpA
set_option linter.unusedSimpArgs false
set_option linter.unusedVariables false
attribute [local go_sem ↓] Go.wp_at_zero Go.wp_at_succ
namespace Go.Proofs.Ythadehgpeafniab
open Go.ChangeShapes Go.WideShapes Go.ChangeAt Go.RowKit

theorem nxmax {a b M : Int} (h : max a b = M) : (if a < b then b else a) = M ∧ (if b < a then a else b) = M ∧ (if a ≤ b then b else a) = M ∧ (if b ≤ a then a else b) = M := by
  subst h
  refine ⟨?_, ?_, ?_, ?_⟩ <;> (split <;> omega)
theorem nxmin {a b M : Int} (h : min a b = M) : (if a < b then a else b) = M ∧ (if b < a then b else a) = M ∧ (if a ≤ b then a else b) = M ∧ (if b ≤ a then b else a) = M := by
  subst h
  refine ⟨?_, ?_, ?_, ?_⟩ <;> (split <;> omega)
/-- as the program takes the nearest end -/
theorem nxNr_yes {F : Nat → Nat → Int} {e : Int} {a k : Nat} (h : bit e (k : Nat) = true) (h0 : 0 ≤ F a k) (h1 : nrTo F e a k < 0 ∨ F a k < F a (nrTo F e a k).toNat) : nrTo F e a (k + 1) = k := by
  rw [nrTo, if_pos]
  rw [h, decide_eq_true h0]
  rcases h1 with h1 | h1
  · rw [decide_eq_true h1]; rfl
  · rw [decide_eq_true h1]; simp
theorem nxNr_out {F : Nat → Nat → Int} {e : Int} {a k : Nat} (h : bit e (k : Nat) = false) : nrTo F e a (k + 1) = nrTo F e a k := by
  rw [nrTo, if_neg]; rw [h]; simp
theorem nxNr_far {F : Nat → Nat → Int} {e : Int} {a k : Nat} (h : F a k < 0) : nrTo F e a (k + 1) = nrTo F e a k := by
  rw [nrTo, if_neg]; rw [decide_eq_false (p := 0 ≤ F a k) (by omega)]; simp
theorem nxNr_worse {F : Nat → Nat → Int} {e : Int} {a k : Nat} (h0 : ¬ nrTo F e a k < 0) (h1 : ¬ F a k < F a (nrTo F e a k).toNat) : nrTo F e a (k + 1) = nrTo F e a k := by
  rw [nrTo, if_neg]; rw [decide_eq_false h0, decide_eq_false h1]; simp
set_option maxRecDepth 100000 in
set_option maxHeartbeats 4000000 in
theorem nearestOf_any (m r c : Nat) (F : Nat → Nat → Int) (a : Nat) (e : Int) (w : World) (h : ∀ b : Nat, b < m → w.cell? ⟨r, b, none⟩ = some (.int .i64 (F a b))) (hm6 : m ≤ 6) (e0 : 0 ≤ e) (e1 : e < 64) :
    Calls Try.prog 40 #[.slice (some ⟨r, 0, none⟩) m c, .int .i64 e] w fun en w' => en = .returned (.int .i64 (nrTo F e a m)) ∧ w = w' := by
  have H := Lib.hid h
  clear h
  go_enter Try.func40, Try.ntmps40
  go_wp2_with fail
  go_loopw [5, 10] (fun x i wr => ∃ k : Nat, k ≤ m ∧ i = .int .i64 k ∧ x = .int .i64 (nrTo F e a k) ∧ w = wr) (fun _ i _ => m - (intOf i).toNat)
  case atStart => exact ⟨0, Nat.zero_le _, rfl, rfl, rfl⟩
  case round =>
    obtain ⟨k, hk, rfl, rfl, rfl⟩ := hrel
    have k0 : (0 : Int) ≤ (k : Int) := by omega
    by_cases hlk : k < m
    · have k1 : (k : Int) < (m : Int) := by omega
      have c0 := H.out k hlk
      have hok := nrTo_ok F e a k
      obtain ⟨D, hD⟩ : ∃ D, F a k = D := ⟨_, rfl⟩
      have HD := Lib.hid hD
      obtain ⟨X, hX⟩ : ∃ X, nrTo F e a k = X := ⟨_, rfl⟩
      have HX := Lib.hid hX
      rw [hX] at hok ⊢
      rw [hD] at c0
      have xlo := hok.lo
      have xhi := hok.hi
      clear hD hX hok
      cases hIa : bit e (k : Int)
      · have HIa := Lib.hid hIa
        have HS : Hid (nrTo F e a (k + 1) = X) := by show _ = _; rw [nxNr_out hIa, HX.out]
        clear hIa
        go_wp2_with fail
        refine (inSet_any e k k0 (by omega) e0 (by omega) _).mono ?_; rintro en w1 ⟨rfl, rfl⟩; rw [HIa.out]
        go_wp2_with fail
        go_roundw
        case rel => exact ⟨k + 1, by omega, by go_num, by rw [HS.out], by first | rfl | trivial⟩
        case measure => (simp [intOf]) <;> omega
      · have HIa := Lib.hid hIa
        by_cases hD0 : D < 0
        · have HS : Hid (nrTo F e a (k + 1) = X) := by show _ = _; rw [nxNr_far (by rw [HD.out]; exact hD0), HX.out]
          clear hIa
          go_wp2_with fail
          refine (inSet_any e k k0 (by omega) e0 (by omega) _).mono ?_; rintro en w1 ⟨rfl, rfl⟩; rw [HIa.out]
          go_wp2_with fail
          go_roundw
          case rel => exact ⟨k + 1, by omega, by go_num, by rw [HS.out], by first | rfl | trivial⟩
          case measure => (simp [intOf]) <;> omega
        · by_cases hX0 : X < 0
          · have HS : Hid (nrTo F e a (k + 1) = k) := nxNr_yes hIa (by rw [HD.out]; omega) (Or.inl (by rw [HX.out]; exact hX0))
            clear hIa
            go_wp2_with fail
            refine (inSet_any e k k0 (by omega) e0 (by omega) _).mono ?_; rintro en w1 ⟨rfl, rfl⟩; rw [HIa.out]
            go_wp2_with fail
            go_roundw
            case rel => exact ⟨k + 1, by omega, by go_num, by rw [HS.out], by first | rfl | trivial⟩
            case measure => (simp [intOf]) <;> omega
          · obtain ⟨x, hx⟩ : ∃ x : Nat, X = x := ⟨X.toNat, by omega⟩
            subst hx
            have xm : x < m := by omega
            have x0 : (0 : Int) ≤ (x : Int) := by omega
            have xm1 : (x : Int) < (m : Int) := by omega
            have cx := H.out x xm
            obtain ⟨E, hE⟩ : ∃ E, F a x = E := ⟨_, rfl⟩
            have HE := Lib.hid hE
            rw [hE] at cx
            clear hE
            by_cases hDE : D < E
            · have HS : Hid (nrTo F e a (k + 1) = k) := nxNr_yes hIa (by rw [HD.out]; omega) (Or.inr (by rw [HX.out, Int.toNat_natCast, HD.out, HE.out]; exact hDE))
              clear hIa
              go_wp2_with fail
              refine (inSet_any e k k0 (by omega) e0 (by omega) _).mono ?_; rintro en w1 ⟨rfl, rfl⟩; rw [HIa.out]
              go_wp2_with fail
              go_roundw
              case rel => exact ⟨k + 1, by omega, by go_num, by rw [HS.out], by first | rfl | trivial⟩
              case measure => (simp [intOf]) <;> omega
            · have HS : Hid (nrTo F e a (k + 1) = x) := by show _ = _; rw [nxNr_worse (by rw [HX.out]; exact hX0) (by rw [HX.out, Int.toNat_natCast, HD.out, HE.out]; exact hDE), HX.out]
              clear hIa
              go_wp2_with fail
              refine (inSet_any e k k0 (by omega) e0 (by omega) _).mono ?_; rintro en w1 ⟨rfl, rfl⟩; rw [HIa.out]
              go_wp2_with fail
              go_roundw
              case rel => exact ⟨k + 1, by omega, by go_num, by rw [HS.out], by first | rfl | trivial⟩
              case measure => (simp [intOf]) <;> omega
    · obtain rfl : k = m := by omega
      go_wp2_with fail
      go_ret
      exact ⟨rfl, rfl⟩
end Go.Proofs.Ythadehgpeafniab
