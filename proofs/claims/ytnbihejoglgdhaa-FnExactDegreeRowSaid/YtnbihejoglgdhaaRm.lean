/- A net's ways are written over. -/
import Derived.Test.YtnbihejoglgdhaaRo
import Derived.Test.YtnbihejoglgdhaaLO
import Derived.Deep.DrawnRows
set_option linter.unusedSimpArgs false
set_option linter.unusedVariables false
attribute [local go_sem ↓] Go.wp_at_zero Go.wp_at_succ
namespace Go.Proofs.Ytnbihejoglgdhaa
open Go.ChangeShapes Go.WideShapes Go.ChangeAt Go.RowKit

/-! ### a net's ways are written over -/
theorem Row3.set0 {w : World} {b : Nat} {t : TypeId} {ws : List Wy} (h : Row3 w b t ws 0) (j : Nat) (u : Value) : Row3 (w.setCell ⟨b, j, none⟩ u) b t ws 0 := by
  obtain ⟨cs, h1, h2, _⟩ := h.blk
  exact ⟨cs.setIfInBounds j u, by simp [World.setCell, Array.getElem?_modify, h1], by simpa using h2, fun i x hi => by omega⟩
theorem Row3.zero {w : World} {b : Nat} {t : TypeId} {ws : List Wy} {k : Nat} (h : Row3 w b t ws k) : Row3 w b t ws 0 := by
  obtain ⟨cs, h1, h2, _⟩ := h.blk
  exact ⟨cs, h1, h2, fun i x hi => by omega⟩
set_option maxHeartbeats 1000000 in
theorem markWayS_any (b cap : Nat) (ws : List Wy) (q : Int) (w : World) (h : Row3 w b 48 ws 0) (hm : ws.length ≤ 1048576) (hq0 : 0 ≤ q) (hq1 : q ≤ 1048576) :
    Calls Try.prog 34 #[.slice (some ⟨b, 0, none⟩) ws.length cap, .int .i64 q] w fun e w' => e = .returned (.int .i64 (q + ws.length * 3)) ∧ Only b (b + 1) w w' := by
  have HF := Lib.hid h
  clear h
  go_enter Try.func34, Try.ntmps34
  go_wp2_with fail
  go_loopw [1, 5] (fun u i wr => ∃ k : Nat, k ≤ ws.length ∧ u = .int .i64 (q + k * 3) ∧ i = .int .i64 k ∧ Only b (b + 1) w wr ∧ Row3 wr b 48 ws 0) (fun _ i _ => ws.length - (intOf i).toNat)
  case atStart => exact ⟨0, Nat.zero_le _, by simp, rfl, Only.refl _ _ _, HF.out⟩
  case round =>
    obtain ⟨k, hk, rfl, rfl, ho, hf⟩ := hrel
    have HO := Lib.hid ho
    have HG := Lib.hid hf
    clear ho hf
    by_cases hlt : k < ws.length
    · have hk0 : (0 : Int) ≤ (k : Int) := by omega
      have hk1 : (k : Int) < (ws.length : Int) := by omega
      obtain ⟨⟨u0, d0⟩, e0⟩ := HG.out.cell (k * 3) (by omega)
      obtain ⟨⟨u1, d1⟩, e1⟩ := (HG.out.set0 (k * 3) (.int .i64 (q + k * 3))).cell (k * 3 + 1) (by omega)
      obtain ⟨⟨u2, d2⟩, e2⟩ := ((HG.out.set0 (k * 3) (.int .i64 (q + k * 3))).set0 (k * 3 + 1) (.int .i64 (q + k * 3 + 1))).cell (k * 3 + 2) (by omega)
      go_wp2_with fail
      go_roundw
      case rel => exact ⟨k + 1, by omega, by go_num, by go_num, ((HO.out.setCell ⟨Nat.le_refl _, Nat.lt_succ_self _⟩ _).setCell ⟨Nat.le_refl _, Nat.lt_succ_self _⟩ _).setCell ⟨Nat.le_refl _, Nat.lt_succ_self _⟩ _, ((HG.out.set0 _ _).set0 _ _).set0 _ _⟩
      case measure => simp [intOf]; omega
    · have hkm : k = ws.length := by omega
      subst hkm
      go_wp2_with fail
      go_ret
      exact ⟨rfl, HO.out⟩
set_option maxHeartbeats 1000000 in
theorem markNet_any (n : Int) (b cap : Nat) (ws : List Wy) (q : Int) (w : World) (h : Row3 w b 48 ws 0) (hm : ws.length ≤ 1048576) (hq0 : 0 ≤ q) (hq1 : q ≤ 1048576) :
    Calls Try.prog 20 #[.agg #[.int .i64 n, .slice (some ⟨b, 0, none⟩) ws.length cap], .int .i64 q] w fun e w' => e = .returned (.int .i64 (q + ws.length * 3)) ∧ Only b (b + 1) w w' := by
  have HF := Lib.hid h
  have hbl := h.lt
  clear h
  go_enter Try.func20, Try.ntmps20
  go_wp2_with fail
  refine (markWayS_any b cap ws q _ (HF.out.below ((Below.refl _ _).alloc (Nat.le_refl _) _)) hm hq0 hq1).mono ?_; rintro e w1 ⟨rfl, h1⟩
  go_wp2_with fail
  go_ret
  exact ⟨rfl, (Only.of ((Below.refl _ _).alloc (Nat.le_refl _) _)).trans h1⟩
end Go.Proofs.Ytnbihejoglgdhaa
