/- SpanTree and SpanCost of the model. -/
import Derived.Test.YthadehgpeafniabDoorSQ
import Derived.Test.YthadehgpeafniabDoorST
set_option linter.unusedSimpArgs false
set_option linter.unusedVariables false
namespace Go.Proofs.YthadehgpeafniabDoor
open Go.ChangeShapes Go.WideShapes Go.ChangeAt Go.RowKit

set_option maxHeartbeats 2000000 in
theorem sSpanTree_any (n : Int) (A : Option Addr) (cap : Nat) (ws : List Wy) (w : World) (hr : RW w w.heap.size A ws) (hm : ws.length ≤ 1073741824) :
    Calls Tryd.prog 10 #[.agg #[.int .i64 n, .slice A ws.length cap]] w fun e w' => e = .returned (.int .i64 (spanTreeOf n ws)) ∧ Below w.heap.size w w' := by
  have HR := Lib.hid hr
  clear hr
  unfold spanTreeOf
  cases hn : netOk n ws
  · have HN := Lib.hid hn
    rw [if_neg (by simp)]
    clear hn
    go_enter Tryd.func10, Tryd.ntmps10
    go_wp2_with fail
    refine (sNetOk_any _ _ _ _ _ (HR.out.later (by go_grown)) hm).mono ?_; rintro e w1 ⟨rfl, hb1⟩
    rw [HN.out]
    obtain ⟨hc1, hf1⟩ := bcell hb1
    have hz1_0 : w.heap.size < w1.heap.size := by have hq := hb1.size; (try simp at hq); omega
    have HK1 := Lib.hid hb1
    have HB1 := Lib.hid (bstep (B := w.heap.size) (W := w) (by (try have hp := HB0.out); go_grown) (by go_size) hb1); clear hb1
    go_wp2_with fail
    go_ret
    exact ⟨rfl, HB1.out⟩
  · have HN := Lib.hid hn
    have HS := Lib.hid (netOk_t hn)
    have hl9 := (netOk_t hn).len
    have hn2 := (netOk_t hn).lo
    have hn6 := (netOk_t hn).hi
    have hfb := full_bd ws.length hl9
    have hpp := pow_bd n 6 (by omega)
    have hal := allPl_bd (netOk_t hn)
    have hal0 : 0 ≤ allPl n := by omega
    have hal1 : allPl n ≤ 1048576 := by omega
    have HAL := Lib.hid hal.2.2
    have HW1 : Hid (IntKind.i64.wrap (2 ^ n.toNat) = 2 ^ n.toNat) := IntWalk.i64_in _ ⟨by omega, by omega⟩
    have HW2 : Hid (wrap64 (2 ^ n.toNat) = 2 ^ n.toNat) := IntWalk.wrap64_in _ ⟨by omega, by omega⟩
    have HW3 : Hid (IntKind.i64.wrap (2 ^ n.toNat - 1) = allPl n) := IntWalk.i64_in _ ⟨by omega, by omega⟩
    have HW4 : Hid (wrap64 (2 ^ n.toNat - 1) = allPl n) := IntWalk.wrap64_in _ ⟨by omega, by omega⟩
    have hsb := span_bd ws (allPl n)
    have hs0 := hsb.1
    have hs1 : span ws (allPl n) ≤ 1048576 := by omega
    rw [if_pos rfl]
    obtain ⟨R, hR⟩ : ∃ R : Int, (if joins ws (span ws (allPl n)) (allPl n) = true then span ws (allPl n) else -1) = R := ⟨_, rfl⟩
    rw [hR]
    have HRES := Lib.hid hR
    clear hn hal hfb hR hsb hpp
    go_enter Tryd.func10, Tryd.ntmps10
    go_wp2_with fail
    refine (sNetOk_any _ _ _ _ _ (HR.out.later (by go_grown)) hm).mono ?_; rintro e w1 ⟨rfl, hb1⟩
    rw [HN.out]
    obtain ⟨hc1, hf1⟩ := bcell hb1
    have hz1_0 : w.heap.size < w1.heap.size := by have hq := hb1.size; (try simp at hq); omega
    have HK1 := Lib.hid hb1
    have HB1 := Lib.hid (bstep (B := w.heap.size) (W := w) (by (try have hp := HB0.out); go_grown) (by go_size) hb1); clear hb1
    have k1 : w1.cell? ⟨w.heap.size, 0, none⟩ = some (.int .i64 n) ∧ w1.cell? ⟨w.heap.size, 1, none⟩ = some (.slice A ws.length cap) := ⟨by go_simp, by go_simp⟩
    have r1 := Lib.hid (HR.out.later HB1.out)
    clear hc1 hf1
    have hw1 := HW1.out
    have hw2 := HW2.out
    have hw3 := HW3.out
    have hw4 := HW4.out
    go_wp2_with fail
    go_region_held3 (fun w' => w'.cell? ⟨w.heap.size, 0, none⟩ = some (.int .i64 n) ∧ w'.cell? ⟨w.heap.size, 1, none⟩ = some (.slice A ws.length cap))
      (first | exact k3 | exact k1)
      (first
        | (go_at_call 19; refine (l2Span_is n (allPl n) A cap ws _ (r1.out.drewNR _) HS.out hal0 hal1).mono ?_; rintro e3 w3 ⟨rfl, hb3⟩; have g3 : Below w1.heap.size w1 w3 := und hb3; have k3 := keep2 g3 k1 hz1_0; have z3 := Nat.lt_of_lt_of_le hz1_0 g3.size; have r3 := Lib.hid (r1.out.later g3)))
    have HB3 := Lib.hid (bstep (B := w.heap.size) (W := w) HB1.out (Nat.le_of_lt hz1_0) g3)
    clear g3 hb3 hw1 hw2 hw3 hw4
    cases hj : joins ws (span ws (allPl n)) (allPl n)
    · have HJ := Lib.hid hj
      have HX : Hid (-1 = R) := by show -1 = R; rw [← HRES.out, hj]; simp
      have hw1 := HW1.out
      have hw2 := HW2.out
      have hw3 := HW3.out
      have hw4 := HW4.out
      clear hj
      go_wp2_with fail
      go_region_held3 (fun w' => w'.cell? ⟨w.heap.size, 0, none⟩ = some (.int .i64 n) ∧ w'.cell? ⟨w.heap.size, 1, none⟩ = some (.slice A ws.length cap))
        (first | exact k4 | exact k3)
        (first
          | (go_at_call 20; refine (l1Joins_any n (span ws (allPl n)) (allPl n) A cap ws _ (r3.out.drewNR _) HS.out hs0 hs1 hal0 HAL.out).mono ?_; rintro e4 w4 ⟨rfl, hb4⟩; rw [HJ.out]; have g4 : Below w3.heap.size w3 w4 := und hb4; have k4 := keep2 g4 k3 z3))
      have HB4 := Lib.hid (bstep (B := w.heap.size) (W := w) HB3.out (Nat.le_of_lt z3) g4)
      clear g4 hb4 hw1 hw2 hw3 hw4
      go_wp2_with fail
      go_ret
      exact ⟨ret_int HX.out, HB4.out⟩
    · have HJ := Lib.hid hj
      have HX : Hid (span ws (allPl n) = R) := by show _ = R; rw [← HRES.out, hj]; simp
      have hw1 := HW1.out
      have hw2 := HW2.out
      have hw3 := HW3.out
      have hw4 := HW4.out
      clear hj
      go_wp2_with fail
      go_region_held3 (fun w' => w'.cell? ⟨w.heap.size, 0, none⟩ = some (.int .i64 n) ∧ w'.cell? ⟨w.heap.size, 1, none⟩ = some (.slice A ws.length cap))
        (first | exact k4 | exact k3)
        (first
          | (go_at_call 20; refine (l1Joins_any n (span ws (allPl n)) (allPl n) A cap ws _ (r3.out.drewNR _) HS.out hs0 hs1 hal0 HAL.out).mono ?_; rintro e4 w4 ⟨rfl, hb4⟩; rw [HJ.out]; have g4 : Below w3.heap.size w3 w4 := und hb4; have k4 := keep2 g4 k3 z3))
      have HB4 := Lib.hid (bstep (B := w.heap.size) (W := w) HB3.out (Nat.le_of_lt z3) g4)
      clear g4 hb4 hw1 hw2 hw3 hw4
      go_wp2_with fail
      go_ret
      exact ⟨ret_int HX.out, HB4.out⟩

/-- is there one -/
theorem span_told (n : Int) (ws : List Wy) : (spanTreeOf n ws = -1 ∧ spanCostOf n ws = -1) ∨ (netOk n ws = true ∧ joins ws (span ws (allPl n)) (allPl n) = true ∧ spanTreeOf n ws = span ws (allPl n) ∧ spanCostOf n ws = cost ws (span ws (allPl n)) ∧ 0 ≤ spanTreeOf n ws ∧ spanTreeOf n ws ≤ full ws.length) := by
  have hS := span_bd ws (allPl n)
  unfold spanTreeOf spanCostOf
  cases h1 : netOk n ws
  · exact .inl ⟨by simp, by simp⟩
  · cases h2 : joins ws (span ws (allPl n)) (allPl n)
    · exact .inl ⟨by simp, by simp⟩
    · refine .inr ⟨rfl, rfl, by simp, by simp, ?_⟩
      simpa using hS

end Go.Proofs.YthadehgpeafniabDoor
