/- Walks of exact laws: the program's answer is the model's. -/
import Derived.Test.YthadehgpeafniabNxI
import Derived.Test.YthadehgpeafniabNxE
import Derived.Test.YthadehgpeafniabXA
set_option linter.unusedSimpArgs false
set_option linter.unusedVariables false
namespace Go.Proofs.Ythadehgpeafniab
open Go.ChangeShapes Go.WideShapes Go.ChangeAt Go.RowKit

set_option maxHeartbeats 1000000 in
theorem FnExactCoverCost_walk (n : Int) (A : Option Addr) (cap : Nat) (ws : List Wy) (e : Int) (w : World) (hr : RW w w.heap.size A ws) (hlen : ws.length ≤ 9223372036854775807) :
    Calls Try.prog 3 #[.agg #[.int .i64 n, .slice A ws.length cap], .int .i64 e] w fun e w' => e = .returned (.bool true) ∧ Below w.heap.size w w' := by
  have HR := Lib.hid hr
  clear hr
  by_cases hm : ws.length ≤ 1048576
  · go_enter Try.func3, Try.ntmps3
    go_wp2_with fail
    refine (szNet_any _ _ _ _ _ hlen).mono ?_; rintro e w1 ⟨rfl, hb1⟩
    rw [if_pos hm]
    obtain ⟨hc1, hf1⟩ := bcell hb1
    have hz1_0 : w.heap.size < w1.heap.size := by have hq := hb1.size; (try simp at hq); omega
    have HK1 := Lib.hid hb1
    have HB1 := Lib.hid (bstep (B := w.heap.size) (W := w) (by (try have hp := HB0.out); go_grown) (by go_size) hb1); clear hb1
    go_wp2_with fail
    refine (toNet_any _ _ _ _ _ (HR.out.later (by have := HB1.out; go_grown)) hm).mono ?_; rintro e w2 ⟨b2, hbl2, hbh2, rfl, hrw2, hb2⟩
    obtain ⟨hc2, hf2⟩ := bcell hb2
    have hz2_0 : w.heap.size < w2.heap.size := by have hq := hb2.size; (try simp at hq); omega
    have HK2 := Lib.hid hb2
    have HB2 := Lib.hid (bstep (B := w.heap.size) (W := w) (by have hp := HB1.out; go_grown) (by go_size) hb2); clear hb2
    go_wp2_with fail
    refine (sCoverCost_any _ _ _ _ _ _ (hrw2.later (by go_grown)) (by omega)).mono ?_; rintro e w3 ⟨rfl, hb3⟩
    obtain ⟨hc3, hf3⟩ := bcell hb3
    have hz3_0 : w.heap.size < w3.heap.size := by have hq := hb3.size; (try simp at hq); omega
    have HK3 := Lib.hid hb3
    have HB3 := Lib.hid (bstep (B := w.heap.size) (W := w) (by have hp := HB2.out; go_grown) (by go_size) hb3); clear hb3
    go_wp2_with fail
    refine (toNet_any _ _ _ _ _ (HR.out.later (by have := HB3.out; go_grown)) hm).mono ?_; rintro e w4 ⟨b4, hbl4, hbh4, rfl, hrw4, hb4⟩
    obtain ⟨hc4, hf4⟩ := bcell hb4
    have hz4_0 : w.heap.size < w4.heap.size := by have hq := hb4.size; (try simp at hq); omega
    have HK4 := Lib.hid hb4
    have HB4 := Lib.hid (bstep (B := w.heap.size) (W := w) (by have hp := HB3.out; go_grown) (by go_size) hb4); clear hb4
    go_wp2_with fail
    refine (CoverCost_any _ _ _ _ _ _ (hrw4.later (by go_grown))).mono ?_; rintro e w5 ⟨rfl, hb5⟩
    obtain ⟨hc5, hf5⟩ := bcell hb5
    have hz5_0 : w.heap.size < w5.heap.size := by have hq := hb5.size; (try simp at hq); omega
    have hz5_1 : w4.heap.size < w5.heap.size := by have hq := hb5.size; (try simp at hq); omega
    have HK5 := Lib.hid hb5
    have HB5 := Lib.hid (bstep (B := w.heap.size) (W := w) (by have hp := HB4.out; go_grown) (by go_size) hb5); clear hb5
    have d0 : w5.cell? ⟨w.heap.size, 0, none⟩ = some (.int .i64 n) := by go_simp
    have d1 : w5.cell? ⟨w.heap.size, 1, none⟩ = some (.slice A ws.length cap) := by go_simp
    have d2 : w5.cell? ⟨w4.heap.size, 0, none⟩ = some (.int .i64 n) := by go_simp
    have d3 : w5.cell? ⟨w4.heap.size, 1, none⟩ = some (.slice (some ⟨b4, 0, none⟩) ws.length ws.length) := by go_simp
    have hrw5 : RW w5 w5.heap.size (some ⟨b4, 0, none⟩) ws := hrw4.later (bstep (B := w4.heap.size) (W := w4) (by go_grown) (by go_size) HK5.out)
    have HR5 := Lib.hid (HR.out.later HB5.out)
    clear hc1 hc2 hc3 hc4 hc5 hf1 hf2 hf3 hf4 hf5
    go_wp2_with fail
    go_region_held3 (fun w' => w'.cell? ⟨w.heap.size, 0, none⟩ = some (.int .i64 n) ∧ w'.cell? ⟨w.heap.size, 1, none⟩ = some (.slice A ws.length cap) ∧ w'.cell? ⟨w4.heap.size, 0, none⟩ = some (.int .i64 n) ∧ w'.cell? ⟨w4.heap.size, 1, none⟩ = some (.slice (some ⟨b4, 0, none⟩) ws.length ws.length))
      (first | exact ⟨d0, d1, d2, d3⟩ | exact ⟨(hb6.cell hz5_0).trans d0, (hb6.cell hz5_0).trans d1, (hb6.cell hz5_1).trans d2, (hb6.cell hz5_1).trans d3⟩ | exact ⟨(hb7.cell hz6_0).trans ((hb6.cell hz5_0).trans d0), (hb7.cell hz6_0).trans ((hb6.cell hz5_0).trans d1), (hb7.cell hz6_1).trans ((hb6.cell hz5_1).trans d2), (hb7.cell hz6_1).trans ((hb6.cell hz5_1).trans d3)⟩)
      (first
        | (go_at_call 8; refine (toNet_any _ _ _ _ _ HR5.out.drewR hm).mono ?_; rintro e w6 ⟨b6, hbl6, hbh6, rfl, hrw6, hb6⟩; have hz6_0 : w.heap.size < w6.heap.size := Nat.lt_of_lt_of_le hz5_0 hb6.size; have hz6_1 : w4.heap.size < w6.heap.size := Nat.lt_of_lt_of_le hz5_1 hb6.size)
        | (go_at_call 10; refine (eqNet_any _ _ _ _ _ _ _ (hrw5.drewR.later hb6) hrw6 hm).mono ?_; rintro e w7 ⟨rfl, hb7⟩))
    have HB7 := Lib.hid (bstep (bstep HB5.out.drew (by have := HB5.out.size; simpa using this) hb6) (by omega) hb7)
    clear hb6 hb7
    go_wp2_with fail
    go_ret
    exact ⟨rfl, HB7.out⟩
  · go_enter Try.func3, Try.ntmps3
    go_wp2_with fail
    refine (szNet_any _ _ _ _ _ hlen).mono ?_; rintro e w1 ⟨rfl, hb1⟩
    rw [if_neg hm]
    obtain ⟨hc1, hf1⟩ := bcell hb1
    have hz1_0 : w.heap.size < w1.heap.size := by have hq := hb1.size; (try simp at hq); omega
    have HK1 := Lib.hid hb1
    have HB1 := Lib.hid (bstep (B := w.heap.size) (W := w) (by (try have hp := HB0.out); go_grown) (by go_size) hb1); clear hb1
    go_wp2_with fail
    go_ret
    exact ⟨rfl, HB1.out⟩

set_option maxHeartbeats 1000000 in
theorem FnExactFewestEnds_walk (n : Int) (A : Option Addr) (cap : Nat) (ws : List Wy) (c : Int) (w : World) (hr : RW w w.heap.size A ws) (hlen : ws.length ≤ 9223372036854775807) :
    Calls Try.prog 4 #[.agg #[.int .i64 n, .slice A ws.length cap], .int .i64 c] w fun e w' => e = .returned (.bool true) ∧ Below w.heap.size w w' := by
  have HR := Lib.hid hr
  clear hr
  by_cases hm : ws.length ≤ 1048576
  · go_enter Try.func4, Try.ntmps4
    go_wp2_with fail
    refine (szNet_any _ _ _ _ _ hlen).mono ?_; rintro e w1 ⟨rfl, hb1⟩
    rw [if_pos hm]
    obtain ⟨hc1, hf1⟩ := bcell hb1
    have hz1_0 : w.heap.size < w1.heap.size := by have hq := hb1.size; (try simp at hq); omega
    have HK1 := Lib.hid hb1
    have HB1 := Lib.hid (bstep (B := w.heap.size) (W := w) (by (try have hp := HB0.out); go_grown) (by go_size) hb1); clear hb1
    go_wp2_with fail
    refine (toNet_any _ _ _ _ _ (HR.out.later (by have := HB1.out; go_grown)) hm).mono ?_; rintro e w2 ⟨b2, hbl2, hbh2, rfl, hrw2, hb2⟩
    obtain ⟨hc2, hf2⟩ := bcell hb2
    have hz2_0 : w.heap.size < w2.heap.size := by have hq := hb2.size; (try simp at hq); omega
    have HK2 := Lib.hid hb2
    have HB2 := Lib.hid (bstep (B := w.heap.size) (W := w) (by have hp := HB1.out; go_grown) (by go_size) hb2); clear hb2
    go_wp2_with fail
    refine (sFewestEnds_any _ _ _ _ _ _ (hrw2.later (by go_grown)) (by omega)).mono ?_; rintro e w3 ⟨rfl, hb3⟩
    obtain ⟨hc3, hf3⟩ := bcell hb3
    have hz3_0 : w.heap.size < w3.heap.size := by have hq := hb3.size; (try simp at hq); omega
    have HK3 := Lib.hid hb3
    have HB3 := Lib.hid (bstep (B := w.heap.size) (W := w) (by have hp := HB2.out; go_grown) (by go_size) hb3); clear hb3
    go_wp2_with fail
    refine (toNet_any _ _ _ _ _ (HR.out.later (by have := HB3.out; go_grown)) hm).mono ?_; rintro e w4 ⟨b4, hbl4, hbh4, rfl, hrw4, hb4⟩
    obtain ⟨hc4, hf4⟩ := bcell hb4
    have hz4_0 : w.heap.size < w4.heap.size := by have hq := hb4.size; (try simp at hq); omega
    have HK4 := Lib.hid hb4
    have HB4 := Lib.hid (bstep (B := w.heap.size) (W := w) (by have hp := HB3.out; go_grown) (by go_size) hb4); clear hb4
    go_wp2_with fail
    refine (FewestEnds_any _ _ _ _ _ _ (hrw4.later (by go_grown))).mono ?_; rintro e w5 ⟨rfl, hb5⟩
    obtain ⟨hc5, hf5⟩ := bcell hb5
    have hz5_0 : w.heap.size < w5.heap.size := by have hq := hb5.size; (try simp at hq); omega
    have hz5_1 : w4.heap.size < w5.heap.size := by have hq := hb5.size; (try simp at hq); omega
    have HK5 := Lib.hid hb5
    have HB5 := Lib.hid (bstep (B := w.heap.size) (W := w) (by have hp := HB4.out; go_grown) (by go_size) hb5); clear hb5
    have d0 : w5.cell? ⟨w.heap.size, 0, none⟩ = some (.int .i64 n) := by go_simp
    have d1 : w5.cell? ⟨w.heap.size, 1, none⟩ = some (.slice A ws.length cap) := by go_simp
    have d2 : w5.cell? ⟨w4.heap.size, 0, none⟩ = some (.int .i64 n) := by go_simp
    have d3 : w5.cell? ⟨w4.heap.size, 1, none⟩ = some (.slice (some ⟨b4, 0, none⟩) ws.length ws.length) := by go_simp
    have hrw5 : RW w5 w5.heap.size (some ⟨b4, 0, none⟩) ws := hrw4.later (bstep (B := w4.heap.size) (W := w4) (by go_grown) (by go_size) HK5.out)
    have HR5 := Lib.hid (HR.out.later HB5.out)
    clear hc1 hc2 hc3 hc4 hc5 hf1 hf2 hf3 hf4 hf5
    go_wp2_with fail
    go_region_held3 (fun w' => w'.cell? ⟨w.heap.size, 0, none⟩ = some (.int .i64 n) ∧ w'.cell? ⟨w.heap.size, 1, none⟩ = some (.slice A ws.length cap) ∧ w'.cell? ⟨w4.heap.size, 0, none⟩ = some (.int .i64 n) ∧ w'.cell? ⟨w4.heap.size, 1, none⟩ = some (.slice (some ⟨b4, 0, none⟩) ws.length ws.length))
      (first | exact ⟨d0, d1, d2, d3⟩ | exact ⟨(hb6.cell hz5_0).trans d0, (hb6.cell hz5_0).trans d1, (hb6.cell hz5_1).trans d2, (hb6.cell hz5_1).trans d3⟩ | exact ⟨(hb7.cell hz6_0).trans ((hb6.cell hz5_0).trans d0), (hb7.cell hz6_0).trans ((hb6.cell hz5_0).trans d1), (hb7.cell hz6_1).trans ((hb6.cell hz5_1).trans d2), (hb7.cell hz6_1).trans ((hb6.cell hz5_1).trans d3)⟩)
      (first
        | (go_at_call 8; refine (toNet_any _ _ _ _ _ HR5.out.drewR hm).mono ?_; rintro e w6 ⟨b6, hbl6, hbh6, rfl, hrw6, hb6⟩; have hz6_0 : w.heap.size < w6.heap.size := Nat.lt_of_lt_of_le hz5_0 hb6.size; have hz6_1 : w4.heap.size < w6.heap.size := Nat.lt_of_lt_of_le hz5_1 hb6.size)
        | (go_at_call 10; refine (eqNet_any _ _ _ _ _ _ _ (hrw5.drewR.later hb6) hrw6 hm).mono ?_; rintro e w7 ⟨rfl, hb7⟩))
    have HB7 := Lib.hid (bstep (bstep HB5.out.drew (by have := HB5.out.size; simpa using this) hb6) (by omega) hb7)
    clear hb6 hb7
    go_wp2_with fail
    go_ret
    exact ⟨rfl, HB7.out⟩
  · go_enter Try.func4, Try.ntmps4
    go_wp2_with fail
    refine (szNet_any _ _ _ _ _ hlen).mono ?_; rintro e w1 ⟨rfl, hb1⟩
    rw [if_neg hm]
    obtain ⟨hc1, hf1⟩ := bcell hb1
    have hz1_0 : w.heap.size < w1.heap.size := by have hq := hb1.size; (try simp at hq); omega
    have HK1 := Lib.hid hb1
    have HB1 := Lib.hid (bstep (B := w.heap.size) (W := w) (by (try have hp := HB0.out); go_grown) (by go_size) hb1); clear hb1
    go_wp2_with fail
    go_ret
    exact ⟨rfl, HB1.out⟩

end Go.Proofs.Ythadehgpeafniab
