/- Walks of exact laws: the program's answer is the model's. -/
import Derived.Test.YtnnpooemdonbhaaCpI
import Derived.Test.YtnnpooemdonbhaaCpD
import Derived.Test.YtnnpooemdonbhaaCpA
import Derived.Test.YtnnpooemdonbhaaXA
set_option linter.unusedSimpArgs false
set_option linter.unusedVariables false
namespace Go.Proofs.Ytnnpooemdonbhaa
open Go.ChangeShapes Go.WideShapes Go.ChangeAt Go.RowKit

set_option maxHeartbeats 4000000 in
theorem FnExactPairsOk_walk (n : Int) (A : Option Addr) (cap : Nat) (ws : List Wy) (Ac : Option Addr) (cc : Nat) (cs : List (Int × Int)) (w : World) (hr : RW w w.heap.size A ws) (hlen : ws.length ≤ 9223372036854775807) (hcr : RC w w.heap.size Ac cs) (hclen : cs.length ≤ 9223372036854775807) :
    Calls Try.prog 4 #[.agg #[.int .i64 n, .slice A ws.length cap], .slice Ac cs.length cc] w fun e w' => e = .returned (.bool true) ∧ Below w.heap.size w w' := by
  have HR := Lib.hid hr
  have HC := Lib.hid hcr
  clear hr hcr
  by_cases hm : ws.length ≤ 1048576
  · by_cases hcm : (cs.length : Int) ≤ 1048576 - ws.length
    · have hcl : cs.length ≤ 1048576 := by omega
      go_enter Try.func4, Try.ntmps4
      go_wp2_with fail
      refine (szNet_any _ _ _ _ _ hlen).mono ?_; rintro e w1 ⟨rfl, hb1⟩
      rw [if_pos hm]
      obtain ⟨hc1, hf1⟩ := bcell hb1
      have hz1_0 : w.heap.size < w1.heap.size := by have hq := hb1.size; (try simp at hq); omega
      have HK1 := Lib.hid hb1
      have HB1 := Lib.hid (bstep (B := w.heap.size) (W := w) (by (try have hp := HB0.out); go_grown) (by go_size) hb1); clear hb1
      go_wp2_with fail
      refine (szPairS_any Ac cs.length cc (1048576 - ws.length) _ hclen (by omega) (by omega)).mono ?_; rintro e2 w2 ⟨rfl, rfl⟩; rw [if_pos hcm]
      go_wp2_with fail
      refine (toNet_any _ _ _ _ _ (HR.out.later (by have := HB1.out; go_grown)) hm).mono ?_; rintro e w2 ⟨b2, hbl2, hbh2, rfl, hrw2, hb2⟩
      obtain ⟨hc2, hf2⟩ := bcell hb2
      have hz2_0 : w.heap.size < w2.heap.size := by have hq := hb2.size; (try simp at hq); omega
      have HK2 := Lib.hid hb2
      have HB2 := Lib.hid (bstep (B := w.heap.size) (W := w) (by have hp := HB1.out; go_grown) (by go_size) hb2); clear hb2
      go_wp2_with fail
      refine (toPairS_any _ _ _ _ (HC.out.later (by have := HB2.out; go_grown)) hcl).mono ?_; rintro e w3 ⟨b3, hbl3, hbh3, rfl, hrc3, hb3⟩
      obtain ⟨hc3, hf3⟩ := bcell hb3
      have hz3_0 : w.heap.size < w3.heap.size := by have hq := hb3.size; (try simp at hq); omega
      have HK3 := Lib.hid hb3
      have HB3 := Lib.hid (bstep (B := w.heap.size) (W := w) (by have hp := HB2.out; go_grown) (by go_size) hb3); clear hb3
      go_wp2_with fail
      refine (sPairsOk_any _ _ _ _ _ _ _ _ (hrw2.later (by have := HK3.out; go_grown)) (by omega) (hrc3.later (by go_grown)) (by omega)).mono ?_; rintro e w4 ⟨rfl, hb4⟩
      obtain ⟨hc4, hf4⟩ := bcell hb4
      have hz4_0 : w.heap.size < w4.heap.size := by have hq := hb4.size; (try simp at hq); omega
      have HK4 := Lib.hid hb4
      have HB4 := Lib.hid (bstep (B := w.heap.size) (W := w) (by have hp := HB3.out; go_grown) (by go_size) hb4); clear hb4
      go_wp2_with fail
      refine (toNet_any _ _ _ _ _ (HR.out.later (by have := HB4.out; go_grown)) hm).mono ?_; rintro e w5 ⟨b5, hbl5, hbh5, rfl, hrw5, hb5⟩
      obtain ⟨hc5, hf5⟩ := bcell hb5
      have hz5_0 : w.heap.size < w5.heap.size := by have hq := hb5.size; (try simp at hq); omega
      have HK5 := Lib.hid hb5
      have HB5 := Lib.hid (bstep (B := w.heap.size) (W := w) (by have hp := HB4.out; go_grown) (by go_size) hb5); clear hb5
      go_wp2_with fail
      refine (toPairS_any _ _ _ _ (HC.out.later (by have := HB5.out; go_grown)) hcl).mono ?_; rintro e w6 ⟨b6, hbl6, hbh6, rfl, hrc6, hb6⟩
      obtain ⟨hc6, hf6⟩ := bcell hb6
      have hz6_0 : w.heap.size < w6.heap.size := by have hq := hb6.size; (try simp at hq); omega
      have hz6_1 : w5.heap.size < w6.heap.size := by have hq := hb6.size; (try simp at hq); omega
      have HK6 := Lib.hid hb6
      have HB6 := Lib.hid (bstep (B := w.heap.size) (W := w) (by have hp := HB5.out; go_grown) (by go_size) hb6); clear hb6
      go_wp2_with fail
      refine (PairsOk_any _ _ _ _ _ _ _ _ (hrw5.later (bstep (B := w5.heap.size) (W := w5) (by go_grown) (by go_size) HK6.out)) (hrc6.later (by go_grown)) (by omega)).mono ?_; rintro e w7 ⟨rfl, hb7⟩
      obtain ⟨hc7, hf7⟩ := bcell hb7
      have hz7_0 : w.heap.size < w7.heap.size := by have hq := hb7.size; (try simp at hq); omega
      have hz7_1 : w5.heap.size < w7.heap.size := by have hq := hb7.size; (try simp at hq); omega
      have HK7 := Lib.hid hb7
      have HB7 := Lib.hid (bstep (B := w.heap.size) (W := w) (by have hp := HB6.out; go_grown) (by go_size) hb7); clear hb7
      have d0 : w7.cell? ⟨w.heap.size, 0, none⟩ = some (.int .i64 n) := by go_simp
      have d1 : w7.cell? ⟨w.heap.size, 1, none⟩ = some (.slice A ws.length cap) := by go_simp
      have d2 : w7.cell? ⟨w5.heap.size, 0, none⟩ = some (.int .i64 n) := by go_simp
      have d3 : w7.cell? ⟨w5.heap.size, 1, none⟩ = some (.slice (some ⟨b5, 0, none⟩) ws.length ws.length) := by go_simp
      have hrw7 : RW w7 w7.heap.size (some ⟨b5, 0, none⟩) ws := hrw5.later (bstep (B := w5.heap.size) (W := w5) (bstep (B := w5.heap.size) (W := w5) (by go_grown) (by go_size) HK6.out) (by go_size) HK7.out)
      have hrc7 : RC w7 w7.heap.size (some ⟨b6, 0, none⟩) cs := hrc6.later HK7.out
      have HR7 := Lib.hid (HR.out.later HB7.out)
      have HC7 := Lib.hid (HC.out.later HB7.out)
      have HX7 := Lib.hid hrc7
      clear hc1 hc3 hc4 hc5 hc6 hc7 hf1 hf2 hf3 hf4 hf5 hf6 hf7
      go_wp2_with fail
      go_region_held3 (fun w' => w'.cell? ⟨w.heap.size, 0, none⟩ = some (.int .i64 n) ∧ w'.cell? ⟨w.heap.size, 1, none⟩ = some (.slice A ws.length cap) ∧ w'.cell? ⟨w5.heap.size, 0, none⟩ = some (.int .i64 n) ∧ w'.cell? ⟨w5.heap.size, 1, none⟩ = some (.slice (some ⟨b5, 0, none⟩) ws.length ws.length))
        (first | exact ⟨d0, d1, d2, d3⟩ | exact ⟨(hb8.cell hz7_0).trans d0, (hb8.cell hz7_0).trans d1, (hb8.cell hz7_1).trans d2, (hb8.cell hz7_1).trans d3⟩ | exact ⟨(hb9.cell hz8_0).trans ((hb8.cell hz7_0).trans d0), (hb9.cell hz8_0).trans ((hb8.cell hz7_0).trans d1), (hb9.cell hz8_1).trans ((hb8.cell hz7_1).trans d2), (hb9.cell hz8_1).trans ((hb8.cell hz7_1).trans d3)⟩)
        (first
          | (go_at_call 12; refine (toNet_any _ _ _ _ _ HR7.out.drewR hm).mono ?_; rintro e w8 ⟨b8, hbl8, hbh8, rfl, hrw8, hb8⟩; have hz8_0 : w.heap.size < w8.heap.size := Nat.lt_of_lt_of_le hz7_0 hb8.size; have hz8_1 : w5.heap.size < w8.heap.size := Nat.lt_of_lt_of_le hz7_1 hb8.size)
          | (go_at_call 14; refine (eqNet_any _ _ _ _ _ _ _ (hrw7.drewR.later hb8) hrw8 hm).mono ?_; rintro e w9 ⟨rfl, hb9⟩))
      have hb79 : Below w7.heap.size w7 w9 := bstep (B := w7.heap.size) (W := w7) (und (k := 1) hb8) (und (k := 1) hb8).size hb9
      have HB9 := Lib.hid (bstep (B := w.heap.size) (W := w) HB7.out (Nat.le_of_lt hz7_0) hb79)
      have HC9 := Lib.hid (HC7.out.later hb79)
      have HX9 := Lib.hid (HX7.out.later hb79)
      have hz9 : w.heap.size < w9.heap.size := Nat.lt_of_lt_of_le hz7_0 hb79.size
      clear hb8 hb9 hb79
      go_wp2_with fail
      refine (toPairS_any _ _ _ _ HC9.out hcl).mono ?_; rintro e w10 ⟨b10, hbl10, hbh10, rfl, hrc10, hb10⟩
      have HX10 := Lib.hid (HX9.out.later hb10)
      have HB10 := Lib.hid (bstep (B := w.heap.size) (W := w) HB9.out (Nat.le_of_lt hz9) hb10)
      have hz10 : w.heap.size < w10.heap.size := Nat.lt_of_lt_of_le hz9 hb10.size
      clear hb10
      go_wp2_with fail
      refine (eqPairS_any _ _ _ _ _ _ HX10.out hrc10 hcl).mono ?_; rintro e w11 ⟨rfl, hb11⟩
      have HB11 := Lib.hid (bstep (B := w.heap.size) (W := w) HB10.out (Nat.le_of_lt hz10) hb11)
      clear hb11
      go_wp2_with fail
      go_ret
      exact ⟨rfl, HB11.out⟩
    · go_enter Try.func4, Try.ntmps4
      go_wp2_with fail
      refine (szNet_any _ _ _ _ _ hlen).mono ?_; rintro e w1 ⟨rfl, hb1⟩
      rw [if_pos hm]
      obtain ⟨hc1, hf1⟩ := bcell hb1
      have hz1_0 : w.heap.size < w1.heap.size := by have hq := hb1.size; (try simp at hq); omega
      have HK1 := Lib.hid hb1
      have HB1 := Lib.hid (bstep (B := w.heap.size) (W := w) (by (try have hp := HB0.out); go_grown) (by go_size) hb1); clear hb1
      go_wp2_with fail
      refine (szPairS_any Ac cs.length cc (1048576 - ws.length) _ hclen (by omega) (by omega)).mono ?_; rintro e2 w2 ⟨rfl, rfl⟩; rw [if_neg (by omega)]
      go_wp2_with fail
      go_ret
      exact ⟨rfl, HB1.out⟩
  · go_enter Try.func4, Try.ntmps4
    go_wp2_with fail
    refine (szNet_any _ _ _ _ _ hlen).mono ?_; rintro e w1 ⟨rfl, hb1⟩
    rw [if_neg hm]
    obtain ⟨hc1, hf1⟩ := bcell hb1
    have hz1_0 : w.heap.size < w1.heap.size := by have hq := hb1.size; (try simp at hq); omega
    have HK1 := Lib.hid hb1
    have HB1 := Lib.hid (bstep (B := w.heap.size) (W := w) (by (try have hp := HB0.out); go_grown) (by go_size) hb1); clear hb1
    go_wp2_with fail
    go_ret
    exact ⟨rfl, HB1.out⟩
end Go.Proofs.Ytnnpooemdonbhaa
