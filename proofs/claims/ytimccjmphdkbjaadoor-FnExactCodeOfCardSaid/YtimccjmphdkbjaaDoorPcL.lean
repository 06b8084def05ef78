/- All codes: finite facts on six places. Plain mathematics. -/
import Derived.Test.YtimccjmphdkbjaaDoorPcM
set_option linter.unusedVariables false
set_option linter.unusedSimpArgs false
namespace Go.Proofs.YtimccjmphdkbjaaDoor
open Go.RowKit

set_option maxRecDepth 1000000 in
theorem code6_0_0 : allCode (chkCode 6) 6 2 [0, 0] = true := by decide +kernel
set_option maxRecDepth 1000000 in
theorem code6_0_1 : allCode (chkCode 6) 6 2 [0, 1] = true := by decide +kernel
set_option maxRecDepth 1000000 in
theorem code6_0_2 : allCode (chkCode 6) 6 2 [0, 2] = true := by decide +kernel
set_option maxRecDepth 1000000 in
theorem code6_0_3 : allCode (chkCode 6) 6 2 [0, 3] = true := by decide +kernel
set_option maxRecDepth 1000000 in
theorem code6_0_4 : allCode (chkCode 6) 6 2 [0, 4] = true := by decide +kernel
set_option maxRecDepth 1000000 in
theorem code6_0_5 : allCode (chkCode 6) 6 2 [0, 5] = true := by decide +kernel
set_option maxRecDepth 1000000 in
theorem code6_1_0 : allCode (chkCode 6) 6 2 [1, 0] = true := by decide +kernel
set_option maxRecDepth 1000000 in
theorem code6_1_1 : allCode (chkCode 6) 6 2 [1, 1] = true := by decide +kernel
set_option maxRecDepth 1000000 in
theorem code6_1_2 : allCode (chkCode 6) 6 2 [1, 2] = true := by decide +kernel
set_option maxRecDepth 1000000 in
theorem code6_1_3 : allCode (chkCode 6) 6 2 [1, 3] = true := by decide +kernel
set_option maxRecDepth 1000000 in
theorem code6_1_4 : allCode (chkCode 6) 6 2 [1, 4] = true := by decide +kernel
set_option maxRecDepth 1000000 in
theorem code6_1_5 : allCode (chkCode 6) 6 2 [1, 5] = true := by decide +kernel
set_option maxRecDepth 1000000 in
theorem code6_2_0 : allCode (chkCode 6) 6 2 [2, 0] = true := by decide +kernel
set_option maxRecDepth 1000000 in
theorem code6_2_1 : allCode (chkCode 6) 6 2 [2, 1] = true := by decide +kernel
set_option maxRecDepth 1000000 in
theorem code6_2_2 : allCode (chkCode 6) 6 2 [2, 2] = true := by decide +kernel
set_option maxRecDepth 1000000 in
theorem code6_2_3 : allCode (chkCode 6) 6 2 [2, 3] = true := by decide +kernel
set_option maxRecDepth 1000000 in
theorem code6_2_4 : allCode (chkCode 6) 6 2 [2, 4] = true := by decide +kernel
set_option maxRecDepth 1000000 in
theorem code6_2_5 : allCode (chkCode 6) 6 2 [2, 5] = true := by decide +kernel
set_option maxRecDepth 1000000 in
theorem code6_3_0 : allCode (chkCode 6) 6 2 [3, 0] = true := by decide +kernel
set_option maxRecDepth 1000000 in
theorem code6_3_1 : allCode (chkCode 6) 6 2 [3, 1] = true := by decide +kernel
set_option maxRecDepth 1000000 in
theorem code6_3_2 : allCode (chkCode 6) 6 2 [3, 2] = true := by decide +kernel
set_option maxRecDepth 1000000 in
theorem code6_3_3 : allCode (chkCode 6) 6 2 [3, 3] = true := by decide +kernel
set_option maxRecDepth 1000000 in
theorem code6_3_4 : allCode (chkCode 6) 6 2 [3, 4] = true := by decide +kernel
set_option maxRecDepth 1000000 in
theorem code6_3_5 : allCode (chkCode 6) 6 2 [3, 5] = true := by decide +kernel
set_option maxRecDepth 1000000 in
theorem code6_4_0 : allCode (chkCode 6) 6 2 [4, 0] = true := by decide +kernel
set_option maxRecDepth 1000000 in
theorem code6_4_1 : allCode (chkCode 6) 6 2 [4, 1] = true := by decide +kernel
set_option maxRecDepth 1000000 in
theorem code6_4_2 : allCode (chkCode 6) 6 2 [4, 2] = true := by decide +kernel
set_option maxRecDepth 1000000 in
theorem code6_4_3 : allCode (chkCode 6) 6 2 [4, 3] = true := by decide +kernel
set_option maxRecDepth 1000000 in
theorem code6_4_4 : allCode (chkCode 6) 6 2 [4, 4] = true := by decide +kernel
set_option maxRecDepth 1000000 in
theorem code6_4_5 : allCode (chkCode 6) 6 2 [4, 5] = true := by decide +kernel
set_option maxRecDepth 1000000 in
theorem code6_5_0 : allCode (chkCode 6) 6 2 [5, 0] = true := by decide +kernel
set_option maxRecDepth 1000000 in
theorem code6_5_1 : allCode (chkCode 6) 6 2 [5, 1] = true := by decide +kernel
set_option maxRecDepth 1000000 in
theorem code6_5_2 : allCode (chkCode 6) 6 2 [5, 2] = true := by decide +kernel
set_option maxRecDepth 1000000 in
theorem code6_5_3 : allCode (chkCode 6) 6 2 [5, 3] = true := by decide +kernel
set_option maxRecDepth 1000000 in
theorem code6_5_4 : allCode (chkCode 6) 6 2 [5, 4] = true := by decide +kernel
set_option maxRecDepth 1000000 in
theorem code6_5_5 : allCode (chkCode 6) 6 2 [5, 5] = true := by decide +kernel
theorem code6_0 : allCode (chkCode 6) 6 3 [0] = true := by
  show ((List.range 6).all fun u => allCode (chkCode 6) 6 2 ([0] ++ [(u : Int)])) = true
  rw [List.all_eq_true]; intro u hu; rw [List.mem_range] at hu
  match u, hu with
  | 0, _ => exact code6_0_0
  | 1, _ => exact code6_0_1
  | 2, _ => exact code6_0_2
  | 3, _ => exact code6_0_3
  | 4, _ => exact code6_0_4
  | 5, _ => exact code6_0_5
theorem code6_1 : allCode (chkCode 6) 6 3 [1] = true := by
  show ((List.range 6).all fun u => allCode (chkCode 6) 6 2 ([1] ++ [(u : Int)])) = true
  rw [List.all_eq_true]; intro u hu; rw [List.mem_range] at hu
  match u, hu with
  | 0, _ => exact code6_1_0
  | 1, _ => exact code6_1_1
  | 2, _ => exact code6_1_2
  | 3, _ => exact code6_1_3
  | 4, _ => exact code6_1_4
  | 5, _ => exact code6_1_5
theorem code6_2 : allCode (chkCode 6) 6 3 [2] = true := by
  show ((List.range 6).all fun u => allCode (chkCode 6) 6 2 ([2] ++ [(u : Int)])) = true
  rw [List.all_eq_true]; intro u hu; rw [List.mem_range] at hu
  match u, hu with
  | 0, _ => exact code6_2_0
  | 1, _ => exact code6_2_1
  | 2, _ => exact code6_2_2
  | 3, _ => exact code6_2_3
  | 4, _ => exact code6_2_4
  | 5, _ => exact code6_2_5
theorem code6_3 : allCode (chkCode 6) 6 3 [3] = true := by
  show ((List.range 6).all fun u => allCode (chkCode 6) 6 2 ([3] ++ [(u : Int)])) = true
  rw [List.all_eq_true]; intro u hu; rw [List.mem_range] at hu
  match u, hu with
  | 0, _ => exact code6_3_0
  | 1, _ => exact code6_3_1
  | 2, _ => exact code6_3_2
  | 3, _ => exact code6_3_3
  | 4, _ => exact code6_3_4
  | 5, _ => exact code6_3_5
theorem code6_4 : allCode (chkCode 6) 6 3 [4] = true := by
  show ((List.range 6).all fun u => allCode (chkCode 6) 6 2 ([4] ++ [(u : Int)])) = true
  rw [List.all_eq_true]; intro u hu; rw [List.mem_range] at hu
  match u, hu with
  | 0, _ => exact code6_4_0
  | 1, _ => exact code6_4_1
  | 2, _ => exact code6_4_2
  | 3, _ => exact code6_4_3
  | 4, _ => exact code6_4_4
  | 5, _ => exact code6_4_5
theorem code6_5 : allCode (chkCode 6) 6 3 [5] = true := by
  show ((List.range 6).all fun u => allCode (chkCode 6) 6 2 ([5] ++ [(u : Int)])) = true
  rw [List.all_eq_true]; intro u hu; rw [List.mem_range] at hu
  match u, hu with
  | 0, _ => exact code6_5_0
  | 1, _ => exact code6_5_1
  | 2, _ => exact code6_5_2
  | 3, _ => exact code6_5_3
  | 4, _ => exact code6_5_4
  | 5, _ => exact code6_5_5
theorem code_all6 : allCode (chkCode 6) 6 4 [] = true := by
  show ((List.range 6).all fun u => allCode (chkCode 6) 6 3 ([] ++ [(u : Int)])) = true
  rw [List.all_eq_true]; intro u hu; rw [List.mem_range] at hu
  match u, hu with
  | 0, _ => exact code6_0
  | 1, _ => exact code6_1
  | 2, _ => exact code6_2
  | 3, _ => exact code6_3
  | 4, _ => exact code6_4
  | 5, _ => exact code6_5
end Go.Proofs.YtimccjmphdkbjaaDoor
