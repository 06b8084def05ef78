/- All lists of pairs: finite facts on six places. Plain mathematics. -/
import Derived.Test.YtimccjmphdkbjaaDoorPcM
set_option linter.unusedVariables false
set_option linter.unusedSimpArgs false
namespace Go.Proofs.YtimccjmphdkbjaaDoor
open Go.RowKit

theorem allSub_cons {α : Type} (P : List α → Bool) (b : α) (bs : List α) (k : Nat) (acc : List α) : allSub P (b :: bs) (k + 1) acc = (allSub P bs k (acc ++ [b]) && allSub P bs (k + 1) acc) := rfl
set_option maxRecDepth 1000000 in
theorem tree6_1 : allSub (chkTree 6) [(0, 4), (0, 5), (1, 2), (1, 3), (1, 4), (1, 5), (2, 3), (2, 4), (2, 5), (3, 4), (3, 5), (4, 5)] 2 [(0, 1), (0, 2), (0, 3)] = true := by decide +kernel
set_option maxRecDepth 1000000 in
theorem tree6_2 : allSub (chkTree 6) [(0, 5), (1, 2), (1, 3), (1, 4), (1, 5), (2, 3), (2, 4), (2, 5), (3, 4), (3, 5), (4, 5)] 2 [(0, 1), (0, 2), (0, 4)] = true := by decide +kernel
set_option maxRecDepth 1000000 in
theorem tree6_3 : allSub (chkTree 6) [(0, 5), (1, 2), (1, 3), (1, 4), (1, 5), (2, 3), (2, 4), (2, 5), (3, 4), (3, 5), (4, 5)] 3 [(0, 1), (0, 2)] = true := by decide +kernel
theorem tree6_4 : allSub (chkTree 6) [(0, 4), (0, 5), (1, 2), (1, 3), (1, 4), (1, 5), (2, 3), (2, 4), (2, 5), (3, 4), (3, 5), (4, 5)] 3 [(0, 1), (0, 2)] = true := by
  rw [allSub_cons, Bool.and_eq_true]; exact ⟨tree6_2, tree6_3⟩
theorem tree6_5 : allSub (chkTree 6) [(0, 3), (0, 4), (0, 5), (1, 2), (1, 3), (1, 4), (1, 5), (2, 3), (2, 4), (2, 5), (3, 4), (3, 5), (4, 5)] 3 [(0, 1), (0, 2)] = true := by
  rw [allSub_cons, Bool.and_eq_true]; exact ⟨tree6_1, tree6_4⟩
set_option maxRecDepth 1000000 in
theorem tree6_6 : allSub (chkTree 6) [(0, 5), (1, 2), (1, 3), (1, 4), (1, 5), (2, 3), (2, 4), (2, 5), (3, 4), (3, 5), (4, 5)] 2 [(0, 1), (0, 3), (0, 4)] = true := by decide +kernel
set_option maxRecDepth 1000000 in
theorem tree6_7 : allSub (chkTree 6) [(0, 5), (1, 2), (1, 3), (1, 4), (1, 5), (2, 3), (2, 4), (2, 5), (3, 4), (3, 5), (4, 5)] 3 [(0, 1), (0, 3)] = true := by decide +kernel
theorem tree6_8 : allSub (chkTree 6) [(0, 4), (0, 5), (1, 2), (1, 3), (1, 4), (1, 5), (2, 3), (2, 4), (2, 5), (3, 4), (3, 5), (4, 5)] 3 [(0, 1), (0, 3)] = true := by
  rw [allSub_cons, Bool.and_eq_true]; exact ⟨tree6_6, tree6_7⟩
set_option maxRecDepth 1000000 in
theorem tree6_9 : allSub (chkTree 6) [(0, 5), (1, 2), (1, 3), (1, 4), (1, 5), (2, 3), (2, 4), (2, 5), (3, 4), (3, 5), (4, 5)] 3 [(0, 1), (0, 4)] = true := by decide +kernel
set_option maxRecDepth 1000000 in
theorem tree6_10 : allSub (chkTree 6) [(1, 2), (1, 3), (1, 4), (1, 5), (2, 3), (2, 4), (2, 5), (3, 4), (3, 5), (4, 5)] 3 [(0, 1), (0, 5)] = true := by decide +kernel
set_option maxRecDepth 1000000 in
theorem tree6_11 : allSub (chkTree 6) [(1, 3), (1, 4), (1, 5), (2, 3), (2, 4), (2, 5), (3, 4), (3, 5), (4, 5)] 3 [(0, 1), (1, 2)] = true := by decide +kernel
set_option maxRecDepth 1000000 in
theorem tree6_12 : allSub (chkTree 6) [(1, 3), (1, 4), (1, 5), (2, 3), (2, 4), (2, 5), (3, 4), (3, 5), (4, 5)] 4 [(0, 1)] = true := by decide +kernel
theorem tree6_13 : allSub (chkTree 6) [(1, 2), (1, 3), (1, 4), (1, 5), (2, 3), (2, 4), (2, 5), (3, 4), (3, 5), (4, 5)] 4 [(0, 1)] = true := by
  rw [allSub_cons, Bool.and_eq_true]; exact ⟨tree6_11, tree6_12⟩
theorem tree6_14 : allSub (chkTree 6) [(0, 5), (1, 2), (1, 3), (1, 4), (1, 5), (2, 3), (2, 4), (2, 5), (3, 4), (3, 5), (4, 5)] 4 [(0, 1)] = true := by
  rw [allSub_cons, Bool.and_eq_true]; exact ⟨tree6_10, tree6_13⟩
theorem tree6_15 : allSub (chkTree 6) [(0, 4), (0, 5), (1, 2), (1, 3), (1, 4), (1, 5), (2, 3), (2, 4), (2, 5), (3, 4), (3, 5), (4, 5)] 4 [(0, 1)] = true := by
  rw [allSub_cons, Bool.and_eq_true]; exact ⟨tree6_9, tree6_14⟩
theorem tree6_16 : allSub (chkTree 6) [(0, 3), (0, 4), (0, 5), (1, 2), (1, 3), (1, 4), (1, 5), (2, 3), (2, 4), (2, 5), (3, 4), (3, 5), (4, 5)] 4 [(0, 1)] = true := by
  rw [allSub_cons, Bool.and_eq_true]; exact ⟨tree6_8, tree6_15⟩
theorem tree6_17 : allSub (chkTree 6) [(0, 2), (0, 3), (0, 4), (0, 5), (1, 2), (1, 3), (1, 4), (1, 5), (2, 3), (2, 4), (2, 5), (3, 4), (3, 5), (4, 5)] 4 [(0, 1)] = true := by
  rw [allSub_cons, Bool.and_eq_true]; exact ⟨tree6_5, tree6_16⟩
set_option maxRecDepth 1000000 in
theorem tree6_18 : allSub (chkTree 6) [(0, 5), (1, 2), (1, 3), (1, 4), (1, 5), (2, 3), (2, 4), (2, 5), (3, 4), (3, 5), (4, 5)] 2 [(0, 2), (0, 3), (0, 4)] = true := by decide +kernel
set_option maxRecDepth 1000000 in
theorem tree6_19 : allSub (chkTree 6) [(0, 5), (1, 2), (1, 3), (1, 4), (1, 5), (2, 3), (2, 4), (2, 5), (3, 4), (3, 5), (4, 5)] 3 [(0, 2), (0, 3)] = true := by decide +kernel
theorem tree6_20 : allSub (chkTree 6) [(0, 4), (0, 5), (1, 2), (1, 3), (1, 4), (1, 5), (2, 3), (2, 4), (2, 5), (3, 4), (3, 5), (4, 5)] 3 [(0, 2), (0, 3)] = true := by
  rw [allSub_cons, Bool.and_eq_true]; exact ⟨tree6_18, tree6_19⟩
set_option maxRecDepth 1000000 in
theorem tree6_21 : allSub (chkTree 6) [(0, 5), (1, 2), (1, 3), (1, 4), (1, 5), (2, 3), (2, 4), (2, 5), (3, 4), (3, 5), (4, 5)] 3 [(0, 2), (0, 4)] = true := by decide +kernel
set_option maxRecDepth 1000000 in
theorem tree6_22 : allSub (chkTree 6) [(1, 2), (1, 3), (1, 4), (1, 5), (2, 3), (2, 4), (2, 5), (3, 4), (3, 5), (4, 5)] 3 [(0, 2), (0, 5)] = true := by decide +kernel
set_option maxRecDepth 1000000 in
theorem tree6_23 : allSub (chkTree 6) [(1, 3), (1, 4), (1, 5), (2, 3), (2, 4), (2, 5), (3, 4), (3, 5), (4, 5)] 3 [(0, 2), (1, 2)] = true := by decide +kernel
set_option maxRecDepth 1000000 in
theorem tree6_24 : allSub (chkTree 6) [(1, 3), (1, 4), (1, 5), (2, 3), (2, 4), (2, 5), (3, 4), (3, 5), (4, 5)] 4 [(0, 2)] = true := by decide +kernel
theorem tree6_25 : allSub (chkTree 6) [(1, 2), (1, 3), (1, 4), (1, 5), (2, 3), (2, 4), (2, 5), (3, 4), (3, 5), (4, 5)] 4 [(0, 2)] = true := by
  rw [allSub_cons, Bool.and_eq_true]; exact ⟨tree6_23, tree6_24⟩
theorem tree6_26 : allSub (chkTree 6) [(0, 5), (1, 2), (1, 3), (1, 4), (1, 5), (2, 3), (2, 4), (2, 5), (3, 4), (3, 5), (4, 5)] 4 [(0, 2)] = true := by
  rw [allSub_cons, Bool.and_eq_true]; exact ⟨tree6_22, tree6_25⟩
theorem tree6_27 : allSub (chkTree 6) [(0, 4), (0, 5), (1, 2), (1, 3), (1, 4), (1, 5), (2, 3), (2, 4), (2, 5), (3, 4), (3, 5), (4, 5)] 4 [(0, 2)] = true := by
  rw [allSub_cons, Bool.and_eq_true]; exact ⟨tree6_21, tree6_26⟩
theorem tree6_28 : allSub (chkTree 6) [(0, 3), (0, 4), (0, 5), (1, 2), (1, 3), (1, 4), (1, 5), (2, 3), (2, 4), (2, 5), (3, 4), (3, 5), (4, 5)] 4 [(0, 2)] = true := by
  rw [allSub_cons, Bool.and_eq_true]; exact ⟨tree6_20, tree6_27⟩
set_option maxRecDepth 1000000 in
theorem tree6_29 : allSub (chkTree 6) [(0, 5), (1, 2), (1, 3), (1, 4), (1, 5), (2, 3), (2, 4), (2, 5), (3, 4), (3, 5), (4, 5)] 3 [(0, 3), (0, 4)] = true := by decide +kernel
set_option maxRecDepth 1000000 in
theorem tree6_30 : allSub (chkTree 6) [(1, 2), (1, 3), (1, 4), (1, 5), (2, 3), (2, 4), (2, 5), (3, 4), (3, 5), (4, 5)] 3 [(0, 3), (0, 5)] = true := by decide +kernel
set_option maxRecDepth 1000000 in
theorem tree6_31 : allSub (chkTree 6) [(1, 3), (1, 4), (1, 5), (2, 3), (2, 4), (2, 5), (3, 4), (3, 5), (4, 5)] 3 [(0, 3), (1, 2)] = true := by decide +kernel
set_option maxRecDepth 1000000 in
theorem tree6_32 : allSub (chkTree 6) [(1, 3), (1, 4), (1, 5), (2, 3), (2, 4), (2, 5), (3, 4), (3, 5), (4, 5)] 4 [(0, 3)] = true := by decide +kernel
theorem tree6_33 : allSub (chkTree 6) [(1, 2), (1, 3), (1, 4), (1, 5), (2, 3), (2, 4), (2, 5), (3, 4), (3, 5), (4, 5)] 4 [(0, 3)] = true := by
  rw [allSub_cons, Bool.and_eq_true]; exact ⟨tree6_31, tree6_32⟩
theorem tree6_34 : allSub (chkTree 6) [(0, 5), (1, 2), (1, 3), (1, 4), (1, 5), (2, 3), (2, 4), (2, 5), (3, 4), (3, 5), (4, 5)] 4 [(0, 3)] = true := by
  rw [allSub_cons, Bool.and_eq_true]; exact ⟨tree6_30, tree6_33⟩
theorem tree6_35 : allSub (chkTree 6) [(0, 4), (0, 5), (1, 2), (1, 3), (1, 4), (1, 5), (2, 3), (2, 4), (2, 5), (3, 4), (3, 5), (4, 5)] 4 [(0, 3)] = true := by
  rw [allSub_cons, Bool.and_eq_true]; exact ⟨tree6_29, tree6_34⟩
set_option maxRecDepth 1000000 in
theorem tree6_36 : allSub (chkTree 6) [(1, 2), (1, 3), (1, 4), (1, 5), (2, 3), (2, 4), (2, 5), (3, 4), (3, 5), (4, 5)] 3 [(0, 4), (0, 5)] = true := by decide +kernel
set_option maxRecDepth 1000000 in
theorem tree6_37 : allSub (chkTree 6) [(1, 3), (1, 4), (1, 5), (2, 3), (2, 4), (2, 5), (3, 4), (3, 5), (4, 5)] 3 [(0, 4), (1, 2)] = true := by decide +kernel
set_option maxRecDepth 1000000 in
theorem tree6_38 : allSub (chkTree 6) [(1, 3), (1, 4), (1, 5), (2, 3), (2, 4), (2, 5), (3, 4), (3, 5), (4, 5)] 4 [(0, 4)] = true := by decide +kernel
theorem tree6_39 : allSub (chkTree 6) [(1, 2), (1, 3), (1, 4), (1, 5), (2, 3), (2, 4), (2, 5), (3, 4), (3, 5), (4, 5)] 4 [(0, 4)] = true := by
  rw [allSub_cons, Bool.and_eq_true]; exact ⟨tree6_37, tree6_38⟩
theorem tree6_40 : allSub (chkTree 6) [(0, 5), (1, 2), (1, 3), (1, 4), (1, 5), (2, 3), (2, 4), (2, 5), (3, 4), (3, 5), (4, 5)] 4 [(0, 4)] = true := by
  rw [allSub_cons, Bool.and_eq_true]; exact ⟨tree6_36, tree6_39⟩
set_option maxRecDepth 1000000 in
theorem tree6_41 : allSub (chkTree 6) [(1, 3), (1, 4), (1, 5), (2, 3), (2, 4), (2, 5), (3, 4), (3, 5), (4, 5)] 3 [(0, 5), (1, 2)] = true := by decide +kernel
set_option maxRecDepth 1000000 in
theorem tree6_42 : allSub (chkTree 6) [(1, 3), (1, 4), (1, 5), (2, 3), (2, 4), (2, 5), (3, 4), (3, 5), (4, 5)] 4 [(0, 5)] = true := by decide +kernel
theorem tree6_43 : allSub (chkTree 6) [(1, 2), (1, 3), (1, 4), (1, 5), (2, 3), (2, 4), (2, 5), (3, 4), (3, 5), (4, 5)] 4 [(0, 5)] = true := by
  rw [allSub_cons, Bool.and_eq_true]; exact ⟨tree6_41, tree6_42⟩
set_option maxRecDepth 1000000 in
theorem tree6_44 : allSub (chkTree 6) [(1, 3), (1, 4), (1, 5), (2, 3), (2, 4), (2, 5), (3, 4), (3, 5), (4, 5)] 4 [(1, 2)] = true := by decide +kernel
set_option maxRecDepth 1000000 in
theorem tree6_45 : allSub (chkTree 6) [(1, 3), (1, 4), (1, 5), (2, 3), (2, 4), (2, 5), (3, 4), (3, 5), (4, 5)] 5 [] = true := by decide +kernel
theorem tree6_46 : allSub (chkTree 6) [(1, 2), (1, 3), (1, 4), (1, 5), (2, 3), (2, 4), (2, 5), (3, 4), (3, 5), (4, 5)] 5 [] = true := by
  rw [allSub_cons, Bool.and_eq_true]; exact ⟨tree6_44, tree6_45⟩
theorem tree6_47 : allSub (chkTree 6) [(0, 5), (1, 2), (1, 3), (1, 4), (1, 5), (2, 3), (2, 4), (2, 5), (3, 4), (3, 5), (4, 5)] 5 [] = true := by
  rw [allSub_cons, Bool.and_eq_true]; exact ⟨tree6_43, tree6_46⟩
theorem tree6_48 : allSub (chkTree 6) [(0, 4), (0, 5), (1, 2), (1, 3), (1, 4), (1, 5), (2, 3), (2, 4), (2, 5), (3, 4), (3, 5), (4, 5)] 5 [] = true := by
  rw [allSub_cons, Bool.and_eq_true]; exact ⟨tree6_40, tree6_47⟩
theorem tree6_49 : allSub (chkTree 6) [(0, 3), (0, 4), (0, 5), (1, 2), (1, 3), (1, 4), (1, 5), (2, 3), (2, 4), (2, 5), (3, 4), (3, 5), (4, 5)] 5 [] = true := by
  rw [allSub_cons, Bool.and_eq_true]; exact ⟨tree6_35, tree6_48⟩
theorem tree6_50 : allSub (chkTree 6) [(0, 2), (0, 3), (0, 4), (0, 5), (1, 2), (1, 3), (1, 4), (1, 5), (2, 3), (2, 4), (2, 5), (3, 4), (3, 5), (4, 5)] 5 [] = true := by
  rw [allSub_cons, Bool.and_eq_true]; exact ⟨tree6_28, tree6_49⟩
theorem tree6_51 : allSub (chkTree 6) [(0, 1), (0, 2), (0, 3), (0, 4), (0, 5), (1, 2), (1, 3), (1, 4), (1, 5), (2, 3), (2, 4), (2, 5), (3, 4), (3, 5), (4, 5)] 5 [] = true := by
  rw [allSub_cons, Bool.and_eq_true]; exact ⟨tree6_17, tree6_50⟩
theorem base6 : baseP 6 = [(0, 1), (0, 2), (0, 3), (0, 4), (0, 5), (1, 2), (1, 3), (1, 4), (1, 5), (2, 3), (2, 4), (2, 5), (3, 4), (3, 5), (4, 5)] := by decide +kernel
theorem tree_all6 : allSub (chkTree 6) (baseP 6) 5 [] = true := by rw [base6]; exact tree6_51
end Go.Proofs.YtimccjmphdkbjaaDoor
