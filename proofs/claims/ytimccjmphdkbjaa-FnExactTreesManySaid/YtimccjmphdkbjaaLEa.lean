/- Walks of exact laws: the program's answer is the model's. -/
import Derived.Test.YtimccjmphdkbjaaPcI
import Derived.Test.YtimccjmphdkbjaaPdB
import Derived.Test.YtimccjmphdkbjaaCpA
import Derived.Test.YtimccjmphdkbjaaXA
set_option linter.unusedSimpArgs false
set_option linter.unusedVariables false
attribute [local go_sem ↓] Go.wp_at_zero Go.wp_at_succ
namespace Go.Proofs.Ytimccjmphdkbjaa
open Go.ChangeShapes Go.WideShapes Go.ChangeAt Go.RowKit

set_option maxHeartbeats 4000000 in
theorem FnExactCodeOk_walk (n : Int) (Ar : Option Addr) (cr : Nat) (c : List Int) (w : World) (hi : RI w w.heap.size Ar c) (hclen : c.length ≤ 9223372036854775807) :
    Calls Try.prog 5 #[.int .i64 n, .slice Ar c.length cr] w fun e w' => e = .returned (.bool true) ∧ Below w.heap.size w w' := by
  have HI := Lib.hid hi
  clear hi
  by_cases hcl : c.length ≤ 1048576
  · have hci : ¬ (1048576 : Int) < (c.length : Int) := by omega
    obtain ⟨Z, hZ⟩ : ∃ Z, codeOk n c = Z := ⟨_, rfl⟩
    have HZ := Lib.hid hZ
    clear hZ
    cases Z
    all_goals
      go_enter Try.func5, Try.ntmps5
      go_wp2_with fail
      refine (toIntS_any _ _ _ _ HI.out hcl).mono ?_; rintro e1 w1 ⟨b1, hbl1, rfl, hrf1, hb1⟩
      have HB1 := Lib.hid (bstep (B := w.heap.size) (W := w) (Below.refl _ _) (Nat.le_refl _) hb1)
      have hs1 : w.heap.size ≤ w1.heap.size := HB1.out.size
      clear hb1
      go_wp2_with fail
      refine (sCodeOk_any n _ _ c _ hrf1.ri (by omega)).mono ?_; rintro e2 w2 ⟨rfl, rfl⟩; rw [HZ.out]
      clear hrf1 hbl1
      go_wp2_with fail
      refine (toIntS_any _ _ _ _ (HI.out.later HB1.out) hcl).mono ?_; rintro e3 w3 ⟨b3, hbl3, rfl, hrf3, hb3⟩
      have HB3 := Lib.hid (bstep (B := w.heap.size) (W := w) HB1.out hs1 hb3)
      have hs3 : w.heap.size ≤ w3.heap.size := HB3.out.size
      clear hb3
      go_wp2_with fail
      refine (CodeOk_any n _ _ c _ hrf3.ri (by omega)).mono ?_; rintro e4 w4 ⟨rfl, hb4⟩
      rw [HZ.out]
      have HB4 := Lib.hid (bstep (B := w.heap.size) (W := w) HB3.out hs3 hb4)
      have hs4 : w.heap.size ≤ w4.heap.size := HB4.out.size
      have HX4 := Lib.hid (RowF.below hrf3 hb4)
      clear hb4 hrf3
      go_wp2_with fail
      refine (toIntS_any _ _ _ _ (HI.out.later HB4.out) hcl).mono ?_; rintro e5 w5 ⟨b5, hbl5, rfl, hrf5, hb5⟩
      have HB5 := Lib.hid (bstep (B := w.heap.size) (W := w) HB4.out hs4 hb5)
      have hs5 : w.heap.size ≤ w5.heap.size := HB5.out.size
      have HX5 := Lib.hid (RowF.below HX4.out hb5)
      clear hb5
      go_wp2_with fail
      refine (eqIntS_any _ _ _ _ _ _ _ _ _ _ _ HX5.out hrf5 hcl).mono ?_; rintro e6 w6 ⟨rfl, hb6⟩
      have HB6 := Lib.hid (bstep (B := w.heap.size) (W := w) HB5.out hs5 hb6)
      have hs6 : w.heap.size ≤ w6.heap.size := HB6.out.size
      clear hb6
      go_wp2_with fail
      go_ret
      exact ⟨rfl, HB6.out⟩
  · have hci : (1048576 : Int) < (c.length : Int) := by omega
    go_enter Try.func5, Try.ntmps5
    go_wp2_with fail
    go_ret
    exact ⟨rfl, Below.refl _ _⟩
set_option maxHeartbeats 1000000 in
theorem FnExactTreesMany_walk (n : Int) (w : World) :
    Calls Try.prog 7 #[.int .i64 n] w fun e w' => e = .returned (.bool true) ∧ Below w.heap.size w w' := by
  obtain ⟨Z, hZ⟩ : ∃ Z, treesMany n = Z := ⟨_, rfl⟩
  have HZ := Lib.hid hZ
  clear hZ
  go_enter Try.func7, Try.ntmps7
  go_wp2_with fail
  refine (sTreesMany_any n _).mono ?_; rintro e1 w1 ⟨rfl, rfl⟩; rw [HZ.out]
  go_wp2_with fail
  refine (TreesMany_any n _).mono ?_; rintro e2 w2 ⟨rfl, hb2⟩; rw [HZ.out]
  have HB2 := Lib.hid hb2
  clear hb2
  go_wp2_with fail
  go_ret
  exact ⟨rfl, HB2.out⟩
end Go.Proofs.Ytimccjmphdkbjaa
