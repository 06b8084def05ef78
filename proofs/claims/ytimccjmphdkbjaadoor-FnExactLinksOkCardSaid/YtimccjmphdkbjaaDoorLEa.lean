/- Walks of exact laws: the program's answer is the model's. -/
import Derived.Test.YtimccjmphdkbjaaDoorPcI
import Derived.Test.YtimccjmphdkbjaaDoorPdB
import Derived.Test.YtimccjmphdkbjaaDoorCpA
import Derived.Test.YtimccjmphdkbjaaDoorXA
set_option linter.unusedSimpArgs false
set_option linter.unusedVariables false
attribute [local go_sem ↓] Go.wp_at_zero Go.wp_at_succ
namespace Go.Proofs.YtimccjmphdkbjaaDoor
open Go.ChangeShapes Go.WideShapes Go.ChangeAt Go.RowKit

set_option maxHeartbeats 4000000 in
theorem FnExactLinksOk_walk (n : Int) (Ac : Option Addr) (cc : Nat) (cs : List (Int × Int)) (w : World) (hcr : RC w w.heap.size Ac cs) (hclen : cs.length ≤ 9223372036854775807) (hT : Tab w) :
    Calls Tryd.prog 7 #[.int .i64 n, .slice Ac cs.length cc] w fun e w' => e = .returned (.bool true) ∧ Below w.heap.size w w' := by
  have HC := Lib.hid hcr
  have HT := Lib.hid hT
  clear hcr
  by_cases hcm : (cs.length : Int) ≤ 1048576
  · have hcl : cs.length ≤ 1048576 := by omega
    obtain ⟨Z, hZ⟩ : ∃ Z, linksOk n cs = Z := ⟨_, rfl⟩
    have HZ := Lib.hid hZ
    clear hZ
    cases Z
    all_goals
      go_enter Tryd.func7, Tryd.ntmps7
      go_wp2_with fail
      refine (szPairS_any Ac cs.length cc 1048576 w hclen (by omega) (by omega)).mono ?_; rintro e0 w0 ⟨rfl, h0⟩; rw [if_pos hcm]; subst h0
      go_wp2_with fail
      refine (toPairS_any _ _ _ _ HC.out hcl).mono ?_; rintro e1 w1 ⟨b1, hbl1, hbh1, rfl, hrc1, hb1⟩
      have HB1 := Lib.hid (bstep (B := w.heap.size) (W := w) (Below.refl _ _) (Nat.le_refl _) hb1)
      have hs1 : w.heap.size ≤ w1.heap.size := HB1.out.size
      clear hb1
      go_wp2_with fail
      refine (sLinksOk_any n _ _ _ _ hrc1 (by omega)).mono ?_; rintro e2 w2 ⟨rfl, hb2⟩
      rw [HZ.out]
      have HB2 := Lib.hid (bstep (B := w.heap.size) (W := w) HB1.out hs1 hb2)
      have hs2 : w.heap.size ≤ w2.heap.size := HB2.out.size
      clear hb2 hrc1 hbl1 hbh1
      go_wp2_with fail
      refine (toPairS_any _ _ _ _ (HC.out.later HB2.out) hcl).mono ?_; rintro e3 w3 ⟨b3, hbl3, hbh3, rfl, hrc3, hb3⟩
      have HB3 := Lib.hid (bstep (B := w.heap.size) (W := w) HB2.out hs2 hb3)
      have hs3 : w.heap.size ≤ w3.heap.size := HB3.out.size
      clear hb3
      go_wp2_with fail
      refine (LinksOk_any n _ _ _ _ (HT.out.later HB3.out) hrc3 (by omega)).mono ?_; rintro e4 w4 ⟨rfl, hb4⟩
      rw [HZ.out]
      have HB4 := Lib.hid (bstep (B := w.heap.size) (W := w) HB3.out hs3 hb4)
      have hs4 : w.heap.size ≤ w4.heap.size := HB4.out.size
      have HX4 := Lib.hid (hrc3.later hb4)
      clear hb4 hrc3
      go_wp2_with fail
      refine (toPairS_any _ _ _ _ (HC.out.later HB4.out) hcl).mono ?_; rintro e5 w5 ⟨b5, hbl5, hbh5, rfl, hrc5, hb5⟩
      have HB5 := Lib.hid (bstep (B := w.heap.size) (W := w) HB4.out hs4 hb5)
      have hs5 : w.heap.size ≤ w5.heap.size := HB5.out.size
      have HX5 := Lib.hid (HX4.out.later hb5)
      clear hb5
      go_wp2_with fail
      refine (eqPairS_any _ _ _ _ _ _ HX5.out hrc5 hcl).mono ?_; rintro e6 w6 ⟨rfl, hb6⟩
      have HB6 := Lib.hid (bstep (B := w.heap.size) (W := w) HB5.out hs5 hb6)
      have hs6 : w.heap.size ≤ w6.heap.size := HB6.out.size
      clear hb6
      go_wp2_with fail
      go_ret
      exact ⟨rfl, HB6.out⟩
  · go_enter Tryd.func7, Tryd.ntmps7
    go_wp2_with fail
    refine (szPairS_any Ac cs.length cc 1048576 w hclen (by omega) (by omega)).mono ?_; rintro e0 w0 ⟨rfl, h0⟩; rw [if_neg (by omega)]; subst h0
    go_wp2_with fail
    go_ret
    exact ⟨rfl, Below.refl _ _⟩
end Go.Proofs.YtimccjmphdkbjaaDoor
