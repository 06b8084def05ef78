/- Walks of exact laws: the program's answer is the model's. -/
import Derived.Test.YtgnjjiljipgbnaaPoI
import Derived.Test.YtgnjjiljipgbnaaPoD
import Derived.Test.YtgnjjiljipgbnaaPoA
import Derived.Test.YtgnjjiljipgbnaaXA
set_option linter.unusedSimpArgs false
set_option linter.unusedVariables false
attribute [local go_sem ↓] Go.wp_at_zero Go.wp_at_succ
namespace Go.Proofs.Ytgnjjiljipgbnaa
open Go.ChangeShapes Go.WideShapes Go.ChangeAt Go.RowKit

set_option maxHeartbeats 4000000 in
theorem FnExactPointsOk_walk (Ac : Option Addr) (cc : Nat) (cs : List (Int × Int)) (w : World) (hcr : RC w w.heap.size Ac cs) (hclen : cs.length ≤ 9223372036854775807) :
    Calls Try.prog 9 #[.slice Ac cs.length cc] w fun e w' => e = .returned (.bool true) ∧ Below w.heap.size w w' := by
  have HC := Lib.hid hcr
  clear hcr
  by_cases hcm : (cs.length : Int) ≤ 1048576
  · have hcl : cs.length ≤ 1048576 := by omega
    go_enter Try.func9, Try.ntmps9
    obtain ⟨Z0, hZ0⟩ : ∃ Z, pointsOk cs = Z := ⟨_, rfl⟩
    have HZ0 := Lib.hid hZ0
    clear hZ0
    go_wp2_with fail
    refine (szPointS_any Ac cs.length cc 1048576 w hclen (by omega) (by omega)).mono ?_; rintro e0 w0 ⟨rfl, h0⟩; rw [if_pos hcm]; subst h0
    go_wp2_with fail
    refine (toPointS_any _ _ _ _ HC.out hcl).mono ?_; rintro e1 w1 ⟨b1, hbl1, hbh1, rfl, hrc1, hb1⟩
    have HB1 := Lib.hid hb1
    have hs1 : w.heap.size ≤ w1.heap.size := HB1.out.size
    clear hb1
    go_wp2_with fail
    refine (sPointsOk_any _ _ _ _ hrc1 (by omega)).mono ?_; rintro e2 w2 ⟨rfl, hb2⟩
    rw [HZ0.out]
    have HB2 := Lib.hid (bstep (B := w.heap.size) (W := w) HB1.out hs1 hb2)
    have hs2 : w.heap.size ≤ w2.heap.size := HB2.out.size
    clear hb2 hrc1 hbl1 hbh1
    go_wp2_with fail
    refine (toPointS_any _ _ _ _ (HC.out.later HB2.out) hcl).mono ?_; rintro e3 w3 ⟨b3, hbl3, hbh3, rfl, hrc3, hb3⟩
    have HB3 := Lib.hid (bstep (B := w.heap.size) (W := w) HB2.out hs2 hb3)
    have hs3 : w.heap.size ≤ w3.heap.size := HB3.out.size
    clear hb3
    go_wp2_with fail
    refine (PointsOk_any _ _ _ _ hrc3 (by omega)).mono ?_; rintro e4 w4 ⟨rfl, hb4⟩
    rw [HZ0.out]
    have HB4 := Lib.hid (bstep (B := w.heap.size) (W := w) HB3.out hs3 hb4)
    have hs4 : w.heap.size ≤ w4.heap.size := HB4.out.size
    have HX4 := Lib.hid (hrc3.later hb4)
    clear hb4 hrc3
    go_wp2_with fail
    refine (toPointS_any _ _ _ _ (HC.out.later HB4.out) hcl).mono ?_; rintro e5 w5 ⟨b5, hbl5, hbh5, rfl, hrc5, hb5⟩
    have HB5 := Lib.hid (bstep (B := w.heap.size) (W := w) HB4.out hs4 hb5)
    have hs5 : w.heap.size ≤ w5.heap.size := HB5.out.size
    have HX5 := Lib.hid (HX4.out.later hb5)
    clear hb5
    go_wp2_with fail
    refine (eqPointS_any _ _ _ _ _ _ HX5.out hrc5 hcl).mono ?_; rintro e6 w6 ⟨rfl, hb6⟩
    have HB6 := Lib.hid (bstep (B := w.heap.size) (W := w) HB5.out hs5 hb6)
    have hs6 : w.heap.size ≤ w6.heap.size := HB6.out.size
    clear hb6
    go_wp2_with fail
    go_ret
    exact ⟨rfl, HB6.out⟩
  · go_enter Try.func9, Try.ntmps9
    go_wp2_with fail
    refine (szPointS_any Ac cs.length cc 1048576 w hclen (by omega) (by omega)).mono ?_; rintro e0 w0 ⟨rfl, h0⟩; rw [if_neg (by omega)]; subst h0
    go_wp2_with fail
    go_ret
    exact ⟨rfl, Below.refl _ _⟩
set_option maxHeartbeats 4000000 in
theorem FnExactPointsFar_walk (Ac : Option Addr) (cc : Nat) (cs : List (Int × Int)) (a : Int) (b : Int) (w : World) (hcr : RC w w.heap.size Ac cs) (hclen : cs.length ≤ 9223372036854775807) :
    Calls Try.prog 10 #[.slice Ac cs.length cc, .int .i64 a, .int .i64 b] w fun e w' => e = .returned (.bool true) ∧ Below w.heap.size w w' := by
  have HC := Lib.hid hcr
  clear hcr
  by_cases hcm : (cs.length : Int) ≤ 1048576
  · have hcl : cs.length ≤ 1048576 := by omega
    go_enter Try.func10, Try.ntmps10
    obtain ⟨Z0, hZ0⟩ : ∃ Z, pointsFar cs a b = Z := ⟨_, rfl⟩
    have HZ0 := Lib.hid hZ0
    clear hZ0
    go_wp2_with fail
    refine (szPointS_any Ac cs.length cc 1048576 w hclen (by omega) (by omega)).mono ?_; rintro e0 w0 ⟨rfl, h0⟩; rw [if_pos hcm]; subst h0
    go_wp2_with fail
    refine (toPointS_any _ _ _ _ HC.out hcl).mono ?_; rintro e1 w1 ⟨b1, hbl1, hbh1, rfl, hrc1, hb1⟩
    have HB1 := Lib.hid hb1
    have hs1 : w.heap.size ≤ w1.heap.size := HB1.out.size
    clear hb1
    go_wp2_with fail
    refine (sPointsFar_any a b _ _ _ _ hrc1 (by omega)).mono ?_; rintro e2 w2 ⟨rfl, hb2⟩
    rw [HZ0.out]
    have HB2 := Lib.hid (bstep (B := w.heap.size) (W := w) HB1.out hs1 hb2)
    have hs2 : w.heap.size ≤ w2.heap.size := HB2.out.size
    clear hb2 hrc1 hbl1 hbh1
    go_wp2_with fail
    refine (toPointS_any _ _ _ _ (HC.out.later HB2.out) hcl).mono ?_; rintro e3 w3 ⟨b3, hbl3, hbh3, rfl, hrc3, hb3⟩
    have HB3 := Lib.hid (bstep (B := w.heap.size) (W := w) HB2.out hs2 hb3)
    have hs3 : w.heap.size ≤ w3.heap.size := HB3.out.size
    clear hb3
    go_wp2_with fail
    refine (PointsFar_any a b _ _ _ _ hrc3 (by omega)).mono ?_; rintro e4 w4 ⟨rfl, hb4⟩
    rw [HZ0.out]
    have HB4 := Lib.hid (bstep (B := w.heap.size) (W := w) HB3.out hs3 hb4)
    have hs4 : w.heap.size ≤ w4.heap.size := HB4.out.size
    have HX4 := Lib.hid (hrc3.later hb4)
    clear hb4 hrc3
    go_wp2_with fail
    refine (toPointS_any _ _ _ _ (HC.out.later HB4.out) hcl).mono ?_; rintro e5 w5 ⟨b5, hbl5, hbh5, rfl, hrc5, hb5⟩
    have HB5 := Lib.hid (bstep (B := w.heap.size) (W := w) HB4.out hs4 hb5)
    have hs5 : w.heap.size ≤ w5.heap.size := HB5.out.size
    have HX5 := Lib.hid (HX4.out.later hb5)
    clear hb5
    go_wp2_with fail
    refine (eqPointS_any _ _ _ _ _ _ HX5.out hrc5 hcl).mono ?_; rintro e6 w6 ⟨rfl, hb6⟩
    have HB6 := Lib.hid (bstep (B := w.heap.size) (W := w) HB5.out hs5 hb6)
    have hs6 : w.heap.size ≤ w6.heap.size := HB6.out.size
    clear hb6
    go_wp2_with fail
    go_ret
    exact ⟨rfl, HB6.out⟩
  · go_enter Try.func10, Try.ntmps10
    go_wp2_with fail
    refine (szPointS_any Ac cs.length cc 1048576 w hclen (by omega) (by omega)).mono ?_; rintro e0 w0 ⟨rfl, h0⟩; rw [if_neg (by omega)]; subst h0
    go_wp2_with fail
    go_ret
    exact ⟨rfl, Below.refl _ _⟩
set_option maxHeartbeats 4000000 in
theorem FnExactHalfRound_walk (Ac : Option Addr) (cc : Nat) (cs : List (Int × Int)) (w : World) (hcr : RC w w.heap.size Ac cs) (hclen : cs.length ≤ 9223372036854775807) :
    Calls Try.prog 11 #[.slice Ac cs.length cc] w fun e w' => e = .returned (.bool true) ∧ Below w.heap.size w w' := by
  have HC := Lib.hid hcr
  clear hcr
  by_cases hcm : (cs.length : Int) ≤ 1048576
  · have hcl : cs.length ≤ 1048576 := by omega
    go_enter Try.func11, Try.ntmps11
    obtain ⟨Z0, hZ0⟩ : ∃ Z, halfRound cs = Z := ⟨_, rfl⟩
    have HZ0 := Lib.hid hZ0
    clear hZ0
    go_wp2_with fail
    refine (szPointS_any Ac cs.length cc 1048576 w hclen (by omega) (by omega)).mono ?_; rintro e0 w0 ⟨rfl, h0⟩; rw [if_pos hcm]; subst h0
    go_wp2_with fail
    refine (toPointS_any _ _ _ _ HC.out hcl).mono ?_; rintro e1 w1 ⟨b1, hbl1, hbh1, rfl, hrc1, hb1⟩
    have HB1 := Lib.hid hb1
    have hs1 : w.heap.size ≤ w1.heap.size := HB1.out.size
    clear hb1
    go_wp2_with fail
    refine (sHalfRound_any _ _ _ _ hrc1 (by omega)).mono ?_; rintro e2 w2 ⟨rfl, hb2⟩
    rw [HZ0.out]
    have HB2 := Lib.hid (bstep (B := w.heap.size) (W := w) HB1.out hs1 hb2)
    have hs2 : w.heap.size ≤ w2.heap.size := HB2.out.size
    clear hb2 hrc1 hbl1 hbh1
    go_wp2_with fail
    refine (toPointS_any _ _ _ _ (HC.out.later HB2.out) hcl).mono ?_; rintro e3 w3 ⟨b3, hbl3, hbh3, rfl, hrc3, hb3⟩
    have HB3 := Lib.hid (bstep (B := w.heap.size) (W := w) HB2.out hs2 hb3)
    have hs3 : w.heap.size ≤ w3.heap.size := HB3.out.size
    clear hb3
    go_wp2_with fail
    refine (HalfRound_any _ _ _ _ hrc3 (by omega)).mono ?_; rintro e4 w4 ⟨rfl, hb4⟩
    rw [HZ0.out]
    have HB4 := Lib.hid (bstep (B := w.heap.size) (W := w) HB3.out hs3 hb4)
    have hs4 : w.heap.size ≤ w4.heap.size := HB4.out.size
    have HX4 := Lib.hid (hrc3.later hb4)
    clear hb4 hrc3
    go_wp2_with fail
    refine (toPointS_any _ _ _ _ (HC.out.later HB4.out) hcl).mono ?_; rintro e5 w5 ⟨b5, hbl5, hbh5, rfl, hrc5, hb5⟩
    have HB5 := Lib.hid (bstep (B := w.heap.size) (W := w) HB4.out hs4 hb5)
    have hs5 : w.heap.size ≤ w5.heap.size := HB5.out.size
    have HX5 := Lib.hid (HX4.out.later hb5)
    clear hb5
    go_wp2_with fail
    refine (eqPointS_any _ _ _ _ _ _ HX5.out hrc5 hcl).mono ?_; rintro e6 w6 ⟨rfl, hb6⟩
    have HB6 := Lib.hid (bstep (B := w.heap.size) (W := w) HB5.out hs5 hb6)
    have hs6 : w.heap.size ≤ w6.heap.size := HB6.out.size
    clear hb6
    go_wp2_with fail
    go_ret
    exact ⟨rfl, HB6.out⟩
  · go_enter Try.func11, Try.ntmps11
    go_wp2_with fail
    refine (szPointS_any Ac cs.length cc 1048576 w hclen (by omega) (by omega)).mono ?_; rintro e0 w0 ⟨rfl, h0⟩; rw [if_neg (by omega)]; subst h0
    go_wp2_with fail
    go_ret
    exact ⟨rfl, Below.refl _ _⟩
set_option maxHeartbeats 4000000 in
theorem FnExactMiddleOf_walk (Ac : Option Addr) (cc : Nat) (cs : List (Int × Int)) (w : World) (hcr : RC w w.heap.size Ac cs) (hclen : cs.length ≤ 9223372036854775807) :
    Calls Try.prog 12 #[.slice Ac cs.length cc] w fun e w' => e = .returned (.bool true) ∧ Below w.heap.size w w' := by
  have HC := Lib.hid hcr
  clear hcr
  by_cases hcm : (cs.length : Int) ≤ 1048576
  · have hcl : cs.length ≤ 1048576 := by omega
    have HMI : Hid (∀ (W : World) (Ap : Option Addr) (cp : Nat), RC W W.heap.size Ap cs → Calls Try.prog 25 #[.slice Ap cs.length cp] W fun e w' => e = .returned (.tuple #[.agg #[.int .i64 (middleOf cs).1, .int .i64 (middleOf cs).2], .bool (middleOk cs)]) ∧ Below W.heap.size W w') := fun W Ap cp h => MiddleOf_any Ap cp cs W h (by omega)
    have HMS : Hid (∀ (W : World) (Ap : Option Addr) (cp : Nat), RC W W.heap.size Ap cs → Calls Try.prog 26 #[.slice Ap cs.length cp] W fun e w' => e = .returned (.tuple #[.agg #[.int .i64 (middleOf cs).1, .int .i64 (middleOf cs).2], .bool (middleOk cs)]) ∧ Below W.heap.size W w') := fun W Ap cp h => sMiddleOf_any Ap cp cs W h (by omega)
    obtain ⟨m1, hm1⟩ : ∃ m, (middleOf cs).1 = m := ⟨_, rfl⟩
    obtain ⟨m2, hm2⟩ : ∃ m, (middleOf cs).2 = m := ⟨_, rfl⟩
    obtain ⟨O, hO⟩ : ∃ o, middleOk cs = o := ⟨_, rfl⟩
    rw [hm1, hm2, hO] at HMI HMS
    clear hm1 hm2 hO
    cases O <;>
    · skip
      go_enter Try.func12, Try.ntmps12
      go_wp2_with fail
      refine (szPointS_any Ac cs.length cc 1048576 w hclen (by omega) (by omega)).mono ?_; rintro e0 w0 ⟨rfl, h0⟩; rw [if_pos hcm]; subst h0
      go_wp2_with fail
      refine (toPointS_any _ _ _ _ HC.out hcl).mono ?_; rintro e1 w1 ⟨b1, hbl1, hbh1, rfl, hrc1, hb1⟩
      have HB1 := Lib.hid hb1
      have hs1 : w.heap.size ≤ w1.heap.size := HB1.out.size
      clear hb1
      go_wp2_with fail
      refine (HMS.out _ _ _ hrc1).mono ?_; rintro e2 w2 ⟨rfl, hb2⟩
      have HB2 := Lib.hid (bstep (B := w.heap.size) (W := w) HB1.out hs1 hb2)
      have hs2 : w.heap.size ≤ w2.heap.size := HB2.out.size
      clear hb2 hrc1 hbl1 hbh1
      have k20 : (w2.alloc (.cells #[.int .i64 m1, .int .i64 m2] 27)).cell? ⟨w2.heap.size, 0, none⟩ = some (.int .i64 m1) := cell_of_row _ _ 0 _ _ (0, 0) (heap_alloc_new w2 _)
      have k21 : (w2.alloc (.cells #[.int .i64 m1, .int .i64 m2] 27)).cell? ⟨w2.heap.size, 1, none⟩ = some (.int .i64 m2) := cell_of_row _ _ 1 _ _ (0, 0) (heap_alloc_new w2 _)
      have HBA := Lib.hid (HB2.out.alloc hs2 (.cells #[.int .i64 m1, .int .i64 m2] 27))
      have hsa : w.heap.size ≤ (w2.alloc (.cells #[.int .i64 m1, .int .i64 m2] 27)).heap.size := by simp; omega
      have hza : w2.heap.size < (w2.alloc (.cells #[.int .i64 m1, .int .i64 m2] 27)).heap.size := by simp
      go_wp2_with fail
      refine (toPointS_any _ _ _ _ (HC.out.later HBA.out) hcl).mono ?_; rintro e3 w3 ⟨b3, hbl3, hbh3, rfl, hrc3, hb3⟩
      have HB3 := Lib.hid (bstep (B := w.heap.size) (W := w) HBA.out hsa hb3)
      have hs3 : w.heap.size ≤ w3.heap.size := HB3.out.size
      have k30 := (hb3.cell (p := ⟨w2.heap.size, 0, none⟩) hza).trans k20
      have k31 := (hb3.cell (p := ⟨w2.heap.size, 1, none⟩) hza).trans k21
      have hz3 := Nat.lt_of_lt_of_le hza hb3.size
      clear hb3 k20 k21
      go_wp2_with fail
      refine (HMI.out _ _ _ hrc3).mono ?_; rintro e4 w4 ⟨rfl, hb4⟩
      have HB4 := Lib.hid (bstep (B := w.heap.size) (W := w) HB3.out hs3 hb4)
      have hs4 : w.heap.size ≤ w4.heap.size := HB4.out.size
      have HX4 := Lib.hid (hrc3.later hb4)
      have k40 := (hb4.cell (p := ⟨w2.heap.size, 0, none⟩) hz3).trans k30
      have k41 := (hb4.cell (p := ⟨w2.heap.size, 1, none⟩) hz3).trans k31
      have hz4 := Nat.lt_of_lt_of_le hz3 hb4.size
      clear hb4 hrc3 k30 k31
      have k50 := (World.cell?_alloc_lt w4 (.cells #[.int .i64 m1, .int .i64 m2] 27) ⟨w2.heap.size, 0, none⟩ hz4).trans k40
      have k51 := (World.cell?_alloc_lt w4 (.cells #[.int .i64 m1, .int .i64 m2] 27) ⟨w2.heap.size, 1, none⟩ hz4).trans k41
      have j50 : (w4.alloc (.cells #[.int .i64 m1, .int .i64 m2] 27)).cell? ⟨w4.heap.size, 0, none⟩ = some (.int .i64 m1) := cell_of_row _ _ 0 _ _ (0, 0) (heap_alloc_new w4 _)
      have j51 : (w4.alloc (.cells #[.int .i64 m1, .int .i64 m2] 27)).cell? ⟨w4.heap.size, 1, none⟩ = some (.int .i64 m2) := cell_of_row _ _ 1 _ _ (0, 0) (heap_alloc_new w4 _)
      have HBC := Lib.hid (HB4.out.alloc hs4 (.cells #[.int .i64 m1, .int .i64 m2] 27))
      have hsc : w.heap.size ≤ (w4.alloc (.cells #[.int .i64 m1, .int .i64 m2] 27)).heap.size := by simp; omega
      have HXC := Lib.hid (HX4.out.later ((Below.refl _ _).alloc (Nat.le_refl _) (.cells #[.int .i64 m1, .int .i64 m2] 27)))
      clear k40 k41
      go_wp2_with fail
      refine (eqPoint_any (m1, m2) _).mono ?_; rintro e5 w5 ⟨rfl, hb5⟩
      have HB5 := Lib.hid (bstep (B := w.heap.size) (W := w) HBC.out hsc hb5)
      have hs5 : w.heap.size ≤ w5.heap.size := HB5.out.size
      have HX5 := Lib.hid (HXC.out.later hb5)
      clear hb5 k50 k51 j50 j51
      go_wp2_with fail
      refine (toPointS_any _ _ _ _ (HC.out.later HB5.out) hcl).mono ?_; rintro e6 w6 ⟨b6, hbl6, hbh6, rfl, hrc6, hb6⟩
      have HB6 := Lib.hid (bstep (B := w.heap.size) (W := w) HB5.out hs5 hb6)
      have hs6 : w.heap.size ≤ w6.heap.size := HB6.out.size
      have HX6 := Lib.hid (HX5.out.later hb6)
      clear hb6
      go_wp2_with fail
      refine (eqPointS_any _ _ _ _ _ _ HX6.out hrc6 hcl).mono ?_; rintro e7 w7 ⟨rfl, hb7⟩
      have HB7 := Lib.hid (bstep (B := w.heap.size) (W := w) HB6.out hs6 hb7)
      have hs7 : w.heap.size ≤ w7.heap.size := HB7.out.size
      clear hb7
      go_wp2_with fail
      go_ret
      exact ⟨rfl, HB7.out⟩
  · go_enter Try.func12, Try.ntmps12
    go_wp2_with fail
    refine (szPointS_any Ac cs.length cc 1048576 w hclen (by omega) (by omega)).mono ?_; rintro e0 w0 ⟨rfl, h0⟩; rw [if_neg (by omega)]; subst h0
    go_wp2_with fail
    go_ret
    exact ⟨rfl, Below.refl _ _⟩
set_option maxHeartbeats 4000000 in
theorem FnExactMeetCost_walk (Ac : Option Addr) (cc : Nat) (cs : List (Int × Int)) (p1 p2 : Int) (w : World) (hcr : RC w w.heap.size Ac cs) (hclen : cs.length ≤ 9223372036854775807) :
    Calls Try.prog 13 #[.slice Ac cs.length cc, .agg #[.int .i64 p1, .int .i64 p2]] w fun e w' => e = .returned (.bool true) ∧ Below w.heap.size w w' := by
  have HC := Lib.hid hcr
  clear hcr
  by_cases hcm : (cs.length : Int) ≤ 1048576
  · have hcl : cs.length ≤ 1048576 := by omega
    go_enter Try.func13, Try.ntmps13
    obtain ⟨Z0, hZ0⟩ : ∃ Z, meetCost cs (p1, p2) = Z := ⟨_, rfl⟩
    have HZ0 := Lib.hid hZ0
    clear hZ0
    go_wp2_with fail
    have k00 : (w.alloc (.cells #[.int .i64 p1, .int .i64 p2] 46)).cell? ⟨w.heap.size, 0, none⟩ = some (.int .i64 p1) := cell_of_row _ _ 0 _ _ (0, 0) (heap_alloc_new w _)
    have k01 : (w.alloc (.cells #[.int .i64 p1, .int .i64 p2] 46)).cell? ⟨w.heap.size, 1, none⟩ = some (.int .i64 p2) := cell_of_row _ _ 1 _ _ (0, 0) (heap_alloc_new w _)
    have HB0 : Hid (Below w.heap.size w (w.alloc (.cells #[.int .i64 p1, .int .i64 p2] 46))) := (Below.refl _ _).alloc (Nat.le_refl _) _
    have hz0 : w.heap.size < (w.alloc (.cells #[.int .i64 p1, .int .i64 p2] 46)).heap.size := by simp
    have HC0 := Lib.hid (HC.out.later HB0.out)
    generalize w.alloc (.cells #[.int .i64 p1, .int .i64 p2] 46) = w0 at k00 k01 hz0 HB0 HC0 ⊢
    refine (szPointS_any Ac cs.length cc 1048576 w0 hclen (by omega) (by omega)).mono ?_; rintro e9 w9 ⟨rfl, h9⟩; rw [if_pos hcm]; subst h9
    go_wp2_with fail
    refine wp_region_held_drew (S := (fun w' => w'.cell? ⟨w.heap.size, 0, none⟩ = some (.int .i64 p1) ∧ w'.cell? ⟨w.heap.size, 1, none⟩ = some (.int .i64 p2))) (by kernel_rfl) ?_ (fun hHeld => ?_)
    · exact ⟨k00, k01⟩
    refine wpAnyH_take (i := 0) (v := ?_) rfl (by kernel_rfl) (by kernel_rfl) (by kernel_rfl) (fun _ _ _ h => h) (Or.inl ⟨by rfl, ?_⟩) (by assumption) ?_
    rotate_left
    · (intro w hSw; (try dsimp only at hSw); (try simp only [List.getElem_toArray, List.getElem_cons_succ, List.getElem_cons_zero]); first | (go_simp; done) | (go_simp; with_reducible rfl))
    try simp only [Act.put, List.getElem_toArray, List.getElem_cons_succ, List.getElem_cons_zero, List.setIfInBounds_toArray, List.set_cons_zero, List.set_cons_succ]
    refine wpAnyH_take (i := 2) (v := ?_) rfl (by kernel_rfl) (by kernel_rfl) (by kernel_rfl) (fun _ _ _ h => h) (Or.inl ⟨by rfl, ?_⟩) (by assumption) ?_
    rotate_left
    · (intro w hSw; (try dsimp only at hSw); (try simp only [List.getElem_toArray, List.getElem_cons_succ, List.getElem_cons_zero]); first | (go_simp; done) | (go_simp; with_reducible rfl))
    try simp only [Act.put, List.getElem_toArray, List.getElem_cons_succ, List.getElem_cons_zero, List.setIfInBounds_toArray, List.set_cons_zero, List.set_cons_succ]
    refine wpAnyH_ready (rs := [1]) (by kernel_rfl) (by simp) ?_
    refine AllReadyH.cons rfl (fun K hK => ?_) AllReadyH.nil
    try simp only [List.getElem_toArray, List.getElem_cons_succ, List.getElem_cons_zero]
    go_simp
    go_at_call 31; refine (toPointS_any _ _ _ _ (HC0.out.drewNR _) hcl).mono ?_; rintro e11 w11 ⟨b11, hbl11, hbh11, rfl, hrc11, hb11⟩; have g11 : Below w0.heap.size w0 w11 := und hb11; have k11 := keep2 g11 ⟨k00, k01⟩ hz0; have z11 := Nat.lt_of_lt_of_le hz0 g11.size
    refine hK.out _ _ ?_ (fun hHeld => ?_)
    · exact k11
    clear hK K
    try simp only [Act.put, List.getElem_toArray, List.getElem_cons_succ, List.getElem_cons_zero, List.setIfInBounds_toArray, List.set_cons_zero, List.set_cons_succ]
    refine wpAnyH_ready (rs := [3]) (by kernel_rfl) (by simp) ?_
    refine AllReadyH.cons rfl (fun K hK => ?_) AllReadyH.nil
    try simp only [List.getElem_toArray, List.getElem_cons_succ, List.getElem_cons_zero]
    go_simp
    go_at_call 34; refine (toPoint_any (p1, p2) w11).mono ?_; rintro e12 w12 ⟨rfl, hb12⟩; have g12 : Below w0.heap.size w0 w12 := bstep g11 g11.size hb12; have k12 := keep2 hb12 k11 z11; have z12 := Nat.lt_of_lt_of_le z11 hb12.size; have r12 := hrc11.later hb12
    refine hK.out _ _ ?_ (fun hHeld => ?_)
    · exact k12
    clear hK K
    try simp only [Act.put, List.getElem_toArray, List.getElem_cons_succ, List.getElem_cons_zero, List.setIfInBounds_toArray, List.set_cons_zero, List.set_cons_succ]
    refine wpAnyH_ready (rs := [4]) (by kernel_rfl) (by simp) ?_
    refine AllReadyH.cons rfl (fun K hK => ?_) AllReadyH.nil
    try simp only [List.getElem_toArray, List.getElem_cons_succ, List.getElem_cons_zero]
    go_simp
    go_at_call 29; refine (sMeetCost_any p1 p2 _ _ _ w12 r12 (by omega)).mono ?_; rintro e13 w13 ⟨rfl, hb13⟩; rw [HZ0.out]; have g13 : Below w0.heap.size w0 w13 := bstep g12 g12.size hb13; have k13 := keep2 hb13 k12 z12
    refine hK.out _ _ ?_ (fun hHeld => ?_)
    · exact k13
    clear hK K
    try simp only [Act.put, List.getElem_toArray, List.getElem_cons_succ, List.getElem_cons_zero, List.setIfInBounds_toArray, List.set_cons_zero, List.set_cons_succ]
    refine wpAnyH_take (i := 5) (v := ?_) rfl (by kernel_rfl) (by kernel_rfl) (by kernel_rfl) (fun _ _ _ h => h) (Or.inl ⟨by rfl, ?_⟩) (by assumption) ?_
    rotate_left
    · (intro w hSw; (try dsimp only at hSw); (try simp only [List.getElem_toArray, List.getElem_cons_succ, List.getElem_cons_zero]); first | (go_simp; done) | (go_simp; with_reducible rfl))
    try simp only [Act.put, List.getElem_toArray, List.getElem_cons_succ, List.getElem_cons_zero, List.setIfInBounds_toArray, List.set_cons_zero, List.set_cons_succ]
    refine wpAnyH_done (by kernel_rfl) ?_ _
    have HB13 := Lib.hid (bstep (B := w.heap.size) (W := w) HB0.out (Nat.le_of_lt hz0) g13)
    have z13 := Nat.lt_of_lt_of_le hz0 g13.size
    clear k00 k01 HC0 k11 k12 g11 g12 g13 hb11 hb12 hb13 r12 hrc11 hbl11 hbh11
    go_wp2_with fail
    refine (toPointS_any _ _ _ _ (HC.out.later HB13.out) hcl).mono ?_; rintro e14 w14 ⟨b14, hbl14, hbh14, rfl, hrc14, hb14⟩
    have HB14 := Lib.hid (bstep (B := w.heap.size) (W := w) HB13.out (Nat.le_of_lt z13) hb14)
    have k14 := keep2 hb14 k13 z13
    have z14 := Nat.lt_of_lt_of_le z13 hb14.size
    clear hb14 k13 z13
    obtain ⟨x0, x1⟩ := k14
    go_wp2_with fail
    have k14 : _ ∧ _ := ⟨x0, x1⟩
    refine (toPoint_any (p1, p2) _).mono ?_; rintro e15 w15 ⟨rfl, hb15⟩
    have HB15 := Lib.hid (bstep (B := w.heap.size) (W := w) HB14.out (Nat.le_of_lt z14) hb15)
    have k15 := keep2 hb15 k14 z14
    have z15 := Nat.lt_of_lt_of_le z14 hb15.size
    have HX15 := Lib.hid (hrc14.later hb15)
    clear hb15 hrc14
    go_wp2_with fail
    refine (MeetCost_any p1 p2 _ _ _ _ HX15.out (by omega)).mono ?_; rintro e16 w16 ⟨rfl, hb16⟩
    have HB16 := Lib.hid (bstep (B := w.heap.size) (W := w) HB15.out (Nat.le_of_lt z15) hb16)
    have k16 := keep2 hb16 k15 z15
    have z16 := Nat.lt_of_lt_of_le z15 hb16.size
    rw [HZ0.out]
    have HX16 := Lib.hid (HX15.out.later hb16)
    clear hb16
    go_wp2_with fail
    refine (toPointS_any _ _ _ _ (HC.out.later HB16.out) hcl).mono ?_; rintro e17 w17 ⟨b17, hbl17, hbh17, rfl, hrc17, hb17⟩
    have HB17 := Lib.hid (bstep (B := w.heap.size) (W := w) HB16.out (Nat.le_of_lt z16) hb17)
    have k17 := keep2 hb17 k16 z16
    have z17 := Nat.lt_of_lt_of_le z16 hb17.size
    have HX17 := Lib.hid (HX16.out.later hb17)
    clear hb17
    go_wp2_with fail
    refine (eqPointS_any _ _ _ _ _ _ HX17.out hrc17 hcl).mono ?_; rintro e18 w18 ⟨rfl, hb18⟩
    have HB18 := Lib.hid (bstep (B := w.heap.size) (W := w) HB17.out (Nat.le_of_lt z17) hb18)
    have k18 := keep2 hb18 k17 z17
    have z18 := Nat.lt_of_lt_of_le z17 hb18.size
    clear hb18
    go_wp2_with fail
    go_ret
    exact ⟨rfl, HB18.out⟩
  · go_enter Try.func13, Try.ntmps13
    obtain ⟨Z0, hZ0⟩ : ∃ Z, meetCost cs (p1, p2) = Z := ⟨_, rfl⟩
    have HZ0 := Lib.hid hZ0
    clear hZ0
    go_wp2_with fail
    have k00 : (w.alloc (.cells #[.int .i64 p1, .int .i64 p2] 46)).cell? ⟨w.heap.size, 0, none⟩ = some (.int .i64 p1) := cell_of_row _ _ 0 _ _ (0, 0) (heap_alloc_new w _)
    have k01 : (w.alloc (.cells #[.int .i64 p1, .int .i64 p2] 46)).cell? ⟨w.heap.size, 1, none⟩ = some (.int .i64 p2) := cell_of_row _ _ 1 _ _ (0, 0) (heap_alloc_new w _)
    have HB0 : Hid (Below w.heap.size w (w.alloc (.cells #[.int .i64 p1, .int .i64 p2] 46))) := (Below.refl _ _).alloc (Nat.le_refl _) _
    have hz0 : w.heap.size < (w.alloc (.cells #[.int .i64 p1, .int .i64 p2] 46)).heap.size := by simp
    have HC0 := Lib.hid (HC.out.later HB0.out)
    generalize w.alloc (.cells #[.int .i64 p1, .int .i64 p2] 46) = w0 at k00 k01 hz0 HB0 HC0 ⊢
    refine (szPointS_any Ac cs.length cc 1048576 w0 hclen (by omega) (by omega)).mono ?_; rintro e9 w9 ⟨rfl, h9⟩; rw [if_neg (by omega)]; subst h9
    go_wp2_with fail
    go_ret
    exact ⟨rfl, HB0.out⟩
end Go.Proofs.Ytgnjjiljipgbnaa
