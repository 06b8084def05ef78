/- The walk of the exact law of GridNet: the program's answer is the model's, in memory of its own. -/
import Derived.Test.YtgnjjiljipgbnabPoJ
import Derived.Test.YtgnjjiljipgbnabPoN
import Derived.Test.YtgnjjiljipgbnabGnA
import Derived.Test.YtgnjjiljipgbnabXA
set_option linter.unusedSimpArgs false
set_option linter.unusedVariables false
attribute [local go_sem ↓] Go.wp_at_zero Go.wp_at_succ
namespace Go.Proofs.Ytgnjjiljipgbnab
open Go.ChangeShapes Go.WideShapes Go.ChangeAt Go.RowKit

set_option maxRecDepth 100000 in
set_option maxHeartbeats 4000000 in
theorem grid_exact (r c : Int) (w : World) {N : Int} {L : List Wy} {tb : Bool} (ho : (gridNet r c = none ∧ N = 0 ∧ L = [] ∧ tb = false) ∨ (gridNet r c = some (N, L) ∧ tb = true)) (hcs : L.length ≤ 72) :
    Calls Try.prog 3 #[.int .i64 r, .int .i64 c] w fun e w' => e = .returned (.bool true) ∧ Below w.heap.size w w' := by
  have IOK : Hid (∀ (W : World), Calls Try.prog 5 #[.int .i64 r, .int .i64 c] W fun en w' => ∃ A1 c1 lo hi, en = .returned (.tuple #[.agg #[.int .i64 N, .slice A1 L.length c1], .bool tb]) ∧ RowF w' lo hi A1 (L.length * 3) (wyF L) ∧ W.heap.size ≤ lo ∧ Below W.heap.size W w') := fun W => (GridNet_any r c W).mono fun e w' h => newNet_any ho h
  have SOK : Hid (∀ (W : World), Calls Try.prog 4 #[.int .i64 r, .int .i64 c] W fun en w' => ∃ A1 c1 lo hi, en = .returned (.tuple #[.agg #[.int .i64 N, .slice A1 L.length c1], .bool tb]) ∧ RowF w' lo hi A1 (L.length * 3) (wyF L) ∧ W.heap.size ≤ lo ∧ Below W.heap.size W w') := fun W => (sGridNet_any r c W).mono fun e w' h => newNet_any ho h
  have hcm : L.length ≤ 1048576 := by omega
  clear ho
  go_enter Try.func3, Try.ntmps3
  go_wp2_with fail
  refine (SOK.out _).mono ?_; rintro e1 w1 ⟨T1, c1, lo1, hi1, rfl, ht1, hl1, hb1⟩
  have HB1 := Lib.hid hb1
  have t1 := ht1.top
  have hsw1 : w.heap.size ≤ w1.heap.size := hb1.size
  clear hb1
  have a10 : (w1.alloc (.cells #[.int .i64 N, .slice T1 L.length c1] 24)).cell? ⟨w1.heap.size, 0, none⟩ = some (.int .i64 N) := cell_of_row _ _ 0 _ _ (0, 0) (heap_alloc_new w1 _)
  have a11 : (w1.alloc (.cells #[.int .i64 N, .slice T1 L.length c1] 24)).cell? ⟨w1.heap.size, 1, none⟩ = some (.slice T1 L.length c1) := cell_of_row _ _ 1 _ _ (0, 0) (heap_alloc_new w1 _)
  have BA1 := Lib.hid ((Below.refl w1.heap.size w1).alloc (Nat.le_refl _) (.cells #[.int .i64 N, .slice T1 L.length c1] 24))
  have sz1 : (w1.alloc (.cells #[.int .i64 N, .slice T1 L.length c1] 24)).heap.size = w1.heap.size + 1 := by simp
  have HBa := Lib.hid (bstep (B := w.heap.size) (W := w) HB1.out HB1.out.size BA1.out)
  have R1 := Lib.hid (ht1.below BA1.out)
  clear ht1
  go_wp2_with fail
  refine (IOK.out _).mono ?_; rintro e2 w2 ⟨T2, c2, lo2, hi2, rfl, ht2, hl2, hb2⟩
  rw [sz1] at hl2
  have HB2 := Lib.hid (bstep (B := w.heap.size) (W := w) HBa.out (by have := HB1.out.size; omega) hb2)
  have t2 := ht2.top
  have R12 := Lib.hid (R1.out.below hb2)
  have z2 : w1.heap.size + 1 ≤ w2.heap.size := by have h9 := hb2.size; rw [sz1] at h9; exact h9
  have b20 := (hb2.cell (p := ⟨w1.heap.size, 0, none⟩) (by first | omega | (simp; omega) | simp)).trans a10
  have b21 := (hb2.cell (p := ⟨w1.heap.size, 1, none⟩) (by first | omega | (simp; omega) | simp)).trans a11
  clear hb2 a10 a11 R1
  have a20 : (w2.alloc (.cells #[.int .i64 N, .slice T2 L.length c2] 24)).cell? ⟨w2.heap.size, 0, none⟩ = some (.int .i64 N) := cell_of_row _ _ 0 _ _ (0, 0) (heap_alloc_new w2 _)
  have a21 : (w2.alloc (.cells #[.int .i64 N, .slice T2 L.length c2] 24)).cell? ⟨w2.heap.size, 1, none⟩ = some (.slice T2 L.length c2) := cell_of_row _ _ 1 _ _ (0, 0) (heap_alloc_new w2 _)
  have BA2 := Lib.hid ((Below.refl w2.heap.size w2).alloc (Nat.le_refl _) (.cells #[.int .i64 N, .slice T2 L.length c2] 24))
  have sz2 : (w2.alloc (.cells #[.int .i64 N, .slice T2 L.length c2] 24)).heap.size = w2.heap.size + 1 := by simp
  have HBb := Lib.hid (bstep (B := w.heap.size) (W := w) HB2.out HB2.out.size BA2.out)
  have R13 := Lib.hid (R12.out.below BA2.out)
  have R23 := Lib.hid (ht2.below BA2.out)
  have b30 := (BA2.out.cell (p := ⟨w1.heap.size, 0, none⟩) (by first | omega | (simp; omega) | simp)).trans b20
  have b31 := (BA2.out.cell (p := ⟨w1.heap.size, 1, none⟩) (by first | omega | (simp; omega) | simp)).trans b21
  clear ht2 R12 b20 b21
  cases tb <;>
  · skip
    go_wp2_with fail
    refine (eqNet_any N _ _ _ _ L _ R23.out.rw3 R13.out.rw3 hcm).mono ?_; rintro e3 w3 ⟨rfl, hb3⟩
    have HB3 := Lib.hid (bstep (B := w.heap.size) (W := w) HBb.out HBb.out.size hb3)
    have z3 : w2.heap.size + 1 ≤ w3.heap.size := by have h9 := hb3.size; rw [sz2] at h9; exact h9
    have c10 := (hb3.cell (p := ⟨w1.heap.size, 0, none⟩) (by first | omega | (simp; omega) | simp)).trans b30
    have c11 := (hb3.cell (p := ⟨w1.heap.size, 1, none⟩) (by first | omega | (simp; omega) | simp)).trans b31
    have c20 := (hb3.cell (p := ⟨w2.heap.size, 0, none⟩) (by first | omega | (simp; omega) | simp)).trans a20
    have c21 := (hb3.cell (p := ⟨w2.heap.size, 1, none⟩) (by first | omega | (simp; omega) | simp)).trans a21
    have S1 := Lib.hid (R13.out.below hb3)
    have S2 := Lib.hid (R23.out.below hb3)
    clear hb3 b30 b31 a20 a21 R13 R23
    go_wp2_with fail
    refine (markNetR_any N T2 c2 L.length _ 1 lo2 hi2 _ S2.out hcm (by decide) (by decide) (by omega)).mono ?_; rintro e4 w4 ⟨rfl, hr4, ho4⟩
    have HB4 := Lib.hid (Below.only_ HB3.out (by have := HB1.out.size; omega) (by omega) ho4)
    have z4 : w2.heap.size + 1 ≤ w4.heap.size := Nat.le_trans z3 ho4.size
    have d10 := (World.cell?_of_block (w := w3) (a := ⟨w1.heap.size, 0, none⟩) (ho4.block w1.heap.size (by omega) (by omega))).trans c10
    have d11 := (World.cell?_of_block (w := w3) (a := ⟨w1.heap.size, 1, none⟩) (ho4.block w1.heap.size (by omega) (by omega))).trans c11
    have d20 := (World.cell?_of_block (w := w3) (a := ⟨w2.heap.size, 0, none⟩) (ho4.block w2.heap.size (by omega) (by omega))).trans c20
    have d21 := (World.cell?_of_block (w := w3) (a := ⟨w2.heap.size, 1, none⟩) (ho4.block w2.heap.size (by omega) (by omega))).trans c21
    have U1 := Lib.hid (S1.out.only ho4 (.inl (by omega)))
    have U2 := Lib.hid hr4
    clear ho4 hr4 c10 c11 c20 c21 S1 S2
    obtain ⟨M, hM⟩ : ∃ M : Int, 1 + (L.length : Int) * 3 = M := ⟨_, rfl⟩
    have hM0 : ¬ M < 0 := by omega
    have hcon : ∀ W : World, RowF W lo2 hi2 T2 (L.length * 3) (fun j => 1 + (j : Int)) → Calls Try.prog 8 #[.agg #[.int .i64 N, .slice T2 L.length c2], .int .i64 1] W fun e w' => e = .returned (.int .i64 M) ∧ Below W.heap.size W w' := fun W h => by rw [← hM]; exact heldNetR_any N T2 c2 L.length 1 lo2 hi2 W h hcm (by decide) (by decide)
    have HCON := Lib.hid hcon
    rw [hM]
    clear hM hcon
    go_wp2_with fail
    refine (HCON.out _ U2.out).mono ?_; rintro e5 w5 ⟨rfl, hb5⟩
    have HB5 := Lib.hid (bstep (B := w.heap.size) (W := w) HB4.out HB4.out.size hb5)
    have z5 : w2.heap.size + 1 ≤ w5.heap.size := Nat.le_trans z4 hb5.size
    have f10 := (hb5.cell (p := ⟨w1.heap.size, 0, none⟩) (by first | omega | (simp; omega) | simp)).trans d10
    have f11 := (hb5.cell (p := ⟨w1.heap.size, 1, none⟩) (by first | omega | (simp; omega) | simp)).trans d11
    have f20 := (hb5.cell (p := ⟨w2.heap.size, 0, none⟩) (by first | omega | (simp; omega) | simp)).trans d20
    have f21 := (hb5.cell (p := ⟨w2.heap.size, 1, none⟩) (by first | omega | (simp; omega) | simp)).trans d21
    have V1 := Lib.hid (U1.out.below hb5)
    have V2 := Lib.hid (U2.out.below hb5)
    clear hb5 d10 d11 d20 d21 U1 U2
    go_wp2_with fail
    refine (IOK.out _).mono ?_; rintro e6 w6 ⟨T6, c6, lo6, hi6, rfl, ht6, hl6, hb6⟩
    have HB6 := Lib.hid (bstep (B := w.heap.size) (W := w) HB5.out HB5.out.size hb6)
    have z6 : w2.heap.size + 1 ≤ w6.heap.size := Nat.le_trans z5 hb6.size
    have g10 := (hb6.cell (p := ⟨w1.heap.size, 0, none⟩) (by first | omega | (simp; omega) | simp)).trans f10
    have g11 := (hb6.cell (p := ⟨w1.heap.size, 1, none⟩) (by first | omega | (simp; omega) | simp)).trans f11
    have g20 := (hb6.cell (p := ⟨w2.heap.size, 0, none⟩) (by first | omega | (simp; omega) | simp)).trans f20
    have g21 := (hb6.cell (p := ⟨w2.heap.size, 1, none⟩) (by first | omega | (simp; omega) | simp)).trans f21
    have X1 := Lib.hid (V1.out.below hb6)
    have X2 := Lib.hid (V2.out.below hb6)
    clear hb6 f10 f11 f20 f21 V1 V2
    have a60 : (w6.alloc (.cells #[.int .i64 N, .slice T6 L.length c6] 24)).cell? ⟨w6.heap.size, 0, none⟩ = some (.int .i64 N) := cell_of_row _ _ 0 _ _ (0, 0) (heap_alloc_new w6 _)
    have a61 : (w6.alloc (.cells #[.int .i64 N, .slice T6 L.length c6] 24)).cell? ⟨w6.heap.size, 1, none⟩ = some (.slice T6 L.length c6) := cell_of_row _ _ 1 _ _ (0, 0) (heap_alloc_new w6 _)
    have BA6 := Lib.hid ((Below.refl w6.heap.size w6).alloc (Nat.le_refl _) (.cells #[.int .i64 N, .slice T6 L.length c6] 24))
    have sz6 : (w6.alloc (.cells #[.int .i64 N, .slice T6 L.length c6] 24)).heap.size = w6.heap.size + 1 := by simp
    have HBc := Lib.hid (bstep (B := w.heap.size) (W := w) HB6.out HB6.out.size BA6.out)
    have Y1 := Lib.hid (X1.out.below BA6.out)
    have Y2 := Lib.hid (X2.out.below BA6.out)
    have Y6 := Lib.hid (ht6.below BA6.out)
    have h10 := (BA6.out.cell (p := ⟨w1.heap.size, 0, none⟩) (by first | omega | (simp; omega) | simp)).trans g10
    have h11 := (BA6.out.cell (p := ⟨w1.heap.size, 1, none⟩) (by first | omega | (simp; omega) | simp)).trans g11
    have h20 := (BA6.out.cell (p := ⟨w2.heap.size, 0, none⟩) (by first | omega | (simp; omega) | simp)).trans g20
    have h21 := (BA6.out.cell (p := ⟨w2.heap.size, 1, none⟩) (by first | omega | (simp; omega) | simp)).trans g21
    clear ht6 g10 g11 g20 g21 X1 X2
    go_wp2_with fail
    refine (eqNet_any N _ _ _ _ L _ Y6.out.rw3 Y1.out.rw3 hcm).mono ?_; rintro e7 w7 ⟨rfl, hb7⟩
    have HB7 := Lib.hid (bstep (B := w.heap.size) (W := w) HBc.out HBc.out.size hb7)
    have i20 := (hb7.cell (p := ⟨w2.heap.size, 0, none⟩) (by first | omega | (simp; omega) | simp)).trans h20
    have i21 := (hb7.cell (p := ⟨w2.heap.size, 1, none⟩) (by first | omega | (simp; omega) | simp)).trans h21
    have Z2 := Lib.hid (Y2.out.below hb7)
    clear hb7 h10 h11 h20 h21 a60 a61 Y1 Y2 Y6
    go_wp2_with fail
    refine (HCON.out _ Z2.out).mono ?_; rintro e8 w8 ⟨rfl, hb8⟩
    have HB8 := Lib.hid (bstep (B := w.heap.size) (W := w) HB7.out HB7.out.size hb8)
    clear hb8
    go_wp2_with fail
    go_ret
    exact ⟨rfl, HB8.out⟩
theorem FnExactGridNet_walk (r c : Int) (w : World) :
    Calls Try.prog 3 #[.int .i64 r, .int .i64 c] w fun e w' => e = .returned (.bool true) ∧ Below w.heap.size w w' := by
  rcases gridNet_len r c with h | ⟨N, L, h, hl⟩
  · exact grid_exact r c w (N := 0) (L := []) (tb := false) (.inl ⟨h, rfl, rfl, rfl⟩) (by simp)
  · exact grid_exact r c w (.inr ⟨h, rfl⟩) hl
end Go.Proofs.Ytgnjjiljipgbnab
