/- The law of GridNet: on a grid roots of three ends go half round. -/
import Derived.Test.YtgnjjiljipgbnaaDoorPoI
import Derived.Test.YtgnjjiljipgbnaaDoorPoJ
import Derived.Test.YtgnjjiljipgbnaaDoorPoN
import Derived.Test.YtgnjjiljipgbnaaDoorPoG
import Derived.Test.YtgnjjiljipgbnaaDoorWSc
import Derived.Test.YtgnjjiljipgbnaaDoorCuA
import Derived.Test.YtgnjjiljipgbnaaDoorTc
import Derived.Test.YtgnjjiljipgbnaaDoorMG
import Derived.Test.YtgnjjiljipgbnaaDoorST
import Derived.Test.YtgnjjiljipgbnaaDoorMC
set_option linter.unusedSimpArgs false
set_option linter.unusedVariables false
attribute [local go_sem ↓] Go.wp_at_zero Go.wp_at_succ
namespace Go.Proofs.YtgnjjiljipgbnaaDoor
open Go.ChangeShapes Go.WideShapes Go.ChangeAt Go.RowKit

theorem gPts_len (C n : Nat) : (gPts C n).length = n := by unfold gPts; simp
theorem gPts_at {C n k : Nat} (h : k < n) : (gPts C n)[k]? = some (gPt C k) := by unfold gPts; simp [h]
theorem gPts_take {C n k : Nat} (h : k < n) : (gPts C n).take (k + 1) = (gPts C n).take k ++ [gPt C k] := by
  rw [List.take_add_one, gPts_at h]; rfl
theorem gOk_of {R C : Nat} (h : gridOk (R : Int) (C : Int) = true) : gOk R C = true ∧ R < 7 ∧ C < 7 ∧ 1 ≤ C := by
  unfold gridOk at h
  simp only [Bool.and_eq_true] at h
  obtain ⟨h1, h2, h3⟩ := h
  have h1 := inB_t h1
  have h2 := inB_t h2
  have h3 := inB_t h3
  have e : ((R * C : Nat) : Int) = (R : Int) * (C : Int) := by simp
  unfold gOk
  simp only [Bool.and_eq_true, decide_eq_true_eq]
  omega
theorem noPointsL (W : World) : (Instr.buildSlice 33 0 #[]).run Tryd.prog W = .ok (.slice (some ⟨W.heap.size, 0, none⟩) 0 0) (W.alloc (.cells #[] 35)) := by kernel_rfl
theorem infoPointL : (Tryd.prog.info? 35).map (fun i => (i.zero, i.size, i.bytes)) = some (some (.agg #[.int .i64 0, .int .i64 0]), 2, 16) := by kernel_rfl
theorem rc_three (W : World) (a0 a1 b0 b1 c0 c1 : Int) : RC (W.alloc (.cells #[.int .i64 a0, .int .i64 a1, .int .i64 b0, .int .i64 b1, .int .i64 c0, .int .i64 c1] 35)) (W.alloc (.cells #[.int .i64 a0, .int .i64 a1, .int .i64 b0, .int .i64 b1, .int .i64 c0, .int .i64 c1] 35)).heap.size (some ⟨W.heap.size, 0, none⟩) [(a0, a1), (b0, b1), (c0, c1)] := by
  intro i x hx
  have h := heap_alloc_new W (.cells #[.int .i64 a0, .int .i64 a1, .int .i64 b0, .int .i64 b1, .int .i64 c0, .int .i64 c1] 35)
  match i, hx with
  | 0, hx =>
    have hx' : (a0, a1) = x := by simpa using hx
    subst hx'
    exact ⟨W.heap.size, 0, rfl, by simp, cell_of_row _ _ 0 _ _ (0, 0) h, cell_of_row _ _ 1 _ _ (0, 0) h⟩
  | 1, hx =>
    have hx' : (b0, b1) = x := by simpa using hx
    subst hx'
    exact ⟨W.heap.size, 0, rfl, by simp, cell_of_row _ _ 2 _ _ (0, 0) h, cell_of_row _ _ 3 _ _ (0, 0) h⟩
  | 2, hx =>
    have hx' : (c0, c1) = x := by simpa using hx
    subst hx'
    exact ⟨W.heap.size, 0, rfl, by simp, cell_of_row _ _ 4 _ _ (0, 0) h, cell_of_row _ _ 5 _ _ (0, 0) h⟩
  | i + 3, hx => simp at hx
theorem far_pts {ps : List (Int × Int)} {i j : Nat} (h : pointsOk ps = true) (hi : i < ps.length) (hj : j < ps.length) : pointsFar ps i j = apart (ptAt ps i) (ptAt ps j) := by
  have e1 : inB (i : Int) 0 ((ps.length : Int) - 1) = true := by unfold inB; simp; omega
  have e2 : inB (j : Int) 0 ((ps.length : Int) - 1) = true := by unfold inB; simp; omega
  unfold pointsFar
  rw [h, e1, e2]
  exact (if_pos rfl).trans rfl
set_option maxRecDepth 100000 in
set_option maxHeartbeats 2000000 in
theorem FnGridNet_walk (A : Option Addr) (len cap : Nat) (w : World) (hr : RB w w.heap.size A len) (hc : len ≤ cap) (hlen : len ≤ 9223372036854775807) (hT : Tab w) :
    Calls Tryd.prog 3 #[.slice A len cap] w fun e w' => e = .returned (.bool true) ∧ Below w.heap.size w w' := by
  have HR := Lib.hid hr
  have HT := Lib.hid hT
  clear hT
  clear hr
  by_cases hm : 1048576 < len
  · go_enter Tryd.func3, Tryd.ntmps3
    go_wp2_with fail
    go_ret
    exact ⟨rfl, Below.refl _ _⟩
  · go_enter Tryd.func3, Tryd.ntmps3
    go_wp2_with fail
    refine (DrawGridNet_any A len cap _ HR.out hc (by omega)).mono ?_
    rintro e wd ⟨R, C, rfl, hR7, hC7, hbd⟩
    have HBD := Lib.hid hbd
    have HTD := Lib.hid (HT.out.later hbd)
    have hzd : w.heap.size ≤ wd.heap.size := hbd.size
    clear hbd
    cases hok : gridOk (R : Int) (C : Int)
    · obtain ⟨N, L, hN0, hL0, ho⟩ : ∃ (N : Int) (L : List Wy), N = 0 ∧ L = [] ∧ ((gridNet (R : Int) (C : Int) = none ∧ N = 0 ∧ L = [] ∧ false = false) ∨ (gridNet (R : Int) (C : Int) = some (N, L) ∧ false = true)) := ⟨0, [], rfl, rfl, .inl ⟨grid_none hok, rfl, rfl, rfl⟩⟩
      have IOK : Hid (∀ (W : World), Calls Tryd.prog 5 #[.int .i64 R, .int .i64 C] W fun en w' => ∃ A1 c1 lo hi, en = .returned (.tuple #[.agg #[.int .i64 N, .slice A1 L.length c1], .bool false]) ∧ RowF w' lo hi A1 (L.length * 3) (wyF L) ∧ W.heap.size ≤ lo ∧ Below W.heap.size W w') := fun W => (GridNet_any R C W).mono fun e w' h => newNet_any ho h
      have SOK : Hid (∀ (W : World), Calls Tryd.prog 6 #[.int .i64 R, .int .i64 C] W fun en w' => ∃ A1 c1 lo hi, en = .returned (.tuple #[.agg #[.int .i64 N, .slice A1 L.length c1], .bool false]) ∧ RowF w' lo hi A1 (L.length * 3) (wyF L) ∧ W.heap.size ≤ lo ∧ Below W.heap.size W w') := fun W => (sGridNet_any R C W).mono fun e w' h => newNet_any ho h
      have hLl : L.length ≤ 72 := by rw [hL0]; simp
      clear hok ho hN0 hL0
      go_wp2_with fail
      refine (IOK.out _).mono ?_; rintro e1 w1 ⟨T1, c1, lo1, hi1, rfl, ht1, hl1, hb1⟩
      have HB1 := Lib.hid hb1
      have hsw1 : wd.heap.size ≤ w1.heap.size := hb1.size
      clear hb1
      have a10 : (w1.alloc (.cells #[.int .i64 N, .slice T1 L.length c1] 27)).cell? ⟨w1.heap.size, 0, none⟩ = some (.int .i64 N) := cell_of_row _ _ 0 _ _ (0, 0) (heap_alloc_new w1 _)
      have a11 : (w1.alloc (.cells #[.int .i64 N, .slice T1 L.length c1] 27)).cell? ⟨w1.heap.size, 1, none⟩ = some (.slice T1 L.length c1) := cell_of_row _ _ 1 _ _ (0, 0) (heap_alloc_new w1 _)
      have BA1 := Lib.hid ((Below.refl w1.heap.size w1).alloc (Nat.le_refl _) (.cells #[.int .i64 N, .slice T1 L.length c1] 27))
      have sz1 : (w1.alloc (.cells #[.int .i64 N, .slice T1 L.length c1] 27)).heap.size = w1.heap.size + 1 := by simp
      have HBa := Lib.hid (bstep (B := wd.heap.size) (W := wd) HB1.out HB1.out.size BA1.out)
      have R1 := Lib.hid (ht1.below BA1.out)
      clear ht1
      go_wp2_with fail
      refine (SOK.out _).mono ?_; rintro e2 w2 ⟨T2, c2, lo2, hi2, rfl, ht2, hl2, hb2⟩
      have HB2 := Lib.hid (bstep (B := wd.heap.size) (W := wd) HBa.out (by rw [sz1]; omega) hb2)
      have R12 := Lib.hid (R1.out.below hb2)
      have z2 : w1.heap.size + 1 ≤ w2.heap.size := by have h9 := hb2.size; rw [sz1] at h9; exact h9
      have b20 := (hb2.cell (p := ⟨w1.heap.size, 0, none⟩) (by simp)).trans a10
      have b21 := (hb2.cell (p := ⟨w1.heap.size, 1, none⟩) (by simp)).trans a11
      clear hb2 a10 a11 R1
      have a20 : (w2.alloc (.cells #[.int .i64 N, .slice T2 L.length c2] 27)).cell? ⟨w2.heap.size, 0, none⟩ = some (.int .i64 N) := cell_of_row _ _ 0 _ _ (0, 0) (heap_alloc_new w2 _)
      have a21 : (w2.alloc (.cells #[.int .i64 N, .slice T2 L.length c2] 27)).cell? ⟨w2.heap.size, 1, none⟩ = some (.slice T2 L.length c2) := cell_of_row _ _ 1 _ _ (0, 0) (heap_alloc_new w2 _)
      have BA2 := Lib.hid ((Below.refl w2.heap.size w2).alloc (Nat.le_refl _) (.cells #[.int .i64 N, .slice T2 L.length c2] 27))
      have sz2 : (w2.alloc (.cells #[.int .i64 N, .slice T2 L.length c2] 27)).heap.size = w2.heap.size + 1 := by simp
      have HBb := Lib.hid (bstep (B := wd.heap.size) (W := wd) HB2.out HB2.out.size BA2.out)
      have R13 := Lib.hid (R12.out.below BA2.out)
      have R23 := Lib.hid (ht2.below BA2.out)
      have b30 := (BA2.out.cell (p := ⟨w1.heap.size, 0, none⟩) (by show w1.heap.size < w2.heap.size; omega)).trans b20
      have b31 := (BA2.out.cell (p := ⟨w1.heap.size, 1, none⟩) (by show w1.heap.size < w2.heap.size; omega)).trans b21
      clear ht2 R12 b20 b21
      obtain ⟨wb, hwb⟩ : ∃ wb, w2.alloc (.cells #[.int .i64 N, .slice T2 L.length c2] 27) = wb := ⟨_, rfl⟩
      rw [hwb] at b30 b31 a20 a21 sz2 HBb R13 R23
      have HWB := Lib.hid hwb
      have Q1 := Lib.hid R13.out.rw3
      have Q2 := Lib.hid R23.out.rw3
      have K50 := Lib.hid b30
      have K51 := Lib.hid b31
      have K70 := Lib.hid a20
      have K71 := Lib.hid a21
      have hzd2 : wd.heap.size ≤ wb.heap.size := HBb.out.size
      have hz1b : w1.heap.size < wb.heap.size := by omega
      have hz2b : w2.heap.size < wb.heap.size := by omega
      clear hwb hl1 hl2 BA1 BA2 HBa
      generalize hB5 : w1.heap.size = B5 at *
      generalize hB7 : w2.heap.size = B7 at *
      have b50 := K50.out
      have b51 := K51.out
      have b70 := K70.out
      have b71 := K71.out
      rw [← HWB.out] at b50 b51 b70 b71
      go_wp2_with fail
      clear b50 b51 b70 b71
      rw [HWB.out]
      go_loopw [9] (fun i wr => ∃ k : Nat, k ≤ L.length ∧ i = .int .i64 k ∧ Below wb.heap.size wb wr) (fun i _ => L.length - (intOf i).toNat)
      case atStart => exact ⟨0, Nat.zero_le _, rfl, Below.refl _ _⟩
      case round =>
        obtain ⟨k, hk, rfl, hb⟩ := hrel
        have HB0 := Lib.hid hb
        have b50 := (hb.cell (p := ⟨B5, 0, none⟩) hz1b).trans K50.out
        have b51 := (hb.cell (p := ⟨B5, 1, none⟩) hz1b).trans K51.out
        have b71 := (hb.cell (p := ⟨B7, 1, none⟩) hz2b).trans K71.out
        have hk0 : (0 : Int) ≤ (k : Int) := by omega
        clear hb
        by_cases hlk : k < L.length
        · have hk1 : (k : Int) < (L.length : Int) := by omega
          obtain ⟨x, hx⟩ : ∃ x, L[k]? = some x := ⟨_, List.getElem?_eq_getElem hlk⟩
          obtain ⟨p1, o1, hp1, hq1, e10, e11, e12⟩ := (Q1.out.later HB0.out) k x hx
          obtain ⟨p2, o2, hp2, hq2, e20, e21, e22⟩ := (Q2.out.later HB0.out) k x hx
          rw [hp1] at b51
          rw [hp2] at b71
          clear hx
          go_wp2_with fail
          refine wp_region_held_drew (S := (fun w' => w'.cell? ⟨B5, 1, none⟩ = some (.slice (some ⟨p1, o1, none⟩) L.length c1) ∧ w'.cell? ⟨B7, 1, none⟩ = some (.slice (some ⟨p2, o2, none⟩) L.length c2) ∧ w'.cell? ⟨p1, o1 + k * 3, none⟩ = some (.int .i64 x.a) ∧ w'.cell? ⟨p1, o1 + k * 3 + 1, none⟩ = some (.int .i64 x.b) ∧ w'.cell? ⟨p1, o1 + k * 3 + 2, none⟩ = some (.int .i64 x.c) ∧ w'.cell? ⟨p2, o2 + k * 3, none⟩ = some (.int .i64 x.a) ∧ w'.cell? ⟨p2, o2 + k * 3 + 1, none⟩ = some (.int .i64 x.b) ∧ w'.cell? ⟨p2, o2 + k * 3 + 2, none⟩ = some (.int .i64 x.c))) (by kernel_rfl) ?_ (fun hHeld => ?_)
          · exact ⟨b51, b71, e10, e11, e12, e20, e21, e22⟩
          refine wpAnyH_take (i := 0) (v := ?_) rfl (by kernel_rfl) (by kernel_rfl) (by kernel_rfl) (fun _ _ _ h => h) (Or.inl ⟨by rfl, ?_⟩) (by assumption) ?_
          rotate_left
          · (intro w hSw; (try dsimp only at hSw); (try simp only [List.getElem_toArray, List.getElem_cons_succ, List.getElem_cons_zero]); first | (go_simp; done) | (go_simp; with_reducible rfl))
          try simp only [Act.put, List.getElem_toArray, List.getElem_cons_succ, List.getElem_cons_zero, List.setIfInBounds_toArray, List.set_cons_zero, List.set_cons_succ]
          refine wpAnyH_take (i := 1) (v := ?_) rfl (by kernel_rfl) (by kernel_rfl) (by kernel_rfl) (fun _ _ _ h => h) (Or.inl ⟨by rfl, ?_⟩) (by assumption) ?_
          rotate_left
          · (intro w hSw; (try dsimp only at hSw); (try simp only [List.getElem_toArray, List.getElem_cons_succ, List.getElem_cons_zero]); first | (go_simp; done) | (go_simp; with_reducible rfl))
          try simp only [Act.put, List.getElem_toArray, List.getElem_cons_succ, List.getElem_cons_zero, List.setIfInBounds_toArray, List.set_cons_zero, List.set_cons_succ]
          refine wpAnyH_take (i := 2) (v := ?_) rfl (by kernel_rfl) (by kernel_rfl) (by kernel_rfl) (fun _ _ _ h => h) (Or.inl ⟨by rfl, ?_⟩) (by assumption) ?_
          rotate_left
          · (intro w hSw; (try dsimp only at hSw); (try simp only [List.getElem_toArray, List.getElem_cons_succ, List.getElem_cons_zero]); first | (go_simp; done) | (go_simp; with_reducible rfl))
          try simp only [Act.put, List.getElem_toArray, List.getElem_cons_succ, List.getElem_cons_zero, List.setIfInBounds_toArray, List.set_cons_zero, List.set_cons_succ]
          refine wpAnyH_take (i := 3) (v := ?_) rfl (by kernel_rfl) (by kernel_rfl) (by kernel_rfl) (fun _ _ _ h => h) (Or.inl ⟨by rfl, ?_⟩) (by assumption) ?_
          rotate_left
          · (intro w hSw; (try dsimp only at hSw); (try simp only [List.getElem_toArray, List.getElem_cons_succ, List.getElem_cons_zero]); first | (go_simp; done) | (go_simp; with_reducible rfl))
          try simp only [Act.put, List.getElem_toArray, List.getElem_cons_succ, List.getElem_cons_zero, List.setIfInBounds_toArray, List.set_cons_zero, List.set_cons_succ]
          refine wpAnyH_take (i := 4) (v := ?_) rfl (by kernel_rfl) (by kernel_rfl) (by kernel_rfl) (fun _ _ _ h => h) (Or.inl ⟨by rfl, ?_⟩) (by assumption) ?_
          rotate_left
          · (intro w hSw; (try dsimp only at hSw); (try simp only [List.getElem_toArray, List.getElem_cons_succ, List.getElem_cons_zero]); first | (go_simp; done) | (go_simp; with_reducible rfl))
          try simp only [Act.put, List.getElem_toArray, List.getElem_cons_succ, List.getElem_cons_zero, List.setIfInBounds_toArray, List.set_cons_zero, List.set_cons_succ]
          refine wpAnyH_take (i := 5) (v := ?_) rfl (by kernel_rfl) (by kernel_rfl) (by kernel_rfl) (fun _ _ _ h => h) (Or.inl ⟨by rfl, ?_⟩) (by assumption) ?_
          rotate_left
          · (intro w hSw; (try dsimp only at hSw); (try simp only [List.getElem_toArray, List.getElem_cons_succ, List.getElem_cons_zero]); first | (go_simp; done) | (go_simp; with_reducible rfl))
          try simp only [Act.put, List.getElem_toArray, List.getElem_cons_succ, List.getElem_cons_zero, List.setIfInBounds_toArray, List.set_cons_zero, List.set_cons_succ]
          refine wpAnyH_take (i := 6) (v := ?_) rfl (by kernel_rfl) (by kernel_rfl) (by kernel_rfl) (fun _ _ _ h => h) (Or.inl ⟨by rfl, ?_⟩) (by assumption) ?_
          rotate_left
          · (intro w hSw; (try dsimp only at hSw); (try simp only [List.getElem_toArray, List.getElem_cons_succ, List.getElem_cons_zero]); first | (go_simp; done) | (go_simp; with_reducible rfl))
          try simp only [Act.put, List.getElem_toArray, List.getElem_cons_succ, List.getElem_cons_zero, List.setIfInBounds_toArray, List.set_cons_zero, List.set_cons_succ]
          refine wpAnyH_take (i := 7) (v := ?_) rfl (by kernel_rfl) (by kernel_rfl) (by kernel_rfl) (fun _ _ _ h => h) (Or.inl ⟨by rfl, ?_⟩) (by assumption) ?_
          rotate_left
          · (intro w hSw; (try dsimp only at hSw); (try simp only [List.getElem_toArray, List.getElem_cons_succ, List.getElem_cons_zero]); first | (go_simp; done) | (go_simp; with_reducible rfl))
          try simp only [Act.put, List.getElem_toArray, List.getElem_cons_succ, List.getElem_cons_zero, List.setIfInBounds_toArray, List.set_cons_zero, List.set_cons_succ]
          refine wpAnyH_take (i := 8) (v := ?_) rfl (by kernel_rfl) (by kernel_rfl) (by kernel_rfl) (fun _ _ _ h => h) (Or.inl ⟨by rfl, ?_⟩) (by assumption) ?_
          rotate_left
          · (intro w hSw; (try dsimp only at hSw); (try simp only [List.getElem_toArray, List.getElem_cons_succ, List.getElem_cons_zero]); first | (go_simp; done) | (go_simp; with_reducible rfl))
          try simp only [Act.put, List.getElem_toArray, List.getElem_cons_succ, List.getElem_cons_zero, List.setIfInBounds_toArray, List.set_cons_zero, List.set_cons_succ]
          refine wpAnyH_take (i := 9) (v := ?_) rfl (by kernel_rfl) (by kernel_rfl) (by kernel_rfl) (fun _ _ _ h => h) (Or.inl ⟨by rfl, ?_⟩) (by assumption) ?_
          rotate_left
          · (intro w hSw; (try dsimp only at hSw); (try simp only [List.getElem_toArray, List.getElem_cons_succ, List.getElem_cons_zero]); first | (go_simp; done) | (go_simp; with_reducible rfl))
          try simp only [Act.put, List.getElem_toArray, List.getElem_cons_succ, List.getElem_cons_zero, List.setIfInBounds_toArray, List.set_cons_zero, List.set_cons_succ]
          refine wpAnyH_take (i := 10) (v := ?_) rfl (by kernel_rfl) (by kernel_rfl) (by kernel_rfl) (fun _ _ _ h => h) (Or.inl ⟨by rfl, ?_⟩) (by assumption) ?_
          rotate_left
          · (intro w hSw; (try dsimp only at hSw); (try simp only [List.getElem_toArray, List.getElem_cons_succ, List.getElem_cons_zero]); first | (go_simp; done) | (go_simp; with_reducible rfl))
          try simp only [Act.put, List.getElem_toArray, List.getElem_cons_succ, List.getElem_cons_zero, List.setIfInBounds_toArray, List.set_cons_zero, List.set_cons_succ]
          refine wpAnyH_done (by kernel_rfl) ?_ _
          go_wp2_with fail
          go_roundw
          case rel => exact ⟨k + 1, by omega, by go_num, ⟨HB0.out.os, HB0.out.tape, HB0.out.output, HB0.out.size, HB0.out.block⟩⟩
          case measure => (simp [intOf]) <;> omega
        · have hkL : k = L.length := by omega
          subst hkL
          go_wp2_with fail
          refine (alive_any _).mono ?_; rintro e3 w3 ⟨rfl, hb3⟩
          have HB3 := Lib.hid (bstep (B := wd.heap.size) (W := wd) (bstep HBb.out hzd2 HB0.out) (by have := HB0.out.size; omega) hb3)
          clear hb3
          go_wp2_with fail
          go_ret
          exact ⟨rfl, bstep HBD.out hzd HB3.out⟩
    · obtain ⟨hgo, -, -, hC1⟩ := gOk_of hok
      obtain ⟨n, hn⟩ : ∃ n, R * C = n := ⟨_, rfl⟩
      have hg2 := grid_n hR7 hC7 hgo
      have hno := grid_net hR7 hC7 hgo
      have hsp := grid_span hR7 hC7 hgo
      have hpo := grid_pts hR7 hC7 hgo
      have hfa := fun (a b : Nat) => grid_far hR7 hC7 hgo (a := a) (b := b)
      have hro := fun (a b c : Nat) => grid_root hR7 hC7 hgo (a := a) (b := b) (c := c)
      obtain ⟨L, hL⟩ : ∃ L, gridWs R C = L := ⟨_, rfl⟩
      rw [hn] at hg2 hno hsp hpo hfa hro
      rw [hL] at hno hsp hfa hro
      have HNO := Lib.hid hno
      have HSP := Lib.hid hsp
      have HFP : Hid (∀ a b : Nat, a < n → b < n → ∀ D : Int, farF L n a b = D → pointsFar (gPts C n) a b = D) := fun a b ha hb D hD => by
        rw [far_pts hpo (by rw [gPts_len]; exact ha) (by rw [gPts_len]; exact hb), ptAt_at (gPts_at ha), ptAt_at (gPts_at hb), ← hfa a b ha hb, hD]
      have HRO : Hid (∀ a b c : Nat, a < n → b < n → c < n → ∃ X : Int, rootCost (n : Int) L (tri a b c) = X ∧ halfRound [gPt C a, gPt C b, gPt C c] = X) := fun a b c ha hb hc => by
        refine ⟨_, hro a b c ha hb hc, ?_⟩
        have hall := (pointsOk_t hpo).2.2
        have hk : pointsOk [gPt C a, gPt C b, gPt C c] = true := pointsOk_mk (by simp) (by simp) (fun p hp => by
          simp only [List.mem_cons, List.mem_nil_iff, or_false] at hp
          rcases hp with rfl | rfl | rfl
          · exact hall _ (List.mem_of_getElem? (gPts_at ha))
          · exact hall _ (List.mem_of_getElem? (gPts_at hb))
          · exact hall _ (List.mem_of_getElem? (gPts_at hc)))
        unfold halfRound; rw [if_pos hk]
      obtain ⟨N, hN⟩ : ∃ N : Int, N = (n : Int) := ⟨_, rfl⟩
      have ho : (gridNet (R : Int) (C : Int) = none ∧ N = 0 ∧ L = [] ∧ true = false) ∨ (gridNet (R : Int) (C : Int) = some (N, L) ∧ true = true) := .inr ⟨by rw [grid_some hok hn, ← hL, hN]; unfold gridWs; rw [hn], rfl⟩
      have IOK : Hid (∀ (W : World), Calls Tryd.prog 5 #[.int .i64 R, .int .i64 C] W fun en w' => ∃ A1 c1 lo hi, en = .returned (.tuple #[.agg #[.int .i64 N, .slice A1 L.length c1], .bool true]) ∧ RowF w' lo hi A1 (L.length * 3) (wyF L) ∧ W.heap.size ≤ lo ∧ Below W.heap.size W w') := fun W => (GridNet_any R C W).mono fun e w' h => newNet_any ho h
      have SOK : Hid (∀ (W : World), Calls Tryd.prog 6 #[.int .i64 R, .int .i64 C] W fun en w' => ∃ A1 c1 lo hi, en = .returned (.tuple #[.agg #[.int .i64 N, .slice A1 L.length c1], .bool true]) ∧ RowF w' lo hi A1 (L.length * 3) (wyF L) ∧ W.heap.size ≤ lo ∧ Below W.heap.size W w') := fun W => (sGridNet_any R C W).mono fun e w' h => newNet_any ho h
      subst hN
      have hC0 : (C : Int) ≠ 0 := by omega
      have hn6 := hg2.2
      have hLl : L.length ≤ 72 := by
        have h9 := gwTo_len (R * C) C (R * C)
        rw [← hL]; unfold gridWs; rw [hn] at h9 ⊢; omega
      clear hok hgo hno hsp hpo hfa hro hL ho hg2 hn
      go_wp2_with fail
      refine (IOK.out _).mono ?_; rintro e1 w1 ⟨T1, c1, lo1, hi1, rfl, ht1, hl1, hb1⟩
      have HB1 := Lib.hid hb1
      have hsw1 : wd.heap.size ≤ w1.heap.size := hb1.size
      clear hb1
      have a10 : (w1.alloc (.cells #[.int .i64 n, .slice T1 L.length c1] 27)).cell? ⟨w1.heap.size, 0, none⟩ = some (.int .i64 n) := cell_of_row _ _ 0 _ _ (0, 0) (heap_alloc_new w1 _)
      have a11 : (w1.alloc (.cells #[.int .i64 n, .slice T1 L.length c1] 27)).cell? ⟨w1.heap.size, 1, none⟩ = some (.slice T1 L.length c1) := cell_of_row _ _ 1 _ _ (0, 0) (heap_alloc_new w1 _)
      have BA1 := Lib.hid ((Below.refl w1.heap.size w1).alloc (Nat.le_refl _) (.cells #[.int .i64 n, .slice T1 L.length c1] 27))
      have sz1 : (w1.alloc (.cells #[.int .i64 n, .slice T1 L.length c1] 27)).heap.size = w1.heap.size + 1 := by simp
      have HBa := Lib.hid (bstep (B := wd.heap.size) (W := wd) HB1.out HB1.out.size BA1.out)
      have R1 := Lib.hid (ht1.below BA1.out)
      clear ht1
      go_wp2_with fail
      refine (SOK.out _).mono ?_; rintro e2 w2 ⟨T2, c2, lo2, hi2, rfl, ht2, hl2, hb2⟩
      have HB2 := Lib.hid (bstep (B := wd.heap.size) (W := wd) HBa.out (by rw [sz1]; omega) hb2)
      have R12 := Lib.hid (R1.out.below hb2)
      have z2 : w1.heap.size + 1 ≤ w2.heap.size := by have h9 := hb2.size; rw [sz1] at h9; exact h9
      have b20 := (hb2.cell (p := ⟨w1.heap.size, 0, none⟩) (by simp)).trans a10
      have b21 := (hb2.cell (p := ⟨w1.heap.size, 1, none⟩) (by simp)).trans a11
      clear hb2 a10 a11 R1
      have a20 : (w2.alloc (.cells #[.int .i64 n, .slice T2 L.length c2] 27)).cell? ⟨w2.heap.size, 0, none⟩ = some (.int .i64 n) := cell_of_row _ _ 0 _ _ (0, 0) (heap_alloc_new w2 _)
      have a21 : (w2.alloc (.cells #[.int .i64 n, .slice T2 L.length c2] 27)).cell? ⟨w2.heap.size, 1, none⟩ = some (.slice T2 L.length c2) := cell_of_row _ _ 1 _ _ (0, 0) (heap_alloc_new w2 _)
      have BA2 := Lib.hid ((Below.refl w2.heap.size w2).alloc (Nat.le_refl _) (.cells #[.int .i64 n, .slice T2 L.length c2] 27))
      have sz2 : (w2.alloc (.cells #[.int .i64 n, .slice T2 L.length c2] 27)).heap.size = w2.heap.size + 1 := by simp
      have HBb := Lib.hid (bstep (B := wd.heap.size) (W := wd) HB2.out HB2.out.size BA2.out)
      have R13 := Lib.hid (R12.out.below BA2.out)
      have R23 := Lib.hid (ht2.below BA2.out)
      have b30 := (BA2.out.cell (p := ⟨w1.heap.size, 0, none⟩) (by show w1.heap.size < w2.heap.size; omega)).trans b20
      have b31 := (BA2.out.cell (p := ⟨w1.heap.size, 1, none⟩) (by show w1.heap.size < w2.heap.size; omega)).trans b21
      clear ht2 R12 b20 b21
      obtain ⟨wb, hwb⟩ : ∃ wb, w2.alloc (.cells #[.int .i64 n, .slice T2 L.length c2] 27) = wb := ⟨_, rfl⟩
      rw [hwb] at b30 b31 a20 a21 sz2 HBb R13 R23
      have HWB := Lib.hid hwb
      have Q1 := Lib.hid R13.out.rw3
      have Q2 := Lib.hid R23.out.rw3
      have K50 := Lib.hid b30
      have K51 := Lib.hid b31
      have K70 := Lib.hid a20
      have K71 := Lib.hid a21
      have hzd2 : wd.heap.size ≤ wb.heap.size := HBb.out.size
      have hz1b : w1.heap.size < wb.heap.size := by omega
      have hz2b : w2.heap.size < wb.heap.size := by omega
      clear hwb hl1 hl2 BA1 BA2 HBa
      generalize hB5 : w1.heap.size = B5 at *
      generalize hB7 : w2.heap.size = B7 at *
      have b50 := K50.out
      have b51 := K51.out
      have b70 := K70.out
      have b71 := K71.out
      rw [← HWB.out] at b50 b51 b70 b71
      go_wp2_with fail
      clear b50 b51 b70 b71
      rw [HWB.out]
      go_loopw [9] (fun i wr => ∃ k : Nat, k ≤ L.length ∧ i = .int .i64 k ∧ Below wb.heap.size wb wr) (fun i _ => L.length - (intOf i).toNat)
      case atStart => exact ⟨0, Nat.zero_le _, rfl, Below.refl _ _⟩
      case round =>
        obtain ⟨k, hk, rfl, hb⟩ := hrel
        have HB0 := Lib.hid hb
        have b50 := (hb.cell (p := ⟨B5, 0, none⟩) hz1b).trans K50.out
        have b51 := (hb.cell (p := ⟨B5, 1, none⟩) hz1b).trans K51.out
        have b71 := (hb.cell (p := ⟨B7, 1, none⟩) hz2b).trans K71.out
        have hk0 : (0 : Int) ≤ (k : Int) := by omega
        clear hb
        by_cases hlk : k < L.length
        · have hk1 : (k : Int) < (L.length : Int) := by omega
          obtain ⟨x, hx⟩ : ∃ x, L[k]? = some x := ⟨_, List.getElem?_eq_getElem hlk⟩
          obtain ⟨p1, o1, hp1, hq1, e10, e11, e12⟩ := (Q1.out.later HB0.out) k x hx
          obtain ⟨p2, o2, hp2, hq2, e20, e21, e22⟩ := (Q2.out.later HB0.out) k x hx
          rw [hp1] at b51
          rw [hp2] at b71
          clear hx
          go_wp2_with fail
          refine wp_region_held_drew (S := (fun w' => w'.cell? ⟨B5, 1, none⟩ = some (.slice (some ⟨p1, o1, none⟩) L.length c1) ∧ w'.cell? ⟨B7, 1, none⟩ = some (.slice (some ⟨p2, o2, none⟩) L.length c2) ∧ w'.cell? ⟨p1, o1 + k * 3, none⟩ = some (.int .i64 x.a) ∧ w'.cell? ⟨p1, o1 + k * 3 + 1, none⟩ = some (.int .i64 x.b) ∧ w'.cell? ⟨p1, o1 + k * 3 + 2, none⟩ = some (.int .i64 x.c) ∧ w'.cell? ⟨p2, o2 + k * 3, none⟩ = some (.int .i64 x.a) ∧ w'.cell? ⟨p2, o2 + k * 3 + 1, none⟩ = some (.int .i64 x.b) ∧ w'.cell? ⟨p2, o2 + k * 3 + 2, none⟩ = some (.int .i64 x.c))) (by kernel_rfl) ?_ (fun hHeld => ?_)
          · exact ⟨b51, b71, e10, e11, e12, e20, e21, e22⟩
          refine wpAnyH_take (i := 0) (v := ?_) rfl (by kernel_rfl) (by kernel_rfl) (by kernel_rfl) (fun _ _ _ h => h) (Or.inl ⟨by rfl, ?_⟩) (by assumption) ?_
          rotate_left
          · (intro w hSw; (try dsimp only at hSw); (try simp only [List.getElem_toArray, List.getElem_cons_succ, List.getElem_cons_zero]); first | (go_simp; done) | (go_simp; with_reducible rfl))
          try simp only [Act.put, List.getElem_toArray, List.getElem_cons_succ, List.getElem_cons_zero, List.setIfInBounds_toArray, List.set_cons_zero, List.set_cons_succ]
          refine wpAnyH_take (i := 1) (v := ?_) rfl (by kernel_rfl) (by kernel_rfl) (by kernel_rfl) (fun _ _ _ h => h) (Or.inl ⟨by rfl, ?_⟩) (by assumption) ?_
          rotate_left
          · (intro w hSw; (try dsimp only at hSw); (try simp only [List.getElem_toArray, List.getElem_cons_succ, List.getElem_cons_zero]); first | (go_simp; done) | (go_simp; with_reducible rfl))
          try simp only [Act.put, List.getElem_toArray, List.getElem_cons_succ, List.getElem_cons_zero, List.setIfInBounds_toArray, List.set_cons_zero, List.set_cons_succ]
          refine wpAnyH_take (i := 2) (v := ?_) rfl (by kernel_rfl) (by kernel_rfl) (by kernel_rfl) (fun _ _ _ h => h) (Or.inl ⟨by rfl, ?_⟩) (by assumption) ?_
          rotate_left
          · (intro w hSw; (try dsimp only at hSw); (try simp only [List.getElem_toArray, List.getElem_cons_succ, List.getElem_cons_zero]); first | (go_simp; done) | (go_simp; with_reducible rfl))
          try simp only [Act.put, List.getElem_toArray, List.getElem_cons_succ, List.getElem_cons_zero, List.setIfInBounds_toArray, List.set_cons_zero, List.set_cons_succ]
          refine wpAnyH_take (i := 3) (v := ?_) rfl (by kernel_rfl) (by kernel_rfl) (by kernel_rfl) (fun _ _ _ h => h) (Or.inl ⟨by rfl, ?_⟩) (by assumption) ?_
          rotate_left
          · (intro w hSw; (try dsimp only at hSw); (try simp only [List.getElem_toArray, List.getElem_cons_succ, List.getElem_cons_zero]); first | (go_simp; done) | (go_simp; with_reducible rfl))
          try simp only [Act.put, List.getElem_toArray, List.getElem_cons_succ, List.getElem_cons_zero, List.setIfInBounds_toArray, List.set_cons_zero, List.set_cons_succ]
          refine wpAnyH_take (i := 4) (v := ?_) rfl (by kernel_rfl) (by kernel_rfl) (by kernel_rfl) (fun _ _ _ h => h) (Or.inl ⟨by rfl, ?_⟩) (by assumption) ?_
          rotate_left
          · (intro w hSw; (try dsimp only at hSw); (try simp only [List.getElem_toArray, List.getElem_cons_succ, List.getElem_cons_zero]); first | (go_simp; done) | (go_simp; with_reducible rfl))
          try simp only [Act.put, List.getElem_toArray, List.getElem_cons_succ, List.getElem_cons_zero, List.setIfInBounds_toArray, List.set_cons_zero, List.set_cons_succ]
          refine wpAnyH_take (i := 5) (v := ?_) rfl (by kernel_rfl) (by kernel_rfl) (by kernel_rfl) (fun _ _ _ h => h) (Or.inl ⟨by rfl, ?_⟩) (by assumption) ?_
          rotate_left
          · (intro w hSw; (try dsimp only at hSw); (try simp only [List.getElem_toArray, List.getElem_cons_succ, List.getElem_cons_zero]); first | (go_simp; done) | (go_simp; with_reducible rfl))
          try simp only [Act.put, List.getElem_toArray, List.getElem_cons_succ, List.getElem_cons_zero, List.setIfInBounds_toArray, List.set_cons_zero, List.set_cons_succ]
          refine wpAnyH_take (i := 6) (v := ?_) rfl (by kernel_rfl) (by kernel_rfl) (by kernel_rfl) (fun _ _ _ h => h) (Or.inl ⟨by rfl, ?_⟩) (by assumption) ?_
          rotate_left
          · (intro w hSw; (try dsimp only at hSw); (try simp only [List.getElem_toArray, List.getElem_cons_succ, List.getElem_cons_zero]); first | (go_simp; done) | (go_simp; with_reducible rfl))
          try simp only [Act.put, List.getElem_toArray, List.getElem_cons_succ, List.getElem_cons_zero, List.setIfInBounds_toArray, List.set_cons_zero, List.set_cons_succ]
          refine wpAnyH_take (i := 7) (v := ?_) rfl (by kernel_rfl) (by kernel_rfl) (by kernel_rfl) (fun _ _ _ h => h) (Or.inl ⟨by rfl, ?_⟩) (by assumption) ?_
          rotate_left
          · (intro w hSw; (try dsimp only at hSw); (try simp only [List.getElem_toArray, List.getElem_cons_succ, List.getElem_cons_zero]); first | (go_simp; done) | (go_simp; with_reducible rfl))
          try simp only [Act.put, List.getElem_toArray, List.getElem_cons_succ, List.getElem_cons_zero, List.setIfInBounds_toArray, List.set_cons_zero, List.set_cons_succ]
          refine wpAnyH_take (i := 8) (v := ?_) rfl (by kernel_rfl) (by kernel_rfl) (by kernel_rfl) (fun _ _ _ h => h) (Or.inl ⟨by rfl, ?_⟩) (by assumption) ?_
          rotate_left
          · (intro w hSw; (try dsimp only at hSw); (try simp only [List.getElem_toArray, List.getElem_cons_succ, List.getElem_cons_zero]); first | (go_simp; done) | (go_simp; with_reducible rfl))
          try simp only [Act.put, List.getElem_toArray, List.getElem_cons_succ, List.getElem_cons_zero, List.setIfInBounds_toArray, List.set_cons_zero, List.set_cons_succ]
          refine wpAnyH_take (i := 9) (v := ?_) rfl (by kernel_rfl) (by kernel_rfl) (by kernel_rfl) (fun _ _ _ h => h) (Or.inl ⟨by rfl, ?_⟩) (by assumption) ?_
          rotate_left
          · (intro w hSw; (try dsimp only at hSw); (try simp only [List.getElem_toArray, List.getElem_cons_succ, List.getElem_cons_zero]); first | (go_simp; done) | (go_simp; with_reducible rfl))
          try simp only [Act.put, List.getElem_toArray, List.getElem_cons_succ, List.getElem_cons_zero, List.setIfInBounds_toArray, List.set_cons_zero, List.set_cons_succ]
          refine wpAnyH_take (i := 10) (v := ?_) rfl (by kernel_rfl) (by kernel_rfl) (by kernel_rfl) (fun _ _ _ h => h) (Or.inl ⟨by rfl, ?_⟩) (by assumption) ?_
          rotate_left
          · (intro w hSw; (try dsimp only at hSw); (try simp only [List.getElem_toArray, List.getElem_cons_succ, List.getElem_cons_zero]); first | (go_simp; done) | (go_simp; with_reducible rfl))
          try simp only [Act.put, List.getElem_toArray, List.getElem_cons_succ, List.getElem_cons_zero, List.setIfInBounds_toArray, List.set_cons_zero, List.set_cons_succ]
          refine wpAnyH_done (by kernel_rfl) ?_ _
          go_wp2_with fail
          go_roundw
          case rel => exact ⟨k + 1, by omega, by go_num, ⟨HB0.out.os, HB0.out.tape, HB0.out.output, HB0.out.size, HB0.out.block⟩⟩
          case measure => (simp [intOf]) <;> omega
        · have hkL : k = L.length := by omega
          subst hkL
          have HBL := HB0
          have hsl : wb.heap.size ≤ wr.heap.size := HB0.out.size
          have hbs := noPointsL
          obtain ⟨i0, hi0, hz0, hz1', hz2⟩ := info_parts infoPointL
          obtain ⟨BP, hBP⟩ : ∃ b, wr.heap.size = b := ⟨_, rfl⟩
          have HB3 := Lib.hid (HB0.out.alloc hsl (.cells #[] 35))
          have HO3 : Hid ((wr.alloc (.cells #[] 35)).ownsRow BP 35 2 (.slice (some ⟨BP, 0, none⟩) 0 0) 0 []) := by
            rw [← hBP]
            exact ⟨rfl, .inr ⟨wr.heap.size, 0, #[], rfl, Nat.le_refl _, heap_alloc_new _ _, Nat.le_refl _, Nat.zero_le _, rfl, rfl⟩⟩
          have hz3 : BP + 1 ≤ (wr.alloc (.cells #[] 35)).heap.size := by simp; omega
          have q50 := (World.cell?_alloc_lt wr (.cells #[] 35) ⟨B5, 0, none⟩ (by show B5 < wr.heap.size; omega)).trans b50
          have hbBP : wb.heap.size ≤ BP := by omega
          go_wp2_with fail
          clear HB0 b51 b71
          go_loopw [10, 11] (fun v i wr => ∃ k : Nat, k ≤ n ∧ i = .int .i64 k ∧ (∃ g1 c1, v = .slice (some ⟨g1, 0, none⟩) k c1) ∧ wr.ownsRow BP 35 2 v k (ctCells ((gPts C n).take k)) ∧ Below wb.heap.size wb wr ∧ BP < wr.heap.size) (fun _ i _ => n - (intOf i).toNat)
          case atStart => exact ⟨0, Nat.zero_le _, rfl, ⟨BP, 0, by rw [← hBP]⟩, by first | exact HO3.out | (rw [hBP]; exact HO3.out), HB3.out, by omega⟩
          case round =>
            clear HB3 HO3 hz3 HBL hsl hBP hbs q50 b50
            obtain ⟨k, hk, rfl, ⟨g1, cg1, hv⟩, how, hb, hzB⟩ := hrel
            (try injection hv with hv1 hv2 hv3)
            (try subst hv)
            (try subst hv1)
            (try subst hv3)
            have HB0 := Lib.hid hb
            have HOW := Lib.hid how
            have b50 := (hb.cell (p := ⟨B5, 0, none⟩) hz1b).trans K50.out
            have b51 := (hb.cell (p := ⟨B5, 1, none⟩) hz1b).trans K51.out
            clear hb how
            have k0 : (0 : Int) ≤ (k : Int) := by omega
            by_cases hlk : k < n
            · have k1 : (k : Int) < (n : Int) := by omega
              have HCT : Hid (ctCells ((gPts C n).take (k + 1)) = ctCells ((gPts C n).take k) ++ [.int .i64 ((k : Int) / (C : Int)), .int .i64 ((k : Int) % (C : Int))]) := by
                show _ = _
                rw [gPts_take hlk]
                exact ctCells_snoc _ _
              have hCn : ¬ C = 0 := by omega
              have hkC : 0 ≤ (k : Int) / (C : Int) ∧ (k : Int) / (C : Int) ≤ 6 :=
                ⟨Int.ediv_nonneg k0 (by omega), Int.le_trans (Int.ediv_le_self _ k0) (by omega)⟩
              have HWQ : Hid (IntKind.i64.wrap ((k : Int) / (C : Int)) = (k : Int) / (C : Int)) := IntWalk.i64_in _ ⟨by omega, by omega⟩
              have HWQ2 : Hid (wrap64 ((k : Int) / (C : Int)) = (k : Int) / (C : Int)) := IntWalk.wrap64_in _ ⟨by omega, by omega⟩
              clear hkC
              have hwq := HWQ.out
              have hwq2 := HWQ2.out
              go_wp2_with fail
              refine wp_region_held_drew (S := (fun _ => True)) (by kernel_rfl) ?_ (fun hHeld => ?_)
              · exact trivial
              refine wpAnyH_take (i := 0) (v := ?_) rfl (by kernel_rfl) (by kernel_rfl) (by kernel_rfl) (fun _ _ _ h => h) (Or.inl ⟨by rfl, ?_⟩) (by assumption) ?_
              rotate_left
              · (intro w hSw; (try dsimp only at hSw); (try simp only [List.getElem_toArray, List.getElem_cons_succ, List.getElem_cons_zero]); first | (go_simp; done) | (go_simp; with_reducible rfl))
              try simp only [Act.put, List.getElem_toArray, List.getElem_cons_succ, List.getElem_cons_zero, List.setIfInBounds_toArray, List.set_cons_zero, List.set_cons_succ]
              refine wpAnyH_take (i := 1) (v := ?_) rfl (by kernel_rfl) (by kernel_rfl) (by kernel_rfl) (fun _ _ _ h => h) (Or.inl ⟨by rfl, ?_⟩) (by assumption) ?_
              rotate_left
              · (intro w hSw; (try dsimp only at hSw); (try simp only [List.getElem_toArray, List.getElem_cons_succ, List.getElem_cons_zero]); first | (go_simp; done) | (go_simp; with_reducible rfl))
              try simp only [Act.put, List.getElem_toArray, List.getElem_cons_succ, List.getElem_cons_zero, List.setIfInBounds_toArray, List.set_cons_zero, List.set_cons_succ]
              refine wpAnyH_take (i := 2) (v := ?_) rfl (by kernel_rfl) (by kernel_rfl) (by kernel_rfl) (fun _ _ _ h => h) (Or.inl ⟨by rfl, ?_⟩) (by assumption) ?_
              rotate_left
              · (intro w hSw; (try dsimp only at hSw); (try simp only [List.getElem_toArray, List.getElem_cons_succ, List.getElem_cons_zero]); first | (go_simp; done) | (go_simp; with_reducible rfl))
              try simp only [Act.put, List.getElem_toArray, List.getElem_cons_succ, List.getElem_cons_zero, List.setIfInBounds_toArray, List.set_cons_zero, List.set_cons_succ]
              refine wpAnyH_take (i := 3) (v := ?_) rfl (by kernel_rfl) (by kernel_rfl) (by kernel_rfl) (fun _ _ _ h => h) (Or.inl ⟨by rfl, ?_⟩) (by assumption) ?_
              rotate_left
              · (intro w hSw; (try dsimp only at hSw); (try simp only [List.getElem_toArray, List.getElem_cons_succ, List.getElem_cons_zero]); first | (go_simp; done) | (go_simp; with_reducible rfl))
              try simp only [Act.put, List.getElem_toArray, List.getElem_cons_succ, List.getElem_cons_zero, List.setIfInBounds_toArray, List.set_cons_zero, List.set_cons_succ]
              refine wpAnyH_take (i := 4) (v := ?_) rfl (by kernel_rfl) (by kernel_rfl) (by kernel_rfl) (fun _ _ _ h => h) (Or.inl ⟨by rfl, ?_⟩) (by assumption) ?_
              rotate_left
              · (intro w hSw; (try dsimp only at hSw); (try simp only [List.getElem_toArray, List.getElem_cons_succ, List.getElem_cons_zero]); first | (go_simp; done) | (go_simp; with_reducible rfl))
              try simp only [Act.put, List.getElem_toArray, List.getElem_cons_succ, List.getElem_cons_zero, List.setIfInBounds_toArray, List.set_cons_zero, List.set_cons_succ]
              refine wpAnyH_take (i := 5) (v := ?_) rfl (by kernel_rfl) (by kernel_rfl) (by kernel_rfl) (fun _ _ _ h => h) (Or.inl ⟨by rfl, ?_⟩) (by assumption) ?_
              rotate_left
              · (intro w hSw; (try dsimp only at hSw); (try simp only [List.getElem_toArray, List.getElem_cons_succ, List.getElem_cons_zero]); first | (go_simp; done) | (go_simp; with_reducible rfl))
              try simp only [Act.put, List.getElem_toArray, List.getElem_cons_succ, List.getElem_cons_zero, List.setIfInBounds_toArray, List.set_cons_zero, List.set_cons_succ]
              refine wpAnyH_take (i := 6) (v := ?_) rfl (by kernel_rfl) (by kernel_rfl) (by kernel_rfl) (fun _ _ _ h => h) (Or.inl ⟨by rfl, ?_⟩) (by assumption) ?_
              rotate_left
              · (intro w hSw; (try dsimp only at hSw); (try simp only [List.getElem_toArray, List.getElem_cons_succ, List.getElem_cons_zero]); first | (go_simp; done) | (go_simp; with_reducible rfl))
              try simp only [Act.put, List.getElem_toArray, List.getElem_cons_succ, List.getElem_cons_zero, List.setIfInBounds_toArray, List.set_cons_zero, List.set_cons_succ]
              refine wpAnyH_take (i := 7) (v := ?_) rfl (by kernel_rfl) (by kernel_rfl) (by kernel_rfl) (fun _ _ _ h => h) (Or.inl ⟨by rfl, ?_⟩) (by assumption) ?_
              rotate_left
              · (intro w hSw; (try dsimp only at hSw); (try simp only [List.getElem_toArray, List.getElem_cons_succ, List.getElem_cons_zero]); first | (go_simp; done) | (go_simp; with_reducible rfl))
              try simp only [Act.put, List.getElem_toArray, List.getElem_cons_succ, List.getElem_cons_zero, List.setIfInBounds_toArray, List.set_cons_zero, List.set_cons_succ]
              refine wpAnyH_ready (rs := [8]) (by kernel_rfl) (by simp) ?_
              refine AllReadyH.cons rfl (fun K hK => ?_) AllReadyH.nil
              try simp only [List.getElem_toArray, List.getElem_cons_succ, List.getElem_cons_zero]
              go_simp

              refine hK.out _ _ ?_ (fun hHeld => ?_)
              · exact trivial
              clear hK K
              try simp only [Act.put, List.getElem_toArray, List.getElem_cons_succ, List.getElem_cons_zero, List.setIfInBounds_toArray, List.set_cons_zero, List.set_cons_succ]
              refine wpAnyH_ready (rs := [9]) (by kernel_rfl) (by simp) ?_
              refine AllReadyH.cons rfl (fun K hK => ?_) AllReadyH.nil
              refine step_append_lies _ (by rfl) _ _ _ (by rfl) BP 35 i0 _ 2 16 Tryd.underlying33 hi0 hz0 hz1' hz2 rfl (by decide) (.slice (some ⟨g1, 0, none⟩) k cg1) k (ctCells ((gPts C n).take k)) (by rfl) (World.ownsRow.alloc HOW.out _) ⟨wr.heap.size, 0, none⟩ 1 1 [.int .i64 ((k : Int) / (C : Int)), .int .i64 ((k : Int) % (C : Int))] (by rfl) (by rfl) (World.news_of_block (cs := #[.int .i64 ((k : Int) / (C : Int)), .int .i64 ((k : Int) % (C : Int))]) (t := 35) (fr := (0, 0)) (heap_alloc_new wr.drew _)) (by simp [Value.oneCell']) (by omega) (by unfold maxLen; omega) (by omega) (by show BP ≤ _; simp; omega) (wr.heap.size + 1) (by simp) ?_; intro gg cg w9 hown9 hgrow9 hat9 hlt9
              clear hwq hwq2
              have hlo9 := HOW.out.lt
              have hblk9 : ∀ i, i < BP → w9.heap[i]? = wr.heap[i]? := fun i hi => (hgrow9.block i (by simp; omega) (fun e => by have := (hlo9 i e.symm).1; omega)).trans (Below.heap_alloc _ _ _ (by show i < wr.heap.size; omega))
              have hs9 : wr.heap.size + 1 ≤ w9.heap.size := by have := hgrow9.size; simpa using this
              have HB9 : Hid (Below wb.heap.size wb w9) := by
                have h9 := HB0.out
                exact ⟨hgrow9.os.trans h9.os, hgrow9.tape.trans h9.tape, hgrow9.output.trans h9.output, by have := h9.size; omega, fun i hi => (hblk9 i (by omega)).trans (h9.block i hi)⟩
              have HOW9 := Lib.hid hown9
              clear hown9 hgrow9 hat9 hlt9 hlo9 hblk9
              refine hK.out _ _ ?_ (fun hHeld => ?_)
              · exact trivial
              clear hK K
              try simp only [Act.put, List.getElem_toArray, List.getElem_cons_succ, List.getElem_cons_zero, List.setIfInBounds_toArray, List.set_cons_zero, List.set_cons_succ]
              refine wpAnyH_take (i := 10) (v := ?_) rfl (by kernel_rfl) (by kernel_rfl) (by kernel_rfl) (fun _ _ _ h => h) (Or.inl ⟨by rfl, ?_⟩) (by assumption) ?_
              rotate_left
              · (intro w hSw; (try dsimp only at hSw); (try simp only [List.getElem_toArray, List.getElem_cons_succ, List.getElem_cons_zero]); first | (go_simp; done) | (go_simp; with_reducible rfl))
              try simp only [Act.put, List.getElem_toArray, List.getElem_cons_succ, List.getElem_cons_zero, List.setIfInBounds_toArray, List.set_cons_zero, List.set_cons_succ]
              refine wpAnyH_done (by kernel_rfl) ?_ _
              go_wp2_with fail
              go_roundw
              case rel => exact ⟨k + 1, by omega, by go_num, ⟨gg, cg, rfl⟩, by rw [HCT.out]; exact HOW9.out, HB9.out, by omega⟩
              case measure => (simp [intOf]) <;> omega
            · obtain rfl : k = n := by omega
              have htk : (gPts C k).take k = gPts C k := List.take_of_length_le (by rw [gPts_len]; omega)
              rw [htk] at HOW
              have hro : RC wr wr.heap.size (some ⟨g1, 0, none⟩) (gPts C k) := by
                have h9 := HOW.out
                have h8 : wr.ownsRow BP 35 2 (.slice (some ⟨g1, 0, none⟩) (gPts C k).length cg1) (gPts C k).length (ctCells (gPts C k)) := by rw [gPts_len]; exact h9
                exact rc_of_own h8
              have HPQ := Lib.hid hro
              have HPF : Hid (∀ (a b : Nat), a < k → b < k → ∀ (W : World), RC W W.heap.size (some ⟨g1, 0, none⟩) (gPts C k) → Calls Tryd.prog 9 #[.slice (some ⟨g1, 0, none⟩) k cg1, .int .i64 a, .int .i64 b] W fun e w' => e = .returned (.int .i64 (pointsFar (gPts C k) a b)) ∧ Below W.heap.size W w') := fun a b _ _ W h => by
                have h9 := PointsFar_any a b (some ⟨g1, 0, none⟩) cg1 (gPts C k) W h (by rw [gPts_len]; omega)
                rw [gPts_len] at h9; exact h9
              have HNQ := Lib.hid (Q1.out.later HB0.out)
              have HTQ := Lib.hid (HTD.out.later (bstep HBb.out hzd2 HB0.out))
              have hsr : wb.heap.size ≤ wr.heap.size := HB0.out.size
              have hBr : B5 < wr.heap.size := by omega
              clear hro HOW htk
              go_wp2_with fail
              refine (FarTable_any k T1 c1 L _ HNQ.out HNO.out).mono ?_; rintro e3 wf ⟨T, hT, rfl, htab, hbf⟩
              have HBF := Lib.hid (bstep (B := wd.heap.size) (W := wd) (bstep HBb.out hzd2 HB0.out) (by omega) hbf)
              have F50 := Lib.hid ((hbf.cell (p := ⟨B5, 0, none⟩) hBr).trans b50)
              have F51 := Lib.hid ((hbf.cell (p := ⟨B5, 1, none⟩) hBr).trans b51)
              have HNF := Lib.hid (HNQ.out.later hbf)
              have HTF := Lib.hid (HTQ.out.later hbf)
              have HPP := Lib.hid (HPQ.out.later hbf)
              have HTAB := Lib.hid htab
              have hz5f : B5 < wf.heap.size := Nat.lt_of_lt_of_le hBr hbf.size
              have hzdf : wd.heap.size ≤ wf.heap.size := HBF.out.size
              clear hbf htab b50 b51 HB0 HNQ HTQ HPQ
              go_wp2_with fail
              go_loopw [13] (fun i wr => ∃ a : Nat, a ≤ k ∧ i = .int .i64 a ∧ Below wf.heap.size wf wr) (fun i _ => k - (intOf i).toNat)
              case atStart => exact ⟨0, Nat.zero_le _, rfl, Below.refl _ _⟩
              case round =>
                obtain ⟨a, ha, rfl, hb⟩ := hrel
                have HF0 := Lib.hid hb
                have a0 : (0 : Int) ≤ (a : Int) := by omega
                have t50 := (hb.cell (p := ⟨B5, 0, none⟩) hz5f).trans F50.out
                clear hb
                by_cases hla : a < k
                · have a1 : (a : Int) < (k : Int) := by omega
                  go_wp2_with fail
                  clear t50
                  go_loopw [14] (fun i wr => ∃ b : Nat, b ≤ a ∧ i = .int .i64 b ∧ Below wf.heap.size wf wr) (fun i _ => a - (intOf i).toNat)
                  case atStart => exact ⟨0, Nat.zero_le _, rfl, HF0.out⟩
                  case round =>
                    clear HF0
                    obtain ⟨b, hbl, rfl, hb⟩ := hrel
                    have HF0 := Lib.hid hb
                    have b0 : (0 : Int) ≤ (b : Int) := by omega
                    clear hb
                    by_cases hlb : b < a
                    · have b1 : (b : Int) < (a : Int) := by omega
                      have b2 : (b : Int) < (k : Int) := by omega
                      have y5 : B5 < wr.heap.size := by have := HF0.out.size; have := HBF.out.size; omega
                      have t50 := (HF0.out.cell (p := ⟨B5, 0, none⟩) hz5f).trans F50.out
                      have t51 := (HF0.out.cell (p := ⟨B5, 1, none⟩) hz5f).trans F51.out
                      have HNR := Lib.hid (HNF.out.later HF0.out)
                      have HTR := Lib.hid (HTF.out.later HF0.out)
                      have HPR := Lib.hid (HPP.out.later HF0.out)
                      have htr := HTAB.out.below HF0.out
                      have tT := htr.top a hla
                      have tR := (htr.row a b hla (by omega)).1
                      have yT : T < wr.heap.size := by have := htr.los; have := htr.his; omega
                      have yR : T + 1 + a < wr.heap.size := by have := htr.his; omega
                      obtain ⟨D, hD⟩ : ∃ D, farF L k a b = D := ⟨_, rfl⟩
                      have HD : Hid (pointsFar (gPts C k) a b = D) := HFP.out a b hla (by omega) D hD
                      rw [hD] at tR
                      have hnn : ((k : Int) != (k : Int)) = false := by simp
                      have hdd : (D != D) = false := by simp
                      clear hD htr
                      go_wp2_with fail
                      refine wp_region_held_drew (S := (fun w' => w'.cell? ⟨B5, 0, none⟩ = some (.int .i64 k) ∧ w'.cell? ⟨T, a, none⟩ = some (.slice (some ⟨T + 1 + a, 0, none⟩) k k) ∧ w'.cell? ⟨T + 1 + a, b, none⟩ = some (.int .i64 D))) (by kernel_rfl) ?_ (fun hHeld => ?_)
                      · exact ⟨t50, tT, tR⟩
                      refine wpAnyH_take (i := 0) (v := ?_) rfl (by kernel_rfl) (by kernel_rfl) (by kernel_rfl) (fun _ _ _ h => h) (Or.inl ⟨by rfl, ?_⟩) (by assumption) ?_
                      rotate_left
                      · (intro w hSw; (try dsimp only at hSw); (try simp only [List.getElem_toArray, List.getElem_cons_succ, List.getElem_cons_zero]); first | (go_simp; done) | (go_simp; with_reducible rfl))
                      try simp only [Act.put, List.getElem_toArray, List.getElem_cons_succ, List.getElem_cons_zero, List.setIfInBounds_toArray, List.set_cons_zero, List.set_cons_succ]
                      refine wpAnyH_take (i := 1) (v := ?_) rfl (by kernel_rfl) (by kernel_rfl) (by kernel_rfl) (fun _ _ _ h => h) (Or.inl ⟨by rfl, ?_⟩) (by assumption) ?_
                      rotate_left
                      · (intro w hSw; (try dsimp only at hSw); (try simp only [List.getElem_toArray, List.getElem_cons_succ, List.getElem_cons_zero]); first | (go_simp; done) | (go_simp; with_reducible rfl))
                      try simp only [Act.put, List.getElem_toArray, List.getElem_cons_succ, List.getElem_cons_zero, List.setIfInBounds_toArray, List.set_cons_zero, List.set_cons_succ]
                      refine wpAnyH_take (i := 2) (v := ?_) rfl (by kernel_rfl) (by kernel_rfl) (by kernel_rfl) (fun _ _ _ h => h) (Or.inl ⟨by rfl, ?_⟩) (by assumption) ?_
                      rotate_left
                      · (intro w hSw; (try dsimp only at hSw); (try simp only [List.getElem_toArray, List.getElem_cons_succ, List.getElem_cons_zero]); first | (go_simp; done) | (go_simp; with_reducible rfl))
                      try simp only [Act.put, List.getElem_toArray, List.getElem_cons_succ, List.getElem_cons_zero, List.setIfInBounds_toArray, List.set_cons_zero, List.set_cons_succ]
                      refine wpAnyH_take (i := 3) (v := ?_) rfl (by kernel_rfl) (by kernel_rfl) (by kernel_rfl) (fun _ _ _ h => h) (Or.inl ⟨by rfl, ?_⟩) (by assumption) ?_
                      rotate_left
                      · (intro w hSw; (try dsimp only at hSw); (try simp only [List.getElem_toArray, List.getElem_cons_succ, List.getElem_cons_zero]); first | (go_simp; done) | (go_simp; with_reducible rfl))
                      try simp only [Act.put, List.getElem_toArray, List.getElem_cons_succ, List.getElem_cons_zero, List.setIfInBounds_toArray, List.set_cons_zero, List.set_cons_succ]
                      refine wpAnyH_take (i := 4) (v := ?_) rfl (by kernel_rfl) (by kernel_rfl) (by kernel_rfl) (fun _ _ _ h => h) (Or.inl ⟨by rfl, ?_⟩) (by assumption) ?_
                      rotate_left
                      · (intro w hSw; (try dsimp only at hSw); (try simp only [List.getElem_toArray, List.getElem_cons_succ, List.getElem_cons_zero]); first | (go_simp; done) | (go_simp; with_reducible rfl))
                      try simp only [Act.put, List.getElem_toArray, List.getElem_cons_succ, List.getElem_cons_zero, List.setIfInBounds_toArray, List.set_cons_zero, List.set_cons_succ]
                      refine wpAnyH_take (i := 5) (v := ?_) rfl (by kernel_rfl) (by kernel_rfl) (by kernel_rfl) (fun _ _ _ h => h) (Or.inl ⟨by rfl, ?_⟩) (by assumption) ?_
                      rotate_left
                      · (intro w hSw; (try dsimp only at hSw); (try simp only [List.getElem_toArray, List.getElem_cons_succ, List.getElem_cons_zero]); first | (go_simp; done) | (go_simp; with_reducible rfl))
                      try simp only [Act.put, List.getElem_toArray, List.getElem_cons_succ, List.getElem_cons_zero, List.setIfInBounds_toArray, List.set_cons_zero, List.set_cons_succ]
                      refine wpAnyH_take (i := 6) (v := ?_) rfl (by kernel_rfl) (by kernel_rfl) (by kernel_rfl) (fun _ _ _ h => h) (Or.inl ⟨by rfl, ?_⟩) (by assumption) ?_
                      rotate_left
                      · (intro w hSw; (try dsimp only at hSw); (try simp only [List.getElem_toArray, List.getElem_cons_succ, List.getElem_cons_zero]); first | (go_simp; done) | (go_simp; with_reducible rfl))
                      try simp only [Act.put, List.getElem_toArray, List.getElem_cons_succ, List.getElem_cons_zero, List.setIfInBounds_toArray, List.set_cons_zero, List.set_cons_succ]
                      refine wpAnyH_take (i := 7) (v := ?_) rfl (by kernel_rfl) (by kernel_rfl) (by kernel_rfl) (fun _ _ _ h => h) (Or.inl ⟨by rfl, ?_⟩) (by assumption) ?_
                      rotate_left
                      · (intro w hSw; (try dsimp only at hSw); (try simp only [List.getElem_toArray, List.getElem_cons_succ, List.getElem_cons_zero]); first | (go_simp; done) | (go_simp; with_reducible rfl))
                      try simp only [Act.put, List.getElem_toArray, List.getElem_cons_succ, List.getElem_cons_zero, List.setIfInBounds_toArray, List.set_cons_zero, List.set_cons_succ]
                      refine wpAnyH_take (i := 8) (v := ?_) rfl (by kernel_rfl) (by kernel_rfl) (by kernel_rfl) (fun _ _ _ h => h) (Or.inl ⟨by rfl, ?_⟩) (by assumption) ?_
                      rotate_left
                      · (intro w hSw; (try dsimp only at hSw); (try simp only [List.getElem_toArray, List.getElem_cons_succ, List.getElem_cons_zero]); first | (go_simp; done) | (go_simp; with_reducible rfl))
                      try simp only [Act.put, List.getElem_toArray, List.getElem_cons_succ, List.getElem_cons_zero, List.setIfInBounds_toArray, List.set_cons_zero, List.set_cons_succ]
                      refine wpAnyH_take (i := 9) (v := ?_) rfl (by kernel_rfl) (by kernel_rfl) (by kernel_rfl) (fun _ _ _ h => h) (Or.inl ⟨by rfl, ?_⟩) (by assumption) ?_
                      rotate_left
                      · (intro w hSw; (try dsimp only at hSw); (try simp only [List.getElem_toArray, List.getElem_cons_succ, List.getElem_cons_zero]); first | (go_simp; done) | (go_simp; with_reducible rfl))
                      try simp only [Act.put, List.getElem_toArray, List.getElem_cons_succ, List.getElem_cons_zero, List.setIfInBounds_toArray, List.set_cons_zero, List.set_cons_succ]
                      refine wpAnyH_take (i := 10) (v := ?_) rfl (by kernel_rfl) (by kernel_rfl) (by kernel_rfl) (fun _ _ _ h => h) (Or.inl ⟨by rfl, ?_⟩) (by assumption) ?_
                      rotate_left
                      · (intro w hSw; (try dsimp only at hSw); (try simp only [List.getElem_toArray, List.getElem_cons_succ, List.getElem_cons_zero]); first | (go_simp; done) | (go_simp; with_reducible rfl))
                      try simp only [Act.put, List.getElem_toArray, List.getElem_cons_succ, List.getElem_cons_zero, List.setIfInBounds_toArray, List.set_cons_zero, List.set_cons_succ]
                      refine wpAnyH_take (i := 11) (v := ?_) rfl (by kernel_rfl) (by kernel_rfl) (by kernel_rfl) (fun _ _ _ h => h) (Or.inl ⟨by rfl, ?_⟩) (by assumption) ?_
                      rotate_left
                      · (intro w hSw; (try dsimp only at hSw); (try simp only [List.getElem_toArray, List.getElem_cons_succ, List.getElem_cons_zero]); first | (go_simp; done) | (go_simp; with_reducible rfl))
                      try simp only [Act.put, List.getElem_toArray, List.getElem_cons_succ, List.getElem_cons_zero, List.setIfInBounds_toArray, List.set_cons_zero, List.set_cons_succ]
                      refine wpAnyH_take (i := 12) (v := ?_) rfl (by kernel_rfl) (by kernel_rfl) (by kernel_rfl) (fun _ _ _ h => h) (Or.inl ⟨by rfl, ?_⟩) (by assumption) ?_
                      rotate_left
                      · (intro w hSw; (try dsimp only at hSw); (try simp only [List.getElem_toArray, List.getElem_cons_succ, List.getElem_cons_zero]); first | (go_simp; done) | (go_simp; with_reducible rfl))
                      try simp only [Act.put, List.getElem_toArray, List.getElem_cons_succ, List.getElem_cons_zero, List.setIfInBounds_toArray, List.set_cons_zero, List.set_cons_succ]
                      refine wpAnyH_take (i := 13) (v := ?_) rfl (by kernel_rfl) (by kernel_rfl) (by kernel_rfl) (fun _ _ _ h => h) (Or.inl ⟨by rfl, ?_⟩) (by assumption) ?_
                      rotate_left
                      · (intro w hSw; (try dsimp only at hSw); (try simp only [List.getElem_toArray, List.getElem_cons_succ, List.getElem_cons_zero]); first | (go_simp; done) | (go_simp; with_reducible rfl))
                      try simp only [Act.put, List.getElem_toArray, List.getElem_cons_succ, List.getElem_cons_zero, List.setIfInBounds_toArray, List.set_cons_zero, List.set_cons_succ]
                      refine wpAnyH_take (i := 14) (v := ?_) rfl (by kernel_rfl) (by kernel_rfl) (by kernel_rfl) (fun _ _ _ h => h) (Or.inl ⟨by rfl, ?_⟩) (by assumption) ?_
                      rotate_left
                      · (intro w hSw; (try dsimp only at hSw); (try simp only [List.getElem_toArray, List.getElem_cons_succ, List.getElem_cons_zero]); first | (go_simp; done) | (go_simp; with_reducible rfl))
                      try simp only [Act.put, List.getElem_toArray, List.getElem_cons_succ, List.getElem_cons_zero, List.setIfInBounds_toArray, List.set_cons_zero, List.set_cons_succ]
                      refine wpAnyH_take (i := 15) (v := ?_) rfl (by kernel_rfl) (by kernel_rfl) (by kernel_rfl) (fun _ _ _ h => h) (Or.inl ⟨by rfl, ?_⟩) (by assumption) ?_
                      rotate_left
                      · (intro w hSw; (try dsimp only at hSw); (try simp only [List.getElem_toArray, List.getElem_cons_succ, List.getElem_cons_zero]); first | (go_simp; done) | (go_simp; with_reducible rfl))
                      try simp only [Act.put, List.getElem_toArray, List.getElem_cons_succ, List.getElem_cons_zero, List.setIfInBounds_toArray, List.set_cons_zero, List.set_cons_succ]
                      refine wpAnyH_ready (rs := [16]) (by kernel_rfl) (by simp) ?_
                      refine AllReadyH.cons rfl (fun K hK => ?_) AllReadyH.nil
                      try simp only [List.getElem_toArray, List.getElem_cons_succ, List.getElem_cons_zero]
                      go_simp
                      go_at_call 9; refine (HPF.out a b hla (by omega) _ (HPR.out.drewNR _)).mono ?_; rintro e16 w16 ⟨rfl, hb16⟩; rw [HD.out]; have g16 : Below wr.heap.size wr w16 := und hb16; have k16 := (⟨(g16.cell (p := ⟨B5, 0, none⟩) y5).trans t50, (g16.cell (p := ⟨T, a, none⟩) yT).trans tT, (g16.cell (p := ⟨T + 1 + a, b, none⟩) yR).trans tR⟩ : _ ∧ _ ∧ _)
                      refine hK.out _ _ ?_ (fun hHeld => ?_)
                      · exact k16
                      clear hK K
                      try simp only [Act.put, List.getElem_toArray, List.getElem_cons_succ, List.getElem_cons_zero, List.setIfInBounds_toArray, List.set_cons_zero, List.set_cons_succ]
                      refine wpAnyH_take (i := 17) (v := ?_) rfl (by kernel_rfl) (by kernel_rfl) (by kernel_rfl) (fun _ _ _ h => h) (Or.inl ⟨by rfl, ?_⟩) (by assumption) ?_
                      rotate_left
                      · (intro w hSw; (try dsimp only at hSw); (try simp only [List.getElem_toArray, List.getElem_cons_succ, List.getElem_cons_zero]); first | (go_simp; done) | (go_simp; with_reducible rfl))
                      try simp only [Act.put, List.getElem_toArray, List.getElem_cons_succ, List.getElem_cons_zero, List.setIfInBounds_toArray, List.set_cons_zero, List.set_cons_succ]
                      refine wpAnyH_take (i := 18) (v := ?_) rfl (by kernel_rfl) (by kernel_rfl) (by kernel_rfl) (fun _ _ _ h => h) (Or.inl ⟨by rfl, ?_⟩) (by assumption) ?_
                      rotate_left
                      · (intro w hSw; (try dsimp only at hSw); (try simp only [List.getElem_toArray, List.getElem_cons_succ, List.getElem_cons_zero]); first | (go_simp; done) | (go_simp; with_reducible rfl))
                      try simp only [Act.put, List.getElem_toArray, List.getElem_cons_succ, List.getElem_cons_zero, List.setIfInBounds_toArray, List.set_cons_zero, List.set_cons_succ]
                      refine wpAnyH_done (by kernel_rfl) ?_ _
                      have HF1 := Lib.hid (bstep HF0.out HF0.out.size g16)
                      clear t50 t51 tT tR hb16 g16 k16 HNR HTR HPR HF0
                      go_wp2_with fail
                      go_loopw [15] (fun i wr => ∃ c : Nat, c ≤ b ∧ i = .int .i64 c ∧ Below wf.heap.size wf wr) (fun i _ => b - (intOf i).toNat)
                      case atStart => exact ⟨0, Nat.zero_le _, rfl, ⟨HF1.out.os, HF1.out.tape, HF1.out.output, HF1.out.size, HF1.out.block⟩⟩
                      case round =>
                        clear HF1
                        obtain ⟨c, hcl, rfl, hb⟩ := hrel
                        have HF0 := Lib.hid hb
                        have c0 : (0 : Int) ≤ (c : Int) := by omega
                        clear hb
                        by_cases hlc : c < b
                        · have c9 : (c : Int) < (b : Int) := by omega
                          have c2 : (c : Int) < (k : Int) := by omega
                          have y5 : B5 < wr.heap.size := by have := HF0.out.size; have := HBF.out.size; omega
                          have t50 := (HF0.out.cell (p := ⟨B5, 0, none⟩) hz5f).trans F50.out
                          have t51 := (HF0.out.cell (p := ⟨B5, 1, none⟩) hz5f).trans F51.out
                          have HNR := Lib.hid (HNF.out.later HF0.out)
                          have HTR := Lib.hid (HTF.out.later HF0.out)
                          have HPR := Lib.hid (HPP.out.later HF0.out)
                          have htr := HTAB.out.below HF0.out
                          obtain ⟨⟨pa, qa⟩, hpa⟩ : ∃ p, gPt C a = p := ⟨_, rfl⟩
                          obtain ⟨⟨pb, qb⟩, hpb⟩ : ∃ p, gPt C b = p := ⟨_, rfl⟩
                          obtain ⟨⟨pc, qc⟩, hpc⟩ : ∃ p, gPt C c = p := ⟨_, rfl⟩
                          obtain ⟨g', o', e9, yg, u0, u1⟩ := HPR.out a _ (gPts_at hla)
                          injection e9 with e9; injection e9 with e91 e92; subst e91; subst e92
                          obtain ⟨g', o', e9, -, v0, v1⟩ := HPR.out b _ (gPts_at (by omega))
                          injection e9 with e9; injection e9 with e91 e92; subst e91; subst e92
                          obtain ⟨g', o', e9, -, x0, x1⟩ := HPR.out c _ (gPts_at (by omega))
                          injection e9 with e9; injection e9 with e91 e92; subst e91; subst e92
                          simp only [Nat.zero_add, hpa, hpb, hpc] at u0 u1 v0 v1 x0 x1
                          obtain ⟨X, hX1, hX2⟩ := HRO.out a b c hla (by omega) (by omega)
                          rw [hpa, hpb, hpc] at hX2
                          have HRC : Hid (∀ W : World, RW W W.heap.size T1 L → Tab W → Calls Tryd.prog 10 #[.agg #[.int .i64 k, .slice T1 L.length c1], .int .i64 (tri a b c)] W fun e w' => e = .returned (.int .i64 X) ∧ Below W.heap.size W w') := fun W h1 h2 => by
                            have h9 := RootCost_any (k : Int) (tri a b c) T1 c1 L W h1 h2
                            rw [hX1] at h9; exact h9
                          have HHR : Hid (∀ (W : World) (Ap : Option Addr) (cp : Nat), RC W W.heap.size Ap [(pa, qa), (pb, qb), (pc, qc)] → Calls Tryd.prog 11 #[.slice Ap 3 cp] W fun e w' => e = .returned (.int .i64 X) ∧ Below W.heap.size W w') := fun W Ap cp h => by
                            have h9 := HalfRound_any Ap cp [(pa, qa), (pb, qb), (pc, qc)] W h (by simp)
                            rw [hX2] at h9; exact h9
                          have pwa := pow_bd (a : Int) 5 (by omega)
                          have pwb := pow_bd (b : Int) 5 (by omega)
                          have pwc := pow_bd (c : Int) 5 (by omega)
                          rw [Int.toNat_natCast] at pwa pwb pwc
                          have hib := ior_bd (2 ^ a) (2 ^ b) 6 (by omega) (by omega)
                          have hor : bits .or .i64 (2 ^ a) (2 ^ b) = ior (2 ^ a) (2 ^ b) := bits_or _ _ (by omega) (by omega) (by omega) (by omega)
                          have hor2 : bits .or .i64 (ior (2 ^ a) (2 ^ b)) (2 ^ c) = tri a b c := bits_or _ _ (by omega) (by omega) (by omega) (by omega)
                          have HWA : Hid (IntKind.i64.wrap (2 ^ a) = 2 ^ a) := IntWalk.i64_in _ ⟨by omega, by omega⟩
                          have HWB2 : Hid (IntKind.i64.wrap (2 ^ b) = 2 ^ b) := IntWalk.i64_in _ ⟨by omega, by omega⟩
                          have HWC : Hid (IntKind.i64.wrap (2 ^ c) = 2 ^ c) := IntWalk.i64_in _ ⟨by omega, by omega⟩
                          have HXA : Hid (wrap64 (2 ^ a) = 2 ^ a) := IntWalk.wrap64_in _ ⟨by omega, by omega⟩
                          have HXB : Hid (wrap64 (2 ^ b) = 2 ^ b) := IntWalk.wrap64_in _ ⟨by omega, by omega⟩
                          have HXC : Hid (wrap64 (2 ^ c) = 2 ^ c) := IntWalk.wrap64_in _ ⟨by omega, by omega⟩
                          have hxx : (X != X) = false := by simp
                          clear pwa pwb pwc hib hX1 hX2 hpa hpb hpc htr
                          have hwa := HWA.out
                          have hwb := HWB2.out
                          have hwc := HWC.out
                          have hxa := HXA.out
                          have hxb := HXB.out
                          have hxc := HXC.out
                          go_wp2_with fail
                          refine wp_region_held_drew (S := (fun w' => w'.cell? ⟨B5, 0, none⟩ = some (.int .i64 k) ∧ w'.cell? ⟨B5, 1, none⟩ = some (.slice T1 L.length c1) ∧ w'.cell? ⟨g1, a * 2, none⟩ = some (.int .i64 pa) ∧ w'.cell? ⟨g1, a * 2 + 1, none⟩ = some (.int .i64 qa) ∧ w'.cell? ⟨g1, b * 2, none⟩ = some (.int .i64 pb) ∧ w'.cell? ⟨g1, b * 2 + 1, none⟩ = some (.int .i64 qb) ∧ w'.cell? ⟨g1, c * 2, none⟩ = some (.int .i64 pc) ∧ w'.cell? ⟨g1, c * 2 + 1, none⟩ = some (.int .i64 qc))) (by kernel_rfl) ?_ (fun hHeld => ?_)
                          · exact ⟨t50, t51, u0, u1, v0, v1, x0, x1⟩
                          refine wpAnyH_take (i := 0) (v := ?_) rfl (by kernel_rfl) (by kernel_rfl) (by kernel_rfl) (fun _ _ _ h => h) (Or.inl ⟨by rfl, ?_⟩) (by assumption) ?_
                          rotate_left
                          · (intro w hSw; (try dsimp only at hSw); (try simp only [List.getElem_toArray, List.getElem_cons_succ, List.getElem_cons_zero]); first | (go_simp; done) | (go_simp; with_reducible rfl))
                          try simp only [Act.put, List.getElem_toArray, List.getElem_cons_succ, List.getElem_cons_zero, List.setIfInBounds_toArray, List.set_cons_zero, List.set_cons_succ]
                          refine wpAnyH_take (i := 1) (v := ?_) rfl (by kernel_rfl) (by kernel_rfl) (by kernel_rfl) (fun _ _ _ h => h) (Or.inl ⟨by rfl, ?_⟩) (by assumption) ?_
                          rotate_left
                          · (intro w hSw; (try dsimp only at hSw); (try simp only [List.getElem_toArray, List.getElem_cons_succ, List.getElem_cons_zero]); first | (go_simp; done) | (go_simp; with_reducible rfl))
                          try simp only [Act.put, List.getElem_toArray, List.getElem_cons_succ, List.getElem_cons_zero, List.setIfInBounds_toArray, List.set_cons_zero, List.set_cons_succ]
                          refine wpAnyH_take (i := 2) (v := ?_) rfl (by kernel_rfl) (by kernel_rfl) (by kernel_rfl) (fun _ _ _ h => h) (Or.inl ⟨by rfl, ?_⟩) (by assumption) ?_
                          rotate_left
                          · (intro w hSw; (try dsimp only at hSw); (try simp only [List.getElem_toArray, List.getElem_cons_succ, List.getElem_cons_zero]); first | (go_simp; done) | (go_simp; with_reducible rfl))
                          try simp only [Act.put, List.getElem_toArray, List.getElem_cons_succ, List.getElem_cons_zero, List.setIfInBounds_toArray, List.set_cons_zero, List.set_cons_succ]
                          refine wpAnyH_take (i := 3) (v := ?_) rfl (by kernel_rfl) (by kernel_rfl) (by kernel_rfl) (fun _ _ _ h => h) (Or.inl ⟨by rfl, ?_⟩) (by assumption) ?_
                          rotate_left
                          · (intro w hSw; (try dsimp only at hSw); (try simp only [List.getElem_toArray, List.getElem_cons_succ, List.getElem_cons_zero]); first | (go_simp; done) | (go_simp; with_reducible rfl))
                          try simp only [Act.put, List.getElem_toArray, List.getElem_cons_succ, List.getElem_cons_zero, List.setIfInBounds_toArray, List.set_cons_zero, List.set_cons_succ]
                          refine wpAnyH_take (i := 4) (v := ?_) rfl (by kernel_rfl) (by kernel_rfl) (by kernel_rfl) (fun _ _ _ h => h) (Or.inl ⟨by rfl, ?_⟩) (by assumption) ?_
                          rotate_left
                          · (intro w hSw; (try dsimp only at hSw); (try simp only [List.getElem_toArray, List.getElem_cons_succ, List.getElem_cons_zero]); first | (go_simp; done) | (go_simp; with_reducible rfl))
                          try simp only [Act.put, List.getElem_toArray, List.getElem_cons_succ, List.getElem_cons_zero, List.setIfInBounds_toArray, List.set_cons_zero, List.set_cons_succ]
                          refine wpAnyH_take (i := 5) (v := ?_) rfl (by kernel_rfl) (by kernel_rfl) (by kernel_rfl) (fun _ _ _ h => h) (Or.inl ⟨by rfl, ?_⟩) (by assumption) ?_
                          rotate_left
                          · (intro w hSw; (try dsimp only at hSw); (try simp only [List.getElem_toArray, List.getElem_cons_succ, List.getElem_cons_zero]); first | (go_simp; done) | (go_simp; with_reducible rfl))
                          try simp only [Act.put, List.getElem_toArray, List.getElem_cons_succ, List.getElem_cons_zero, List.setIfInBounds_toArray, List.set_cons_zero, List.set_cons_succ]
                          refine wpAnyH_take (i := 6) (v := ?_) rfl (by kernel_rfl) (by kernel_rfl) (by kernel_rfl) (fun _ _ _ h => h) (Or.inl ⟨by rfl, ?_⟩) (by assumption) ?_
                          rotate_left
                          · (intro w hSw; (try dsimp only at hSw); (try simp only [List.getElem_toArray, List.getElem_cons_succ, List.getElem_cons_zero]); first | (go_simp; done) | (go_simp; with_reducible rfl))
                          try simp only [Act.put, List.getElem_toArray, List.getElem_cons_succ, List.getElem_cons_zero, List.setIfInBounds_toArray, List.set_cons_zero, List.set_cons_succ]
                          refine wpAnyH_take (i := 7) (v := ?_) rfl (by kernel_rfl) (by kernel_rfl) (by kernel_rfl) (fun _ _ _ h => h) (Or.inl ⟨by rfl, ?_⟩) (by assumption) ?_
                          rotate_left
                          · (intro w hSw; (try dsimp only at hSw); (try simp only [List.getElem_toArray, List.getElem_cons_succ, List.getElem_cons_zero]); first | (go_simp; done) | (go_simp; with_reducible rfl))
                          try simp only [Act.put, List.getElem_toArray, List.getElem_cons_succ, List.getElem_cons_zero, List.setIfInBounds_toArray, List.set_cons_zero, List.set_cons_succ]
                          refine wpAnyH_take (i := 8) (v := ?_) rfl (by kernel_rfl) (by kernel_rfl) (by kernel_rfl) (fun _ _ _ h => h) (Or.inl ⟨by rfl, ?_⟩) (by assumption) ?_
                          rotate_left
                          · (intro w hSw; (try dsimp only at hSw); (try simp only [List.getElem_toArray, List.getElem_cons_succ, List.getElem_cons_zero]); first | (go_simp; done) | (go_simp; with_reducible rfl))
                          try simp only [Act.put, List.getElem_toArray, List.getElem_cons_succ, List.getElem_cons_zero, List.setIfInBounds_toArray, List.set_cons_zero, List.set_cons_succ]
                          refine wpAnyH_take (i := 10) (v := ?_) rfl (by kernel_rfl) (by kernel_rfl) (by kernel_rfl) (fun _ _ _ h => h) (Or.inl ⟨by rfl, ?_⟩) (by assumption) ?_
                          rotate_left
                          · (intro w hSw; (try dsimp only at hSw); (try simp only [List.getElem_toArray, List.getElem_cons_succ, List.getElem_cons_zero]); first | (go_simp; done) | (go_simp; with_reducible rfl))
                          try simp only [Act.put, List.getElem_toArray, List.getElem_cons_succ, List.getElem_cons_zero, List.setIfInBounds_toArray, List.set_cons_zero, List.set_cons_succ]
                          refine wpAnyH_take (i := 11) (v := ?_) rfl (by kernel_rfl) (by kernel_rfl) (by kernel_rfl) (fun _ _ _ h => h) (Or.inl ⟨by rfl, ?_⟩) (by assumption) ?_
                          rotate_left
                          · (intro w hSw; (try dsimp only at hSw); (try simp only [List.getElem_toArray, List.getElem_cons_succ, List.getElem_cons_zero]); first | (go_simp; done) | (go_simp; with_reducible rfl))
                          try simp only [Act.put, List.getElem_toArray, List.getElem_cons_succ, List.getElem_cons_zero, List.setIfInBounds_toArray, List.set_cons_zero, List.set_cons_succ]
                          refine wpAnyH_take (i := 12) (v := ?_) rfl (by kernel_rfl) (by kernel_rfl) (by kernel_rfl) (fun _ _ _ h => h) (Or.inl ⟨by rfl, ?_⟩) (by assumption) ?_
                          rotate_left
                          · (intro w hSw; (try dsimp only at hSw); (try simp only [List.getElem_toArray, List.getElem_cons_succ, List.getElem_cons_zero]); first | (go_simp; done) | (go_simp; with_reducible rfl))
                          try simp only [Act.put, List.getElem_toArray, List.getElem_cons_succ, List.getElem_cons_zero, List.setIfInBounds_toArray, List.set_cons_zero, List.set_cons_succ]
                          refine wpAnyH_take (i := 13) (v := ?_) rfl (by kernel_rfl) (by kernel_rfl) (by kernel_rfl) (fun _ _ _ h => h) (Or.inl ⟨by rfl, ?_⟩) (by assumption) ?_
                          rotate_left
                          · (intro w hSw; (try dsimp only at hSw); (try simp only [List.getElem_toArray, List.getElem_cons_succ, List.getElem_cons_zero]); first | (go_simp; done) | (go_simp; with_reducible rfl))
                          try simp only [Act.put, List.getElem_toArray, List.getElem_cons_succ, List.getElem_cons_zero, List.setIfInBounds_toArray, List.set_cons_zero, List.set_cons_succ]
                          refine wpAnyH_take (i := 14) (v := ?_) rfl (by kernel_rfl) (by kernel_rfl) (by kernel_rfl) (fun _ _ _ h => h) (Or.inl ⟨by rfl, ?_⟩) (by assumption) ?_
                          rotate_left
                          · (intro w hSw; (try dsimp only at hSw); (try simp only [List.getElem_toArray, List.getElem_cons_succ, List.getElem_cons_zero]); first | (go_simp; done) | (go_simp; with_reducible rfl))
                          try simp only [Act.put, List.getElem_toArray, List.getElem_cons_succ, List.getElem_cons_zero, List.setIfInBounds_toArray, List.set_cons_zero, List.set_cons_succ]
                          refine wpAnyH_take (i := 15) (v := ?_) rfl (by kernel_rfl) (by kernel_rfl) (by kernel_rfl) (fun _ _ _ h => h) (Or.inl ⟨by rfl, ?_⟩) (by assumption) ?_
                          rotate_left
                          · (intro w hSw; (try dsimp only at hSw); (try simp only [List.getElem_toArray, List.getElem_cons_succ, List.getElem_cons_zero]); first | (go_simp; done) | (go_simp; with_reducible rfl))
                          try simp only [Act.put, List.getElem_toArray, List.getElem_cons_succ, List.getElem_cons_zero, List.setIfInBounds_toArray, List.set_cons_zero, List.set_cons_succ]
                          refine wpAnyH_take (i := 16) (v := ?_) rfl (by kernel_rfl) (by kernel_rfl) (by kernel_rfl) (fun _ _ _ h => h) (Or.inl ⟨by rfl, ?_⟩) (by assumption) ?_
                          rotate_left
                          · (intro w hSw; (try dsimp only at hSw); (try simp only [List.getElem_toArray, List.getElem_cons_succ, List.getElem_cons_zero]); first | (go_simp; done) | (go_simp; with_reducible rfl))
                          try simp only [Act.put, List.getElem_toArray, List.getElem_cons_succ, List.getElem_cons_zero, List.setIfInBounds_toArray, List.set_cons_zero, List.set_cons_succ]
                          refine wpAnyH_take (i := 17) (v := ?_) rfl (by kernel_rfl) (by kernel_rfl) (by kernel_rfl) (fun _ _ _ h => h) (Or.inl ⟨by rfl, ?_⟩) (by assumption) ?_
                          rotate_left
                          · (intro w hSw; (try dsimp only at hSw); (try simp only [List.getElem_toArray, List.getElem_cons_succ, List.getElem_cons_zero]); first | (go_simp; done) | (go_simp; with_reducible rfl))
                          try simp only [Act.put, List.getElem_toArray, List.getElem_cons_succ, List.getElem_cons_zero, List.setIfInBounds_toArray, List.set_cons_zero, List.set_cons_succ]
                          refine wpAnyH_take (i := 18) (v := ?_) rfl (by kernel_rfl) (by kernel_rfl) (by kernel_rfl) (fun _ _ _ h => h) (Or.inl ⟨by rfl, ?_⟩) (by assumption) ?_
                          rotate_left
                          · (intro w hSw; (try dsimp only at hSw); (try simp only [List.getElem_toArray, List.getElem_cons_succ, List.getElem_cons_zero]); first | (go_simp; done) | (go_simp; with_reducible rfl))
                          try simp only [Act.put, List.getElem_toArray, List.getElem_cons_succ, List.getElem_cons_zero, List.setIfInBounds_toArray, List.set_cons_zero, List.set_cons_succ]
                          refine wpAnyH_take (i := 19) (v := ?_) rfl (by kernel_rfl) (by kernel_rfl) (by kernel_rfl) (fun _ _ _ h => h) (Or.inl ⟨by rfl, ?_⟩) (by assumption) ?_
                          rotate_left
                          · (intro w hSw; (try dsimp only at hSw); (try simp only [List.getElem_toArray, List.getElem_cons_succ, List.getElem_cons_zero]); first | (go_simp; done) | (go_simp; with_reducible rfl))
                          try simp only [Act.put, List.getElem_toArray, List.getElem_cons_succ, List.getElem_cons_zero, List.setIfInBounds_toArray, List.set_cons_zero, List.set_cons_succ]
                          refine wpAnyH_take (i := 20) (v := ?_) rfl (by kernel_rfl) (by kernel_rfl) (by kernel_rfl) (fun _ _ _ h => h) (Or.inl ⟨by rfl, ?_⟩) (by assumption) ?_
                          rotate_left
                          · (intro w hSw; (try dsimp only at hSw); (try simp only [List.getElem_toArray, List.getElem_cons_succ, List.getElem_cons_zero]); first | (go_simp; done) | (go_simp; with_reducible rfl))
                          try simp only [Act.put, List.getElem_toArray, List.getElem_cons_succ, List.getElem_cons_zero, List.setIfInBounds_toArray, List.set_cons_zero, List.set_cons_succ]
                          refine wpAnyH_take (i := 21) (v := ?_) rfl (by kernel_rfl) (by kernel_rfl) (by kernel_rfl) (fun _ _ _ h => h) (Or.inl ⟨by rfl, ?_⟩) (by assumption) ?_
                          rotate_left
                          · (intro w hSw; (try dsimp only at hSw); (try simp only [List.getElem_toArray, List.getElem_cons_succ, List.getElem_cons_zero]); first | (go_simp; done) | (go_simp; with_reducible rfl))
                          try simp only [Act.put, List.getElem_toArray, List.getElem_cons_succ, List.getElem_cons_zero, List.setIfInBounds_toArray, List.set_cons_zero, List.set_cons_succ]
                          refine wpAnyH_ready (rs := [9, 22]) (by kernel_rfl) (by simp) ?_
                          refine AllReadyH.cons rfl (fun K hK => ?_) (AllReadyH.cons rfl (fun K hK => ?_) AllReadyH.nil)
                          · try simp only [List.getElem_toArray, List.getElem_cons_succ, List.getElem_cons_zero]
                            go_simp
                            go_at_call 10; refine (HRC.out _ (HNR.out.drewNR _) (HTR.out.drewNR _)).mono ?_; rintro e9 w9 ⟨rfl, hb9⟩; have g9 : Below wr.heap.size wr w9 := und hb9; have k9 := (⟨(g9.cell (p := ⟨B5, 0, none⟩) y5).trans t50, (g9.cell (p := ⟨B5, 1, none⟩) y5).trans t51, (g9.cell (p := ⟨g1, a * 2, none⟩) yg).trans u0, (g9.cell (p := ⟨g1, a * 2 + 1, none⟩) yg).trans u1, (g9.cell (p := ⟨g1, b * 2, none⟩) yg).trans v0, (g9.cell (p := ⟨g1, b * 2 + 1, none⟩) yg).trans v1, (g9.cell (p := ⟨g1, c * 2, none⟩) yg).trans x0, (g9.cell (p := ⟨g1, c * 2 + 1, none⟩) yg).trans x1⟩ : _ ∧ _ ∧ _ ∧ _ ∧ _ ∧ _ ∧ _ ∧ _); have z9 := g9.size
                            refine hK.out _ _ ?_ (fun hHeld => ?_)
                            · exact k9
                            clear hK K
                            try simp only [Act.put, List.getElem_toArray, List.getElem_cons_succ, List.getElem_cons_zero, List.setIfInBounds_toArray, List.set_cons_zero, List.set_cons_succ]
                            refine wpAnyH_ready (rs := [22]) (by kernel_rfl) (by simp) ?_
                            refine AllReadyH.cons rfl (fun K hK => ?_) AllReadyH.nil
                            try simp only [List.getElem_toArray, List.getElem_cons_succ, List.getElem_cons_zero]
                            go_simp
                            refine hK.out _ _ ?_ (fun hHeld => ?_)
                            · exact ⟨(World.cell?_alloc_lt w9 (.cells #[.int .i64 pa, .int .i64 qa, .int .i64 pb, .int .i64 qb, .int .i64 pc, .int .i64 qc] 35) ⟨B5, 0, none⟩ (by show B5 < w9.heap.size; omega)).trans k9.1, (World.cell?_alloc_lt w9 (.cells #[.int .i64 pa, .int .i64 qa, .int .i64 pb, .int .i64 qb, .int .i64 pc, .int .i64 qc] 35) ⟨B5, 1, none⟩ (by show B5 < w9.heap.size; omega)).trans k9.2.1, (World.cell?_alloc_lt w9 (.cells #[.int .i64 pa, .int .i64 qa, .int .i64 pb, .int .i64 qb, .int .i64 pc, .int .i64 qc] 35) ⟨g1, a * 2, none⟩ (by show g1 < w9.heap.size; omega)).trans k9.2.2.1, (World.cell?_alloc_lt w9 (.cells #[.int .i64 pa, .int .i64 qa, .int .i64 pb, .int .i64 qb, .int .i64 pc, .int .i64 qc] 35) ⟨g1, a * 2 + 1, none⟩ (by show g1 < w9.heap.size; omega)).trans k9.2.2.2.1, (World.cell?_alloc_lt w9 (.cells #[.int .i64 pa, .int .i64 qa, .int .i64 pb, .int .i64 qb, .int .i64 pc, .int .i64 qc] 35) ⟨g1, b * 2, none⟩ (by show g1 < w9.heap.size; omega)).trans k9.2.2.2.2.1, (World.cell?_alloc_lt w9 (.cells #[.int .i64 pa, .int .i64 qa, .int .i64 pb, .int .i64 qb, .int .i64 pc, .int .i64 qc] 35) ⟨g1, b * 2 + 1, none⟩ (by show g1 < w9.heap.size; omega)).trans k9.2.2.2.2.2.1, (World.cell?_alloc_lt w9 (.cells #[.int .i64 pa, .int .i64 qa, .int .i64 pb, .int .i64 qb, .int .i64 pc, .int .i64 qc] 35) ⟨g1, c * 2, none⟩ (by show g1 < w9.heap.size; omega)).trans k9.2.2.2.2.2.2.1, (World.cell?_alloc_lt w9 (.cells #[.int .i64 pa, .int .i64 qa, .int .i64 pb, .int .i64 qb, .int .i64 pc, .int .i64 qc] 35) ⟨g1, c * 2 + 1, none⟩ (by show g1 < w9.heap.size; omega)).trans k9.2.2.2.2.2.2.2⟩
                            clear hK K
                            try simp only [Act.put, List.getElem_toArray, List.getElem_cons_succ, List.getElem_cons_zero, List.setIfInBounds_toArray, List.set_cons_zero, List.set_cons_succ]
                            refine wpAnyH_ready (rs := [23]) (by kernel_rfl) (by simp) ?_
                            refine AllReadyH.cons rfl (fun K hK => ?_) AllReadyH.nil
                            try simp only [List.getElem_toArray, List.getElem_cons_succ, List.getElem_cons_zero]
                            go_simp
                            go_at_call 11; refine (HHR.out (w9.alloc (.cells #[.int .i64 pa, .int .i64 qa, .int .i64 pb, .int .i64 qb, .int .i64 pc, .int .i64 qc] 35)) _ _ (rc_three w9 pa qa pb qb pc qc)).mono ?_; rintro e23 w23 ⟨rfl, hb23⟩; have g23 : Below wr.heap.size wr w23 := bstep (g9.alloc z9 _) (by simp; omega) hb23; have k23 := (⟨(hb23.cell (p := ⟨B5, 0, none⟩) (by show B5 < (w9.alloc (.cells #[.int .i64 pa, .int .i64 qa, .int .i64 pb, .int .i64 qb, .int .i64 pc, .int .i64 qc] 35)).heap.size; simp; omega)).trans (⟨(World.cell?_alloc_lt w9 (.cells #[.int .i64 pa, .int .i64 qa, .int .i64 pb, .int .i64 qb, .int .i64 pc, .int .i64 qc] 35) ⟨B5, 0, none⟩ (by show B5 < w9.heap.size; omega)).trans k9.1, (World.cell?_alloc_lt w9 (.cells #[.int .i64 pa, .int .i64 qa, .int .i64 pb, .int .i64 qb, .int .i64 pc, .int .i64 qc] 35) ⟨B5, 1, none⟩ (by show B5 < w9.heap.size; omega)).trans k9.2.1, (World.cell?_alloc_lt w9 (.cells #[.int .i64 pa, .int .i64 qa, .int .i64 pb, .int .i64 qb, .int .i64 pc, .int .i64 qc] 35) ⟨g1, a * 2, none⟩ (by show g1 < w9.heap.size; omega)).trans k9.2.2.1, (World.cell?_alloc_lt w9 (.cells #[.int .i64 pa, .int .i64 qa, .int .i64 pb, .int .i64 qb, .int .i64 pc, .int .i64 qc] 35) ⟨g1, a * 2 + 1, none⟩ (by show g1 < w9.heap.size; omega)).trans k9.2.2.2.1, (World.cell?_alloc_lt w9 (.cells #[.int .i64 pa, .int .i64 qa, .int .i64 pb, .int .i64 qb, .int .i64 pc, .int .i64 qc] 35) ⟨g1, b * 2, none⟩ (by show g1 < w9.heap.size; omega)).trans k9.2.2.2.2.1, (World.cell?_alloc_lt w9 (.cells #[.int .i64 pa, .int .i64 qa, .int .i64 pb, .int .i64 qb, .int .i64 pc, .int .i64 qc] 35) ⟨g1, b * 2 + 1, none⟩ (by show g1 < w9.heap.size; omega)).trans k9.2.2.2.2.2.1, (World.cell?_alloc_lt w9 (.cells #[.int .i64 pa, .int .i64 qa, .int .i64 pb, .int .i64 qb, .int .i64 pc, .int .i64 qc] 35) ⟨g1, c * 2, none⟩ (by show g1 < w9.heap.size; omega)).trans k9.2.2.2.2.2.2.1, (World.cell?_alloc_lt w9 (.cells #[.int .i64 pa, .int .i64 qa, .int .i64 pb, .int .i64 qb, .int .i64 pc, .int .i64 qc] 35) ⟨g1, c * 2 + 1, none⟩ (by show g1 < w9.heap.size; omega)).trans k9.2.2.2.2.2.2.2⟩ : _ ∧ _ ∧ _ ∧ _ ∧ _ ∧ _ ∧ _ ∧ _).1, (hb23.cell (p := ⟨B5, 1, none⟩) (by show B5 < (w9.alloc (.cells #[.int .i64 pa, .int .i64 qa, .int .i64 pb, .int .i64 qb, .int .i64 pc, .int .i64 qc] 35)).heap.size; simp; omega)).trans (⟨(World.cell?_alloc_lt w9 (.cells #[.int .i64 pa, .int .i64 qa, .int .i64 pb, .int .i64 qb, .int .i64 pc, .int .i64 qc] 35) ⟨B5, 0, none⟩ (by show B5 < w9.heap.size; omega)).trans k9.1, (World.cell?_alloc_lt w9 (.cells #[.int .i64 pa, .int .i64 qa, .int .i64 pb, .int .i64 qb, .int .i64 pc, .int .i64 qc] 35) ⟨B5, 1, none⟩ (by show B5 < w9.heap.size; omega)).trans k9.2.1, (World.cell?_alloc_lt w9 (.cells #[.int .i64 pa, .int .i64 qa, .int .i64 pb, .int .i64 qb, .int .i64 pc, .int .i64 qc] 35) ⟨g1, a * 2, none⟩ (by show g1 < w9.heap.size; omega)).trans k9.2.2.1, (World.cell?_alloc_lt w9 (.cells #[.int .i64 pa, .int .i64 qa, .int .i64 pb, .int .i64 qb, .int .i64 pc, .int .i64 qc] 35) ⟨g1, a * 2 + 1, none⟩ (by show g1 < w9.heap.size; omega)).trans k9.2.2.2.1, (World.cell?_alloc_lt w9 (.cells #[.int .i64 pa, .int .i64 qa, .int .i64 pb, .int .i64 qb, .int .i64 pc, .int .i64 qc] 35) ⟨g1, b * 2, none⟩ (by show g1 < w9.heap.size; omega)).trans k9.2.2.2.2.1, (World.cell?_alloc_lt w9 (.cells #[.int .i64 pa, .int .i64 qa, .int .i64 pb, .int .i64 qb, .int .i64 pc, .int .i64 qc] 35) ⟨g1, b * 2 + 1, none⟩ (by show g1 < w9.heap.size; omega)).trans k9.2.2.2.2.2.1, (World.cell?_alloc_lt w9 (.cells #[.int .i64 pa, .int .i64 qa, .int .i64 pb, .int .i64 qb, .int .i64 pc, .int .i64 qc] 35) ⟨g1, c * 2, none⟩ (by show g1 < w9.heap.size; omega)).trans k9.2.2.2.2.2.2.1, (World.cell?_alloc_lt w9 (.cells #[.int .i64 pa, .int .i64 qa, .int .i64 pb, .int .i64 qb, .int .i64 pc, .int .i64 qc] 35) ⟨g1, c * 2 + 1, none⟩ (by show g1 < w9.heap.size; omega)).trans k9.2.2.2.2.2.2.2⟩ : _ ∧ _ ∧ _ ∧ _ ∧ _ ∧ _ ∧ _ ∧ _).2.1, (hb23.cell (p := ⟨g1, a * 2, none⟩) (by show g1 < (w9.alloc (.cells #[.int .i64 pa, .int .i64 qa, .int .i64 pb, .int .i64 qb, .int .i64 pc, .int .i64 qc] 35)).heap.size; simp; omega)).trans (⟨(World.cell?_alloc_lt w9 (.cells #[.int .i64 pa, .int .i64 qa, .int .i64 pb, .int .i64 qb, .int .i64 pc, .int .i64 qc] 35) ⟨B5, 0, none⟩ (by show B5 < w9.heap.size; omega)).trans k9.1, (World.cell?_alloc_lt w9 (.cells #[.int .i64 pa, .int .i64 qa, .int .i64 pb, .int .i64 qb, .int .i64 pc, .int .i64 qc] 35) ⟨B5, 1, none⟩ (by show B5 < w9.heap.size; omega)).trans k9.2.1, (World.cell?_alloc_lt w9 (.cells #[.int .i64 pa, .int .i64 qa, .int .i64 pb, .int .i64 qb, .int .i64 pc, .int .i64 qc] 35) ⟨g1, a * 2, none⟩ (by show g1 < w9.heap.size; omega)).trans k9.2.2.1, (World.cell?_alloc_lt w9 (.cells #[.int .i64 pa, .int .i64 qa, .int .i64 pb, .int .i64 qb, .int .i64 pc, .int .i64 qc] 35) ⟨g1, a * 2 + 1, none⟩ (by show g1 < w9.heap.size; omega)).trans k9.2.2.2.1, (World.cell?_alloc_lt w9 (.cells #[.int .i64 pa, .int .i64 qa, .int .i64 pb, .int .i64 qb, .int .i64 pc, .int .i64 qc] 35) ⟨g1, b * 2, none⟩ (by show g1 < w9.heap.size; omega)).trans k9.2.2.2.2.1, (World.cell?_alloc_lt w9 (.cells #[.int .i64 pa, .int .i64 qa, .int .i64 pb, .int .i64 qb, .int .i64 pc, .int .i64 qc] 35) ⟨g1, b * 2 + 1, none⟩ (by show g1 < w9.heap.size; omega)).trans k9.2.2.2.2.2.1, (World.cell?_alloc_lt w9 (.cells #[.int .i64 pa, .int .i64 qa, .int .i64 pb, .int .i64 qb, .int .i64 pc, .int .i64 qc] 35) ⟨g1, c * 2, none⟩ (by show g1 < w9.heap.size; omega)).trans k9.2.2.2.2.2.2.1, (World.cell?_alloc_lt w9 (.cells #[.int .i64 pa, .int .i64 qa, .int .i64 pb, .int .i64 qb, .int .i64 pc, .int .i64 qc] 35) ⟨g1, c * 2 + 1, none⟩ (by show g1 < w9.heap.size; omega)).trans k9.2.2.2.2.2.2.2⟩ : _ ∧ _ ∧ _ ∧ _ ∧ _ ∧ _ ∧ _ ∧ _).2.2.1, (hb23.cell (p := ⟨g1, a * 2 + 1, none⟩) (by show g1 < (w9.alloc (.cells #[.int .i64 pa, .int .i64 qa, .int .i64 pb, .int .i64 qb, .int .i64 pc, .int .i64 qc] 35)).heap.size; simp; omega)).trans (⟨(World.cell?_alloc_lt w9 (.cells #[.int .i64 pa, .int .i64 qa, .int .i64 pb, .int .i64 qb, .int .i64 pc, .int .i64 qc] 35) ⟨B5, 0, none⟩ (by show B5 < w9.heap.size; omega)).trans k9.1, (World.cell?_alloc_lt w9 (.cells #[.int .i64 pa, .int .i64 qa, .int .i64 pb, .int .i64 qb, .int .i64 pc, .int .i64 qc] 35) ⟨B5, 1, none⟩ (by show B5 < w9.heap.size; omega)).trans k9.2.1, (World.cell?_alloc_lt w9 (.cells #[.int .i64 pa, .int .i64 qa, .int .i64 pb, .int .i64 qb, .int .i64 pc, .int .i64 qc] 35) ⟨g1, a * 2, none⟩ (by show g1 < w9.heap.size; omega)).trans k9.2.2.1, (World.cell?_alloc_lt w9 (.cells #[.int .i64 pa, .int .i64 qa, .int .i64 pb, .int .i64 qb, .int .i64 pc, .int .i64 qc] 35) ⟨g1, a * 2 + 1, none⟩ (by show g1 < w9.heap.size; omega)).trans k9.2.2.2.1, (World.cell?_alloc_lt w9 (.cells #[.int .i64 pa, .int .i64 qa, .int .i64 pb, .int .i64 qb, .int .i64 pc, .int .i64 qc] 35) ⟨g1, b * 2, none⟩ (by show g1 < w9.heap.size; omega)).trans k9.2.2.2.2.1, (World.cell?_alloc_lt w9 (.cells #[.int .i64 pa, .int .i64 qa, .int .i64 pb, .int .i64 qb, .int .i64 pc, .int .i64 qc] 35) ⟨g1, b * 2 + 1, none⟩ (by show g1 < w9.heap.size; omega)).trans k9.2.2.2.2.2.1, (World.cell?_alloc_lt w9 (.cells #[.int .i64 pa, .int .i64 qa, .int .i64 pb, .int .i64 qb, .int .i64 pc, .int .i64 qc] 35) ⟨g1, c * 2, none⟩ (by show g1 < w9.heap.size; omega)).trans k9.2.2.2.2.2.2.1, (World.cell?_alloc_lt w9 (.cells #[.int .i64 pa, .int .i64 qa, .int .i64 pb, .int .i64 qb, .int .i64 pc, .int .i64 qc] 35) ⟨g1, c * 2 + 1, none⟩ (by show g1 < w9.heap.size; omega)).trans k9.2.2.2.2.2.2.2⟩ : _ ∧ _ ∧ _ ∧ _ ∧ _ ∧ _ ∧ _ ∧ _).2.2.2.1, (hb23.cell (p := ⟨g1, b * 2, none⟩) (by show g1 < (w9.alloc (.cells #[.int .i64 pa, .int .i64 qa, .int .i64 pb, .int .i64 qb, .int .i64 pc, .int .i64 qc] 35)).heap.size; simp; omega)).trans (⟨(World.cell?_alloc_lt w9 (.cells #[.int .i64 pa, .int .i64 qa, .int .i64 pb, .int .i64 qb, .int .i64 pc, .int .i64 qc] 35) ⟨B5, 0, none⟩ (by show B5 < w9.heap.size; omega)).trans k9.1, (World.cell?_alloc_lt w9 (.cells #[.int .i64 pa, .int .i64 qa, .int .i64 pb, .int .i64 qb, .int .i64 pc, .int .i64 qc] 35) ⟨B5, 1, none⟩ (by show B5 < w9.heap.size; omega)).trans k9.2.1, (World.cell?_alloc_lt w9 (.cells #[.int .i64 pa, .int .i64 qa, .int .i64 pb, .int .i64 qb, .int .i64 pc, .int .i64 qc] 35) ⟨g1, a * 2, none⟩ (by show g1 < w9.heap.size; omega)).trans k9.2.2.1, (World.cell?_alloc_lt w9 (.cells #[.int .i64 pa, .int .i64 qa, .int .i64 pb, .int .i64 qb, .int .i64 pc, .int .i64 qc] 35) ⟨g1, a * 2 + 1, none⟩ (by show g1 < w9.heap.size; omega)).trans k9.2.2.2.1, (World.cell?_alloc_lt w9 (.cells #[.int .i64 pa, .int .i64 qa, .int .i64 pb, .int .i64 qb, .int .i64 pc, .int .i64 qc] 35) ⟨g1, b * 2, none⟩ (by show g1 < w9.heap.size; omega)).trans k9.2.2.2.2.1, (World.cell?_alloc_lt w9 (.cells #[.int .i64 pa, .int .i64 qa, .int .i64 pb, .int .i64 qb, .int .i64 pc, .int .i64 qc] 35) ⟨g1, b * 2 + 1, none⟩ (by show g1 < w9.heap.size; omega)).trans k9.2.2.2.2.2.1, (World.cell?_alloc_lt w9 (.cells #[.int .i64 pa, .int .i64 qa, .int .i64 pb, .int .i64 qb, .int .i64 pc, .int .i64 qc] 35) ⟨g1, c * 2, none⟩ (by show g1 < w9.heap.size; omega)).trans k9.2.2.2.2.2.2.1, (World.cell?_alloc_lt w9 (.cells #[.int .i64 pa, .int .i64 qa, .int .i64 pb, .int .i64 qb, .int .i64 pc, .int .i64 qc] 35) ⟨g1, c * 2 + 1, none⟩ (by show g1 < w9.heap.size; omega)).trans k9.2.2.2.2.2.2.2⟩ : _ ∧ _ ∧ _ ∧ _ ∧ _ ∧ _ ∧ _ ∧ _).2.2.2.2.1, (hb23.cell (p := ⟨g1, b * 2 + 1, none⟩) (by show g1 < (w9.alloc (.cells #[.int .i64 pa, .int .i64 qa, .int .i64 pb, .int .i64 qb, .int .i64 pc, .int .i64 qc] 35)).heap.size; simp; omega)).trans (⟨(World.cell?_alloc_lt w9 (.cells #[.int .i64 pa, .int .i64 qa, .int .i64 pb, .int .i64 qb, .int .i64 pc, .int .i64 qc] 35) ⟨B5, 0, none⟩ (by show B5 < w9.heap.size; omega)).trans k9.1, (World.cell?_alloc_lt w9 (.cells #[.int .i64 pa, .int .i64 qa, .int .i64 pb, .int .i64 qb, .int .i64 pc, .int .i64 qc] 35) ⟨B5, 1, none⟩ (by show B5 < w9.heap.size; omega)).trans k9.2.1, (World.cell?_alloc_lt w9 (.cells #[.int .i64 pa, .int .i64 qa, .int .i64 pb, .int .i64 qb, .int .i64 pc, .int .i64 qc] 35) ⟨g1, a * 2, none⟩ (by show g1 < w9.heap.size; omega)).trans k9.2.2.1, (World.cell?_alloc_lt w9 (.cells #[.int .i64 pa, .int .i64 qa, .int .i64 pb, .int .i64 qb, .int .i64 pc, .int .i64 qc] 35) ⟨g1, a * 2 + 1, none⟩ (by show g1 < w9.heap.size; omega)).trans k9.2.2.2.1, (World.cell?_alloc_lt w9 (.cells #[.int .i64 pa, .int .i64 qa, .int .i64 pb, .int .i64 qb, .int .i64 pc, .int .i64 qc] 35) ⟨g1, b * 2, none⟩ (by show g1 < w9.heap.size; omega)).trans k9.2.2.2.2.1, (World.cell?_alloc_lt w9 (.cells #[.int .i64 pa, .int .i64 qa, .int .i64 pb, .int .i64 qb, .int .i64 pc, .int .i64 qc] 35) ⟨g1, b * 2 + 1, none⟩ (by show g1 < w9.heap.size; omega)).trans k9.2.2.2.2.2.1, (World.cell?_alloc_lt w9 (.cells #[.int .i64 pa, .int .i64 qa, .int .i64 pb, .int .i64 qb, .int .i64 pc, .int .i64 qc] 35) ⟨g1, c * 2, none⟩ (by show g1 < w9.heap.size; omega)).trans k9.2.2.2.2.2.2.1, (World.cell?_alloc_lt w9 (.cells #[.int .i64 pa, .int .i64 qa, .int .i64 pb, .int .i64 qb, .int .i64 pc, .int .i64 qc] 35) ⟨g1, c * 2 + 1, none⟩ (by show g1 < w9.heap.size; omega)).trans k9.2.2.2.2.2.2.2⟩ : _ ∧ _ ∧ _ ∧ _ ∧ _ ∧ _ ∧ _ ∧ _).2.2.2.2.2.1, (hb23.cell (p := ⟨g1, c * 2, none⟩) (by show g1 < (w9.alloc (.cells #[.int .i64 pa, .int .i64 qa, .int .i64 pb, .int .i64 qb, .int .i64 pc, .int .i64 qc] 35)).heap.size; simp; omega)).trans (⟨(World.cell?_alloc_lt w9 (.cells #[.int .i64 pa, .int .i64 qa, .int .i64 pb, .int .i64 qb, .int .i64 pc, .int .i64 qc] 35) ⟨B5, 0, none⟩ (by show B5 < w9.heap.size; omega)).trans k9.1, (World.cell?_alloc_lt w9 (.cells #[.int .i64 pa, .int .i64 qa, .int .i64 pb, .int .i64 qb, .int .i64 pc, .int .i64 qc] 35) ⟨B5, 1, none⟩ (by show B5 < w9.heap.size; omega)).trans k9.2.1, (World.cell?_alloc_lt w9 (.cells #[.int .i64 pa, .int .i64 qa, .int .i64 pb, .int .i64 qb, .int .i64 pc, .int .i64 qc] 35) ⟨g1, a * 2, none⟩ (by show g1 < w9.heap.size; omega)).trans k9.2.2.1, (World.cell?_alloc_lt w9 (.cells #[.int .i64 pa, .int .i64 qa, .int .i64 pb, .int .i64 qb, .int .i64 pc, .int .i64 qc] 35) ⟨g1, a * 2 + 1, none⟩ (by show g1 < w9.heap.size; omega)).trans k9.2.2.2.1, (World.cell?_alloc_lt w9 (.cells #[.int .i64 pa, .int .i64 qa, .int .i64 pb, .int .i64 qb, .int .i64 pc, .int .i64 qc] 35) ⟨g1, b * 2, none⟩ (by show g1 < w9.heap.size; omega)).trans k9.2.2.2.2.1, (World.cell?_alloc_lt w9 (.cells #[.int .i64 pa, .int .i64 qa, .int .i64 pb, .int .i64 qb, .int .i64 pc, .int .i64 qc] 35) ⟨g1, b * 2 + 1, none⟩ (by show g1 < w9.heap.size; omega)).trans k9.2.2.2.2.2.1, (World.cell?_alloc_lt w9 (.cells #[.int .i64 pa, .int .i64 qa, .int .i64 pb, .int .i64 qb, .int .i64 pc, .int .i64 qc] 35) ⟨g1, c * 2, none⟩ (by show g1 < w9.heap.size; omega)).trans k9.2.2.2.2.2.2.1, (World.cell?_alloc_lt w9 (.cells #[.int .i64 pa, .int .i64 qa, .int .i64 pb, .int .i64 qb, .int .i64 pc, .int .i64 qc] 35) ⟨g1, c * 2 + 1, none⟩ (by show g1 < w9.heap.size; omega)).trans k9.2.2.2.2.2.2.2⟩ : _ ∧ _ ∧ _ ∧ _ ∧ _ ∧ _ ∧ _ ∧ _).2.2.2.2.2.2.1, (hb23.cell (p := ⟨g1, c * 2 + 1, none⟩) (by show g1 < (w9.alloc (.cells #[.int .i64 pa, .int .i64 qa, .int .i64 pb, .int .i64 qb, .int .i64 pc, .int .i64 qc] 35)).heap.size; simp; omega)).trans (⟨(World.cell?_alloc_lt w9 (.cells #[.int .i64 pa, .int .i64 qa, .int .i64 pb, .int .i64 qb, .int .i64 pc, .int .i64 qc] 35) ⟨B5, 0, none⟩ (by show B5 < w9.heap.size; omega)).trans k9.1, (World.cell?_alloc_lt w9 (.cells #[.int .i64 pa, .int .i64 qa, .int .i64 pb, .int .i64 qb, .int .i64 pc, .int .i64 qc] 35) ⟨B5, 1, none⟩ (by show B5 < w9.heap.size; omega)).trans k9.2.1, (World.cell?_alloc_lt w9 (.cells #[.int .i64 pa, .int .i64 qa, .int .i64 pb, .int .i64 qb, .int .i64 pc, .int .i64 qc] 35) ⟨g1, a * 2, none⟩ (by show g1 < w9.heap.size; omega)).trans k9.2.2.1, (World.cell?_alloc_lt w9 (.cells #[.int .i64 pa, .int .i64 qa, .int .i64 pb, .int .i64 qb, .int .i64 pc, .int .i64 qc] 35) ⟨g1, a * 2 + 1, none⟩ (by show g1 < w9.heap.size; omega)).trans k9.2.2.2.1, (World.cell?_alloc_lt w9 (.cells #[.int .i64 pa, .int .i64 qa, .int .i64 pb, .int .i64 qb, .int .i64 pc, .int .i64 qc] 35) ⟨g1, b * 2, none⟩ (by show g1 < w9.heap.size; omega)).trans k9.2.2.2.2.1, (World.cell?_alloc_lt w9 (.cells #[.int .i64 pa, .int .i64 qa, .int .i64 pb, .int .i64 qb, .int .i64 pc, .int .i64 qc] 35) ⟨g1, b * 2 + 1, none⟩ (by show g1 < w9.heap.size; omega)).trans k9.2.2.2.2.2.1, (World.cell?_alloc_lt w9 (.cells #[.int .i64 pa, .int .i64 qa, .int .i64 pb, .int .i64 qb, .int .i64 pc, .int .i64 qc] 35) ⟨g1, c * 2, none⟩ (by show g1 < w9.heap.size; omega)).trans k9.2.2.2.2.2.2.1, (World.cell?_alloc_lt w9 (.cells #[.int .i64 pa, .int .i64 qa, .int .i64 pb, .int .i64 qb, .int .i64 pc, .int .i64 qc] 35) ⟨g1, c * 2 + 1, none⟩ (by show g1 < w9.heap.size; omega)).trans k9.2.2.2.2.2.2.2⟩ : _ ∧ _ ∧ _ ∧ _ ∧ _ ∧ _ ∧ _ ∧ _).2.2.2.2.2.2.2⟩ : _ ∧ _ ∧ _ ∧ _ ∧ _ ∧ _ ∧ _ ∧ _)
                            refine hK.out _ _ ?_ (fun hHeld => ?_)
                            · exact k23
                            clear hK K
                            try simp only [Act.put, List.getElem_toArray, List.getElem_cons_succ, List.getElem_cons_zero, List.setIfInBounds_toArray, List.set_cons_zero, List.set_cons_succ]
                            refine wpAnyH_take (i := 24) (v := ?_) rfl (by kernel_rfl) (by kernel_rfl) (by kernel_rfl) (fun _ _ _ h => h) (Or.inl ⟨by rfl, ?_⟩) (by assumption) ?_
                            rotate_left
                            · (intro w hSw; (try dsimp only at hSw); (try simp only [List.getElem_toArray, List.getElem_cons_succ, List.getElem_cons_zero]); first | (go_simp; done) | (go_simp; with_reducible rfl))
                            try simp only [Act.put, List.getElem_toArray, List.getElem_cons_succ, List.getElem_cons_zero, List.setIfInBounds_toArray, List.set_cons_zero, List.set_cons_succ]
                            refine wpAnyH_done (by kernel_rfl) ?_ _
                            clear hwa hwb hwc hxa hxb hxc
                            have HF1 := Lib.hid (bstep HF0.out HF0.out.size g23)
                            go_wp2_with fail
                            go_roundw
                            case rel => exact ⟨c + 1, by omega, by go_num, ⟨HF1.out.os, HF1.out.tape, HF1.out.output, HF1.out.size, HF1.out.block⟩⟩
                            case measure => (simp [intOf]) <;> omega
                          · have gba : Below wr.heap.size wr (wr.drew.alloc (.cells #[.int .i64 pa, .int .i64 qa, .int .i64 pb, .int .i64 qb, .int .i64 pc, .int .i64 qc] 35)) := ((Below.refl wr.heap.size wr).drew).alloc (Nat.le_refl _) (.cells #[.int .i64 pa, .int .i64 qa, .int .i64 pb, .int .i64 qb, .int .i64 pc, .int .i64 qc] 35); have rc3 := Lib.hid (rc_three wr.drew pa qa pb qb pc qc); have szb : (wr.drew.alloc (.cells #[.int .i64 pa, .int .i64 qa, .int .i64 pb, .int .i64 qb, .int .i64 pc, .int .i64 qc] 35)).heap.size = wr.heap.size + 1 := (by simp)
                            have kb := (⟨(World.cell?_alloc_lt wr.drew (.cells #[.int .i64 pa, .int .i64 qa, .int .i64 pb, .int .i64 qb, .int .i64 pc, .int .i64 qc] 35) ⟨B5, 0, none⟩ (by show B5 < wr.heap.size; omega)).trans t50, (World.cell?_alloc_lt wr.drew (.cells #[.int .i64 pa, .int .i64 qa, .int .i64 pb, .int .i64 qb, .int .i64 pc, .int .i64 qc] 35) ⟨B5, 1, none⟩ (by show B5 < wr.heap.size; omega)).trans t51, (World.cell?_alloc_lt wr.drew (.cells #[.int .i64 pa, .int .i64 qa, .int .i64 pb, .int .i64 qb, .int .i64 pc, .int .i64 qc] 35) ⟨g1, a * 2, none⟩ (by show g1 < wr.heap.size; omega)).trans u0, (World.cell?_alloc_lt wr.drew (.cells #[.int .i64 pa, .int .i64 qa, .int .i64 pb, .int .i64 qb, .int .i64 pc, .int .i64 qc] 35) ⟨g1, a * 2 + 1, none⟩ (by show g1 < wr.heap.size; omega)).trans u1, (World.cell?_alloc_lt wr.drew (.cells #[.int .i64 pa, .int .i64 qa, .int .i64 pb, .int .i64 qb, .int .i64 pc, .int .i64 qc] 35) ⟨g1, b * 2, none⟩ (by show g1 < wr.heap.size; omega)).trans v0, (World.cell?_alloc_lt wr.drew (.cells #[.int .i64 pa, .int .i64 qa, .int .i64 pb, .int .i64 qb, .int .i64 pc, .int .i64 qc] 35) ⟨g1, b * 2 + 1, none⟩ (by show g1 < wr.heap.size; omega)).trans v1, (World.cell?_alloc_lt wr.drew (.cells #[.int .i64 pa, .int .i64 qa, .int .i64 pb, .int .i64 qb, .int .i64 pc, .int .i64 qc] 35) ⟨g1, c * 2, none⟩ (by show g1 < wr.heap.size; omega)).trans x0, (World.cell?_alloc_lt wr.drew (.cells #[.int .i64 pa, .int .i64 qa, .int .i64 pb, .int .i64 qb, .int .i64 pc, .int .i64 qc] 35) ⟨g1, c * 2 + 1, none⟩ (by show g1 < wr.heap.size; omega)).trans x1⟩ : _ ∧ _ ∧ _ ∧ _ ∧ _ ∧ _ ∧ _ ∧ _)
                            try simp only [List.getElem_toArray, List.getElem_cons_succ, List.getElem_cons_zero]
                            go_simp
                            refine hK.out _ _ ?_ (fun hHeld => ?_)
                            · exact kb
                            clear hK K
                            try simp only [Act.put, List.getElem_toArray, List.getElem_cons_succ, List.getElem_cons_zero, List.setIfInBounds_toArray, List.set_cons_zero, List.set_cons_succ]
                            refine wpAnyH_ready (rs := [9]) (by kernel_rfl) (by simp) ?_
                            refine AllReadyH.cons rfl (fun K hK => ?_) AllReadyH.nil
                            try simp only [List.getElem_toArray, List.getElem_cons_succ, List.getElem_cons_zero]
                            go_simp
                            go_at_call 10; refine (HRC.out (wr.drew.alloc (.cells #[.int .i64 pa, .int .i64 qa, .int .i64 pb, .int .i64 qb, .int .i64 pc, .int .i64 qc] 35)) (HNR.out.later gba) (HTR.out.later gba)).mono ?_; rintro e9 w9 ⟨rfl, hb9⟩; have g9 : Below wr.heap.size wr w9 := bstep gba gba.size hb9; have k9 := (⟨(hb9.cell (p := ⟨B5, 0, none⟩) (by show B5 < (wr.drew.alloc (.cells #[.int .i64 pa, .int .i64 qa, .int .i64 pb, .int .i64 qb, .int .i64 pc, .int .i64 qc] 35)).heap.size; rw [szb]; omega)).trans kb.1, (hb9.cell (p := ⟨B5, 1, none⟩) (by show B5 < (wr.drew.alloc (.cells #[.int .i64 pa, .int .i64 qa, .int .i64 pb, .int .i64 qb, .int .i64 pc, .int .i64 qc] 35)).heap.size; rw [szb]; omega)).trans kb.2.1, (hb9.cell (p := ⟨g1, a * 2, none⟩) (by show g1 < (wr.drew.alloc (.cells #[.int .i64 pa, .int .i64 qa, .int .i64 pb, .int .i64 qb, .int .i64 pc, .int .i64 qc] 35)).heap.size; rw [szb]; omega)).trans kb.2.2.1, (hb9.cell (p := ⟨g1, a * 2 + 1, none⟩) (by show g1 < (wr.drew.alloc (.cells #[.int .i64 pa, .int .i64 qa, .int .i64 pb, .int .i64 qb, .int .i64 pc, .int .i64 qc] 35)).heap.size; rw [szb]; omega)).trans kb.2.2.2.1, (hb9.cell (p := ⟨g1, b * 2, none⟩) (by show g1 < (wr.drew.alloc (.cells #[.int .i64 pa, .int .i64 qa, .int .i64 pb, .int .i64 qb, .int .i64 pc, .int .i64 qc] 35)).heap.size; rw [szb]; omega)).trans kb.2.2.2.2.1, (hb9.cell (p := ⟨g1, b * 2 + 1, none⟩) (by show g1 < (wr.drew.alloc (.cells #[.int .i64 pa, .int .i64 qa, .int .i64 pb, .int .i64 qb, .int .i64 pc, .int .i64 qc] 35)).heap.size; rw [szb]; omega)).trans kb.2.2.2.2.2.1, (hb9.cell (p := ⟨g1, c * 2, none⟩) (by show g1 < (wr.drew.alloc (.cells #[.int .i64 pa, .int .i64 qa, .int .i64 pb, .int .i64 qb, .int .i64 pc, .int .i64 qc] 35)).heap.size; rw [szb]; omega)).trans kb.2.2.2.2.2.2.1, (hb9.cell (p := ⟨g1, c * 2 + 1, none⟩) (by show g1 < (wr.drew.alloc (.cells #[.int .i64 pa, .int .i64 qa, .int .i64 pb, .int .i64 qb, .int .i64 pc, .int .i64 qc] 35)).heap.size; rw [szb]; omega)).trans kb.2.2.2.2.2.2.2⟩ : _ ∧ _ ∧ _ ∧ _ ∧ _ ∧ _ ∧ _ ∧ _); have z9 := g9.size; have rc9 := Lib.hid (rc3.out.later hb9)
                            refine hK.out _ _ ?_ (fun hHeld => ?_)
                            · exact k9
                            clear hK K
                            try simp only [Act.put, List.getElem_toArray, List.getElem_cons_succ, List.getElem_cons_zero, List.setIfInBounds_toArray, List.set_cons_zero, List.set_cons_succ]
                            refine wpAnyH_ready (rs := [23]) (by kernel_rfl) (by simp) ?_
                            refine AllReadyH.cons rfl (fun K hK => ?_) AllReadyH.nil
                            try simp only [List.getElem_toArray, List.getElem_cons_succ, List.getElem_cons_zero]
                            go_simp
                            go_at_call 11; refine (HHR.out w9 _ _ rc9.out).mono ?_; rintro e23 w23 ⟨rfl, hb23⟩; have g23 : Below wr.heap.size wr w23 := bstep g9 g9.size hb23; have k23 := (⟨(hb23.cell (p := ⟨B5, 0, none⟩) (by show B5 < w9.heap.size; omega)).trans k9.1, (hb23.cell (p := ⟨B5, 1, none⟩) (by show B5 < w9.heap.size; omega)).trans k9.2.1, (hb23.cell (p := ⟨g1, a * 2, none⟩) (by show g1 < w9.heap.size; omega)).trans k9.2.2.1, (hb23.cell (p := ⟨g1, a * 2 + 1, none⟩) (by show g1 < w9.heap.size; omega)).trans k9.2.2.2.1, (hb23.cell (p := ⟨g1, b * 2, none⟩) (by show g1 < w9.heap.size; omega)).trans k9.2.2.2.2.1, (hb23.cell (p := ⟨g1, b * 2 + 1, none⟩) (by show g1 < w9.heap.size; omega)).trans k9.2.2.2.2.2.1, (hb23.cell (p := ⟨g1, c * 2, none⟩) (by show g1 < w9.heap.size; omega)).trans k9.2.2.2.2.2.2.1, (hb23.cell (p := ⟨g1, c * 2 + 1, none⟩) (by show g1 < w9.heap.size; omega)).trans k9.2.2.2.2.2.2.2⟩ : _ ∧ _ ∧ _ ∧ _ ∧ _ ∧ _ ∧ _ ∧ _)
                            refine hK.out _ _ ?_ (fun hHeld => ?_)
                            · exact k23
                            clear hK K
                            try simp only [Act.put, List.getElem_toArray, List.getElem_cons_succ, List.getElem_cons_zero, List.setIfInBounds_toArray, List.set_cons_zero, List.set_cons_succ]
                            refine wpAnyH_take (i := 24) (v := ?_) rfl (by kernel_rfl) (by kernel_rfl) (by kernel_rfl) (fun _ _ _ h => h) (Or.inl ⟨by rfl, ?_⟩) (by assumption) ?_
                            rotate_left
                            · (intro w hSw; (try dsimp only at hSw); (try simp only [List.getElem_toArray, List.getElem_cons_succ, List.getElem_cons_zero]); first | (go_simp; done) | (go_simp; with_reducible rfl))
                            try simp only [Act.put, List.getElem_toArray, List.getElem_cons_succ, List.getElem_cons_zero, List.setIfInBounds_toArray, List.set_cons_zero, List.set_cons_succ]
                            refine wpAnyH_done (by kernel_rfl) ?_ _
                            clear hwa hwb hwc hxa hxb hxc
                            have HF1 := Lib.hid (bstep HF0.out HF0.out.size g23)
                            go_wp2_with fail
                            go_roundw
                            case rel => exact ⟨c + 1, by omega, by go_num, ⟨HF1.out.os, HF1.out.tape, HF1.out.output, HF1.out.size, HF1.out.block⟩⟩
                            case measure => (simp [intOf]) <;> omega
                        · obtain rfl : c = b := by omega
                          go_wp2_with fail
                          go_roundw
                          case rel => exact ⟨c + 1, by omega, by go_num, HF0.out⟩
                          case measure => (simp [intOf]) <;> omega
                    · obtain rfl : b = a := by omega
                      go_wp2_with fail
                      go_roundw
                      case rel => exact ⟨b + 1, by omega, by go_num, HF0.out⟩
                      case measure => (simp [intOf]) <;> omega
                · obtain rfl : a = k := by omega
                  clear t50
                  have y5 : B5 < wr.heap.size := by have := HF0.out.size; have := HBF.out.size; omega
                  have t50 := (HF0.out.cell (p := ⟨B5, 0, none⟩) hz5f).trans F50.out
                  have t51 := (HF0.out.cell (p := ⟨B5, 1, none⟩) hz5f).trans F51.out
                  have HNR := Lib.hid (HNF.out.later HF0.out)
                  have HTR := Lib.hid (HTF.out.later HF0.out)
                  have HPR := Lib.hid (HPP.out.later HF0.out)
                  have htr := HTAB.out.below HF0.out
                  clear htr
                  have HW3 : Hid (IntKind.i64.wrap ((a : Int) - 1) = (a : Int) - 1) := IntWalk.i64_in _ ⟨by omega, by omega⟩
                  have HW4 : Hid (wrap64 ((a : Int) - 1) = (a : Int) - 1) := IntWalk.wrap64_in _ ⟨by omega, by omega⟩
                  have hw3 := HW3.out
                  have hw4 := HW4.out
                  go_wp2_with fail
                  refine wp_region_held_drew (S := (fun w' => w'.cell? ⟨B5, 0, none⟩ = some (.int .i64 a) ∧ w'.cell? ⟨B5, 1, none⟩ = some (.slice T1 L.length c1))) (by kernel_rfl) ?_ (fun hHeld => ?_)
                  · exact ⟨t50, t51⟩
                  refine wpAnyH_take (i := 0) (v := ?_) rfl (by kernel_rfl) (by kernel_rfl) (by kernel_rfl) (fun _ _ _ h => h) (Or.inl ⟨by rfl, ?_⟩) (by assumption) ?_
                  rotate_left
                  · (intro w hSw; (try dsimp only at hSw); (try simp only [List.getElem_toArray, List.getElem_cons_succ, List.getElem_cons_zero]); first | (go_simp; done) | (go_simp; with_reducible rfl))
                  try simp only [Act.put, List.getElem_toArray, List.getElem_cons_succ, List.getElem_cons_zero, List.setIfInBounds_toArray, List.set_cons_zero, List.set_cons_succ]
                  refine wpAnyH_ready (rs := [1]) (by kernel_rfl) (by simp) ?_
                  refine AllReadyH.cons rfl (fun K hK => ?_) AllReadyH.nil
                  try simp only [List.getElem_toArray, List.getElem_cons_succ, List.getElem_cons_zero]
                  go_simp
                  go_at_call 12; refine (NetOk_any _ _ _ _ _ (HNR.out.drewNR _)).mono ?_; rintro e7 w7 ⟨rfl, hb7⟩; rw [HNO.out]; have g7 : Below wr.heap.size wr w7 := und hb7; have k7 := keep2 g7 ⟨t50, t51⟩ y5; have y7 := Nat.lt_of_lt_of_le y5 g7.size
                  refine hK.out _ _ ?_ (fun hHeld => ?_)
                  · exact k7
                  clear hK K
                  try simp only [Act.put, List.getElem_toArray, List.getElem_cons_succ, List.getElem_cons_zero, List.setIfInBounds_toArray, List.set_cons_zero, List.set_cons_succ]
                  refine wpAnyH_take (i := 2) (v := ?_) rfl (by kernel_rfl) (by kernel_rfl) (by kernel_rfl) (fun _ _ _ h => h) (Or.inl ⟨by rfl, ?_⟩) (by assumption) ?_
                  rotate_left
                  · (intro w hSw; (try dsimp only at hSw); (try simp only [List.getElem_toArray, List.getElem_cons_succ, List.getElem_cons_zero]); first | (go_simp; done) | (go_simp; with_reducible rfl))
                  try simp only [Act.put, List.getElem_toArray, List.getElem_cons_succ, List.getElem_cons_zero, List.setIfInBounds_toArray, List.set_cons_zero, List.set_cons_succ]
                  refine wpAnyH_take (i := 3) (v := ?_) rfl (by kernel_rfl) (by kernel_rfl) (by kernel_rfl) (fun _ _ _ h => h) (Or.inl ⟨by rfl, ?_⟩) (by assumption) ?_
                  rotate_left
                  · (intro w hSw; (try dsimp only at hSw); (try simp only [List.getElem_toArray, List.getElem_cons_succ, List.getElem_cons_zero]); first | (go_simp; done) | (go_simp; with_reducible rfl))
                  try simp only [Act.put, List.getElem_toArray, List.getElem_cons_succ, List.getElem_cons_zero, List.setIfInBounds_toArray, List.set_cons_zero, List.set_cons_succ]
                  refine wpAnyH_take (i := 5) (v := ?_) rfl (by kernel_rfl) (by kernel_rfl) (by kernel_rfl) (fun _ _ _ h => h) (Or.inl ⟨by rfl, ?_⟩) (by assumption) ?_
                  rotate_left
                  · (intro w hSw; (try dsimp only at hSw); (try simp only [List.getElem_toArray, List.getElem_cons_succ, List.getElem_cons_zero]); first | (go_simp; done) | (go_simp; with_reducible rfl))
                  try simp only [Act.put, List.getElem_toArray, List.getElem_cons_succ, List.getElem_cons_zero, List.setIfInBounds_toArray, List.set_cons_zero, List.set_cons_succ]
                  refine wpAnyH_take (i := 6) (v := ?_) rfl (by kernel_rfl) (by kernel_rfl) (by kernel_rfl) (fun _ _ _ h => h) (Or.inl ⟨by rfl, ?_⟩) (by assumption) ?_
                  rotate_left
                  · (intro w hSw; (try dsimp only at hSw); (try simp only [List.getElem_toArray, List.getElem_cons_succ, List.getElem_cons_zero]); first | (go_simp; done) | (go_simp; with_reducible rfl))
                  try simp only [Act.put, List.getElem_toArray, List.getElem_cons_succ, List.getElem_cons_zero, List.setIfInBounds_toArray, List.set_cons_zero, List.set_cons_succ]
                  refine wpAnyH_take (i := 7) (v := ?_) rfl (by kernel_rfl) (by kernel_rfl) (by kernel_rfl) (fun _ _ _ h => h) (Or.inl ⟨by rfl, ?_⟩) (by assumption) ?_
                  rotate_left
                  · (intro w hSw; (try dsimp only at hSw); (try simp only [List.getElem_toArray, List.getElem_cons_succ, List.getElem_cons_zero]); first | (go_simp; done) | (go_simp; with_reducible rfl))
                  try simp only [Act.put, List.getElem_toArray, List.getElem_cons_succ, List.getElem_cons_zero, List.setIfInBounds_toArray, List.set_cons_zero, List.set_cons_succ]
                  refine wpAnyH_ready (rs := [4]) (by kernel_rfl) (by simp) ?_
                  refine AllReadyH.cons rfl (fun K hK => ?_) AllReadyH.nil
                  try simp only [List.getElem_toArray, List.getElem_cons_succ, List.getElem_cons_zero]
                  go_simp
                  go_at_call 13; refine (SpanCost_any _ _ _ _ w7 (HNR.out.later g7) (HTR.out.later g7)).mono ?_; rintro e8 w8 ⟨rfl, hb8⟩; rw [HSP.out]; have g8 : Below wr.heap.size wr w8 := bstep g7 g7.size hb8; have k8 := keep2 hb8 k7 y7
                  refine hK.out _ _ ?_ (fun hHeld => ?_)
                  · exact k8
                  clear hK K
                  try simp only [Act.put, List.getElem_toArray, List.getElem_cons_succ, List.getElem_cons_zero, List.setIfInBounds_toArray, List.set_cons_zero, List.set_cons_succ]
                  refine wpAnyH_take (i := 8) (v := ?_) rfl (by kernel_rfl) (by kernel_rfl) (by kernel_rfl) (fun _ _ _ h => h) (Or.inl ⟨by rfl, ?_⟩) (by assumption) ?_
                  rotate_left
                  · (intro w hSw; (try dsimp only at hSw); (try simp only [List.getElem_toArray, List.getElem_cons_succ, List.getElem_cons_zero]); first | (go_simp; done) | (go_simp; with_reducible rfl))
                  try simp only [Act.put, List.getElem_toArray, List.getElem_cons_succ, List.getElem_cons_zero, List.setIfInBounds_toArray, List.set_cons_zero, List.set_cons_succ]
                  refine wpAnyH_take (i := 9) (v := ?_) rfl (by kernel_rfl) (by kernel_rfl) (by kernel_rfl) (fun _ _ _ h => h) (Or.inl ⟨by rfl, ?_⟩) (by assumption) ?_
                  rotate_left
                  · (intro w hSw; (try dsimp only at hSw); (try simp only [List.getElem_toArray, List.getElem_cons_succ, List.getElem_cons_zero]); first | (go_simp; done) | (go_simp; with_reducible rfl))
                  try simp only [Act.put, List.getElem_toArray, List.getElem_cons_succ, List.getElem_cons_zero, List.setIfInBounds_toArray, List.set_cons_zero, List.set_cons_succ]
                  refine wpAnyH_take (i := 10) (v := ?_) rfl (by kernel_rfl) (by kernel_rfl) (by kernel_rfl) (fun _ _ _ h => h) (Or.inl ⟨by rfl, ?_⟩) (by assumption) ?_
                  rotate_left
                  · (intro w hSw; (try dsimp only at hSw); (try simp only [List.getElem_toArray, List.getElem_cons_succ, List.getElem_cons_zero]); first | (go_simp; done) | (go_simp; with_reducible rfl))
                  try simp only [Act.put, List.getElem_toArray, List.getElem_cons_succ, List.getElem_cons_zero, List.setIfInBounds_toArray, List.set_cons_zero, List.set_cons_succ]
                  refine wpAnyH_done (by kernel_rfl) ?_ _
                  clear hw3 hw4
                  have HB9 := Lib.hid (bstep (B := wd.heap.size) (W := wd) HBF.out hzdf (bstep HF0.out HF0.out.size g8))
                  go_wp2_with fail
                  go_ret
                  exact ⟨rfl, bstep HBD.out hzd ⟨HB9.out.os, HB9.out.tape, HB9.out.output, HB9.out.size, HB9.out.block⟩⟩
end Go.Proofs.YtgnjjiljipgbnaaDoor
