/- AllRoots of the model. -/
import Derived.Test.YtcfendmhhhggeaaDoorMJ
set_option linter.unusedSimpArgs false
set_option linter.unusedVariables false
attribute [local go_sem ↓] Go.wp_at_zero Go.wp_at_succ
namespace Go.Proofs.YtcfendmhhhggeaaDoor
open Go.ChangeShapes Go.WideShapes Go.ChangeAt Go.RowKit

set_option maxRecDepth 100000 in
set_option maxHeartbeats 4000000 in
theorem sAllRoots_any (n e : Int) (A : Option Addr) (cap : Nat) (ws : List Wy) (w : World) (hr : RW w w.heap.size A ws) (hm : ws.length ≤ 1073741824) :
    Calls Tryd.prog 58 #[.agg #[.int .i64 n, .slice A ws.length cap], .int .i64 e] w (NewInts (rootsOf n ws e) w) := by
  have HR := Lib.hid hr
  clear hr
  have hbs := emptyInts
  obtain ⟨C, hC⟩ : ∃ C, rootCost n ws e = C := ⟨_, rfl⟩
  by_cases hneg : C < 0
  · rw [rootsOf_no hC hneg]
    have HC := Lib.hid hC
    have hlt0 : ¬ 0 ≤ C := by omega
    clear hC
    go_enter Tryd.func58, Tryd.ntmps58
    go_wp2_with fail
    refine (sRootCost_any _ _ _ _ _ _ (HR.out.later (by go_grown)) hm).mono ?_; rintro e1 w1 ⟨rfl, hb1⟩; rw [HC.out]
    have HB1 := Lib.hid (bstep (B := w.heap.size) (W := w) (by go_grown) (by go_size) hb1)
    clear hb1
    go_wp2_with fail
    refine wp_loop_rounds 1 ?_
    rw [rounds_succ]
    go_wp2_with fail
    go_ret
    exact newInts_nil rfl HB1.out
  · obtain ⟨hno, hpo, hb0, -, -⟩ := rootCost_told (n := n) (ws := ws) (e := e) (by rw [hC]; exact hneg)
    have hni := netOk_t hno
    have HS := Lib.hid hni
    obtain ⟨he0, he1⟩ := plOk_t hpo
    have HE := Lib.hid he1
    have hl9 := hni.len
    have hC81 : C ≤ 81 := by
      rw [← hC]
      unfold rootCost costOf
      split
      · exact (cost_bds hni _).2
      · omega
    have hfb := full_bd ws.length hl9
    have hpl := pow_bd (ws.length : Int) 9 (by omega)
    rw [Int.toNat_natCast] at hpl
    have hpw : ((2 : Int) ^ ws.length) = ((2 ^ ws.length : Nat) : Int) := by simp
    obtain ⟨N, hN⟩ : ∃ N : Nat, 2 ^ ws.length = N := ⟨_, rfl⟩
    rw [hN] at hpw
    have hfN : full ws.length + 1 = (N : Int) := by unfold full; rw [hpw]; omega
    have hN9 : N ≤ 512 := by omega
    have HL := Lib.hid (rootsOf_is hC hneg hN)
    have hlen : ∀ k, (rtTo ws e C k).length ≤ k := rtTo_len ws e C
    obtain ⟨i0, hi0, hz0, hz1', hz2⟩ := info_parts infoInt
    rw [HL.out]
    have HC := Lib.hid hC
    have hge : 0 ≤ C := by omega
    have HPW := Lib.hid hpw
    clear hC hno hpo hni he1 hpw hN hfb
    go_enter Tryd.func58, Tryd.ntmps58
    go_wp2_with fail
    refine (sRootCost_any _ _ _ _ _ _ (HR.out.later (by go_grown)) hm).mono ?_; rintro e1 w1 ⟨rfl, hb1⟩; rw [HC.out]
    have hz1_0 : w.heap.size < w1.heap.size := by have hq := hb1.size; (try simp at hq); omega
    have k1 : w1.cell? ⟨w.heap.size, 0, none⟩ = some (.int .i64 n) ∧ w1.cell? ⟨w.heap.size, 1, none⟩ = some (.slice A ws.length cap) := by
      obtain ⟨hc1, hf1⟩ := bcell hb1
      exact ⟨by go_simp, by go_simp⟩
    have HO1 := Lib.hid (own_below (by have h7 := World.ownsRow_made (base := w.heap.size + 1) (e := 3) (size := 1) (w.alloc (.cells #[.int .i64 n, .slice A ws.length cap] 25)) #[] 0 (by simp) (by unfold maxLen; omega) rfl; rw [World.size_alloc] at h7; exact h7) hb1)
    have HB1 := Lib.hid (bstep (B := w.heap.size) (W := w) (by go_grown) (by go_size) hb1)
    clear hb1
    go_wp2_with fail
    go_loopw [5, 7] (fun v i wr => ∃ k : Nat, k ≤ N ∧ i = .int .i64 k ∧ wr.cell? ⟨w.heap.size, 0, none⟩ = some (.int .i64 n) ∧ wr.cell? ⟨w.heap.size, 1, none⟩ = some (.slice A ws.length cap) ∧ Below w.heap.size w wr ∧ w.heap.size < wr.heap.size ∧ wr.ownsRow (w.heap.size + 1) 3 1 v (rtTo ws e C k).length (rlCells (rtTo ws e C k))) (fun _ i _ => N - (intOf i).toNat)
    case atStart => exact ⟨0, Nat.zero_le _, rfl, k1.1, k1.2, HB1.out, hz1_0, HO1.out⟩
    case round =>
      clear k1
      obtain ⟨k, hk, rfl, b0, b1, hb, hz, hown⟩ := hrel
      obtain ⟨A1, c1, rfl⟩ := own_form hown
      have HB0 := Lib.hid hb
      have HOWN := Lib.hid hown
      have hlk := hlen k
      clear hb hown
      by_cases hlt : k < N
      · have hltP : (k : Int) < 2 ^ ws.length := by have := HPW.out; omega
        have hk0 : (0 : Int) ≤ (k : Int) := by omega
        have hk1 : (k : Int) ≤ 511 := by omega
        have hRT : rt ws e C k = ((cost ws k == C) && (joins ws k e && lnTo ws e k ws.length)) := rfl
        have HLT := Lib.hid hltP
        by_cases hco : cost ws k = C
        · have hce : (cost ws k == C) = true := by rw [hco]; simp
          have HCO := Lib.hid hco
          rw [hce, Bool.true_and] at hRT
          clear hce hco
          cases hj : joins ws (k : Int) e
          · have HY := Lib.hid (rtTo_no (ws := ws) (e := e) (c := C) (k := k) (by rw [hRT, hj]; rfl))
            have HJ := Lib.hid hj
            clear hj hRT
            go_wp2_with fail
            refine (l1Cost_any n k A cap ws _ (HR.out.later (by have := HB0.out; go_grown)) HS.out hk0 (by omega)).mono ?_; rintro e3 w3 ⟨rfl, hb3⟩; rw [HCO.out]
            have k3 := keep2 hb3 ⟨b0, b1⟩ hz
            have z3 := Nat.lt_of_lt_of_le hz hb3.size
            have HB3 := Lib.hid (bstep (B := w.heap.size) (W := w) HB0.out (Nat.le_of_lt hz) hb3)
            have HO3 := Lib.hid (own_below HOWN.out hb3)
            clear hb3 HOWN
            obtain ⟨l0, l1⟩ := k3
            go_wp2_with fail
            refine (l1Joins_any n k e A cap ws _ (HR.out.later (by have := HB3.out; go_grown)) HS.out hk0 (by omega) he0 HE.out).mono ?_; rintro e4 w4 ⟨rfl, hb4⟩; rw [HJ.out]
            have k4 := keep2 hb4 ⟨l0, l1⟩ z3
            have z4 := Nat.lt_of_lt_of_le z3 hb4.size
            have HB4 := Lib.hid (bstep (B := w.heap.size) (W := w) HB3.out (Nat.le_of_lt z3) hb4)
            have HO4 := Lib.hid (own_below HO3.out hb4)
            clear hb4 HO3
            obtain ⟨m0, m1⟩ := k4
            go_wp2_with fail
            refine wp_loop_rounds 1 ?_
            rw [rounds_succ]
            by_cases hL0 : 0 < (ws.length : Int)
            · go_wp2_with fail
              go_roundw
              case rel => exact ⟨k + 1, by omega, by go_num, m0, m1, HB4.out, z4, by rw [HY.out]; exact HO4.out⟩
              case measure => (simp [intOf]) <;> omega
            · go_wp2_with fail
              go_roundw
              case rel => exact ⟨k + 1, by omega, by go_num, m0, m1, HB4.out, z4, by rw [HY.out]; exact HO4.out⟩
              case measure => (simp [intOf]) <;> omega
          · rw [hj, Bool.true_and] at hRT
            have HRT := Lib.hid hRT
            have HJ := Lib.hid hj
            clear hj hRT
            go_wp2_with fail
            refine (l1Cost_any n k A cap ws _ (HR.out.later (by have := HB0.out; go_grown)) HS.out hk0 (by omega)).mono ?_; rintro e3 w3 ⟨rfl, hb3⟩; rw [HCO.out]
            have k3 := keep2 hb3 ⟨b0, b1⟩ hz
            have z3 := Nat.lt_of_lt_of_le hz hb3.size
            have HB3 := Lib.hid (bstep (B := w.heap.size) (W := w) HB0.out (Nat.le_of_lt hz) hb3)
            have HO3 := Lib.hid (own_below HOWN.out hb3)
            clear hb3 HOWN
            obtain ⟨l0, l1⟩ := k3
            go_wp2_with fail
            refine (l1Joins_any n k e A cap ws _ (HR.out.later (by have := HB3.out; go_grown)) HS.out hk0 (by omega) he0 HE.out).mono ?_; rintro e4 w4 ⟨rfl, hb4⟩; rw [HJ.out]
            have k4 := keep2 hb4 ⟨l0, l1⟩ z3
            have z4 := Nat.lt_of_lt_of_le z3 hb4.size
            have HB4 := Lib.hid (bstep (B := w.heap.size) (W := w) HB3.out (Nat.le_of_lt z3) hb4)
            have HO4 := Lib.hid (own_below HO3.out hb4)
            clear hb4 HO3
            go_wp2_with fail
            go_loopw [8, 9] (fun c i wj => ∃ j : Nat, j ≤ ws.length ∧ i = .int .i64 j ∧ c = .bool (lnTo ws e k j) ∧ wj.cell? ⟨w.heap.size, 0, none⟩ = some (.int .i64 n) ∧ wj.cell? ⟨w.heap.size, 1, none⟩ = some (.slice A ws.length cap) ∧ Below w.heap.size w wj ∧ w.heap.size < wj.heap.size ∧ wj.ownsRow (w.heap.size + 1) 3 1 (.slice A1 (rtTo ws e C k).length c1) (rtTo ws e C k).length (rlCells (rtTo ws e C k))) (fun _ i _ => ws.length - (intOf i).toNat)
            case atStart => exact ⟨0, Nat.zero_le _, rfl, rfl, k4.1, k4.2, HB4.out, z4, HO4.out⟩
            case round =>
              clear k4
              obtain ⟨j, hjl, rfl, rfl, d0, d1, hbj, hzj, hownj⟩ := hrel
              have HBJ := Lib.hid hbj
              have HOJ := Lib.hid hownj
              have HRJ := Lib.hid (HR.out.later hbj)
              clear hbj hownj
              cases hln : lnTo ws e k j
              · have HY := Lib.hid (rtTo_no (ws := ws) (e := e) (c := C) (k := k) (by
                  rw [HRT.out]
                  cases hf : lnTo ws e k ws.length
                  · rfl
                  · exfalso
                    have h9 := (lnTo_iff ws e k j).2 (fun i hi => (lnTo_iff ws e k ws.length).1 hf i (by omega))
                    rw [hln] at h9; cases h9))
                clear hln
                by_cases hjL : (j : Int) < (ws.length : Int)
                · go_wp2_with fail
                  go_roundw
                  case rel => exact ⟨k + 1, by omega, by go_num, d0, d1, HBJ.out, hzj, by rw [HY.out]; exact HOJ.out⟩
                  case measure => (simp [intOf]) <;> omega
                · go_wp2_with fail
                  go_roundw
                  case rel => exact ⟨k + 1, by omega, by go_num, d0, d1, HBJ.out, hzj, by rw [HY.out]; exact HOJ.out⟩
                  case measure => (simp [intOf]) <;> omega
              · have HLN := Lib.hid hln
                clear hln
                by_cases hjL : j < ws.length
                · have hjl0 : (j : Int) < (ws.length : Int) := by omega
                  have hj0 : (0 : Int) ≤ (j : Int) := by omega
                  have hq0 : 0 ≤ (k : Int) / 2 ^ j := (div_pow_bd k j hk0).1
                  have hstep : lnTo ws e k (j + 1) = (lnTo ws e k j && (!bit k j || !joins ws (k - 2 ^ j) e)) := rfl
                  rw [HLN.out, Bool.true_and] at hstep
                  cases hbit : bit (k : Int) j
                  · have hz1 := bit_zero (by omega) hk0 hbit
                    rw [Int.toNat_natCast] at hz1
                    have hd1 : ((k : Int) / 2 ^ j % 2 == 0) = true := by rw [hz1.1]; rfl
                    have hd2 : (((k : Int) / 2 ^ j).tmod 2 == 0) = true := by rw [hz1.2]; rfl
                    have HST : Hid (lnTo ws e k (j + 1) = true) := by show lnTo ws e k (j + 1) = true; rw [hstep, hbit]; rfl
                    clear hz1 hbit hstep
                    go_wp2_with fail
                    refine wp_region_held_drew (S := (fun w' => w'.cell? ⟨w.heap.size, 0, none⟩ = some (.int .i64 n) ∧ w'.cell? ⟨w.heap.size, 1, none⟩ = some (.slice A ws.length cap))) (by kernel_rfl) ?_ (fun hHeld => ?_)
                    · exact ⟨d0, d1⟩
                    refine wpAnyH_take (i := 0) (v := ?_) rfl (by kernel_rfl) (by kernel_rfl) (by kernel_rfl) (fun _ _ _ h => h) (Or.inl ⟨by rfl, ?_⟩) (by assumption) ?_
                    rotate_left
                    · (intro w hSw; (try dsimp only at hSw); (try simp only [List.getElem_toArray, List.getElem_cons_succ, List.getElem_cons_zero]); first | (go_simp; done) | (go_simp; with_reducible rfl))
                    try simp only [Act.put, List.getElem_toArray, List.getElem_cons_succ, List.getElem_cons_zero, List.setIfInBounds_toArray, List.set_cons_zero, List.set_cons_succ]
                    refine wpAnyH_take (i := 1) (v := ?_) rfl (by kernel_rfl) (by kernel_rfl) (by kernel_rfl) (fun _ _ _ h => h) (Or.inl ⟨by rfl, ?_⟩) (by assumption) ?_
                    rotate_left
                    · (intro w hSw; (try dsimp only at hSw); (try simp only [List.getElem_toArray, List.getElem_cons_succ, List.getElem_cons_zero]); first | (go_simp; done) | (go_simp; with_reducible rfl))
                    try simp only [Act.put, List.getElem_toArray, List.getElem_cons_succ, List.getElem_cons_zero, List.setIfInBounds_toArray, List.set_cons_zero, List.set_cons_succ]
                    refine wpAnyH_take (i := 2) (v := ?_) rfl (by kernel_rfl) (by kernel_rfl) (by kernel_rfl) (fun _ _ _ h => h) (Or.inl ⟨by rfl, ?_⟩) (by assumption) ?_
                    rotate_left
                    · (intro w hSw; (try dsimp only at hSw); (try simp only [List.getElem_toArray, List.getElem_cons_succ, List.getElem_cons_zero]); first | (go_simp; done) | (go_simp; with_reducible rfl))
                    try simp only [Act.put, List.getElem_toArray, List.getElem_cons_succ, List.getElem_cons_zero, List.setIfInBounds_toArray, List.set_cons_zero, List.set_cons_succ]
                    refine wpAnyH_take (i := 3) (v := ?_) rfl (by kernel_rfl) (by kernel_rfl) (by kernel_rfl) (fun _ _ _ h => h) (Or.inl ⟨by rfl, ?_⟩) (by assumption) ?_
                    rotate_left
                    · (intro w hSw; (try dsimp only at hSw); (try simp only [List.getElem_toArray, List.getElem_cons_succ, List.getElem_cons_zero]); first | (go_simp; done) | (go_simp; with_reducible rfl))
                    try simp only [Act.put, List.getElem_toArray, List.getElem_cons_succ, List.getElem_cons_zero, List.setIfInBounds_toArray, List.set_cons_zero, List.set_cons_succ]
                    refine wpAnyH_take (i := 4) (v := ?_) rfl (by kernel_rfl) (by kernel_rfl) (by kernel_rfl) (fun _ _ _ h => h) (Or.inl ⟨by rfl, ?_⟩) (by assumption) ?_
                    rotate_left
                    · (intro w hSw; (try dsimp only at hSw); (try simp only [List.getElem_toArray, List.getElem_cons_succ, List.getElem_cons_zero]); first | (go_simp; done) | (go_simp; with_reducible rfl))
                    try simp only [Act.put, List.getElem_toArray, List.getElem_cons_succ, List.getElem_cons_zero, List.setIfInBounds_toArray, List.set_cons_zero, List.set_cons_succ]
                    refine wpAnyH_take (i := 5) (v := ?_) rfl (by kernel_rfl) (by kernel_rfl) (by kernel_rfl) (fun _ _ _ h => h) (Or.inl ⟨by rfl, ?_⟩) (by assumption) ?_
                    rotate_left
                    · (intro w hSw; (try dsimp only at hSw); (try simp only [List.getElem_toArray, List.getElem_cons_succ, List.getElem_cons_zero]); first | (go_simp; done) | (go_simp; with_reducible rfl))
                    try simp only [Act.put, List.getElem_toArray, List.getElem_cons_succ, List.getElem_cons_zero, List.setIfInBounds_toArray, List.set_cons_zero, List.set_cons_succ]
                    refine wpAnyH_take (i := 6) (v := undef) rfl (by kernel_rfl) (by kernel_rfl) (by kernel_rfl) (fun _ _ _ h => h) (Or.inr ⟨by rfl, rfl⟩) (by assumption) ?_
                    try simp only [Act.put, List.getElem_toArray, List.getElem_cons_succ, List.getElem_cons_zero, List.setIfInBounds_toArray, List.set_cons_zero, List.set_cons_succ]
                    refine wpAnyH_take (i := 7) (v := undef) rfl (by kernel_rfl) (by kernel_rfl) (by kernel_rfl) (fun _ _ _ h => h) (Or.inr ⟨by rfl, rfl⟩) (by assumption) ?_
                    try simp only [Act.put, List.getElem_toArray, List.getElem_cons_succ, List.getElem_cons_zero, List.setIfInBounds_toArray, List.set_cons_zero, List.set_cons_succ]
                    refine wpAnyH_take (i := 8) (v := undef) rfl (by kernel_rfl) (by kernel_rfl) (by kernel_rfl) (fun _ _ _ h => h) (Or.inr ⟨by rfl, rfl⟩) (by assumption) ?_
                    try simp only [Act.put, List.getElem_toArray, List.getElem_cons_succ, List.getElem_cons_zero, List.setIfInBounds_toArray, List.set_cons_zero, List.set_cons_succ]
                    refine wpAnyH_take (i := 9) (v := undef) rfl (by kernel_rfl) (by kernel_rfl) (by kernel_rfl) (fun _ _ _ h => h) (Or.inr ⟨by rfl, rfl⟩) (by assumption) ?_
                    try simp only [Act.put, List.getElem_toArray, List.getElem_cons_succ, List.getElem_cons_zero, List.setIfInBounds_toArray, List.set_cons_zero, List.set_cons_succ]
                    refine wpAnyH_take (i := 10) (v := undef) rfl (by kernel_rfl) (by kernel_rfl) (by kernel_rfl) (fun _ _ _ h => h) (Or.inr ⟨by rfl, rfl⟩) (by assumption) ?_
                    try simp only [Act.put, List.getElem_toArray, List.getElem_cons_succ, List.getElem_cons_zero, List.setIfInBounds_toArray, List.set_cons_zero, List.set_cons_succ]
                    refine wpAnyH_take (i := 11) (v := undef) rfl (by kernel_rfl) (by kernel_rfl) (by kernel_rfl) (fun _ _ _ h => h) (Or.inr ⟨by rfl, rfl⟩) (by assumption) ?_
                    try simp only [Act.put, List.getElem_toArray, List.getElem_cons_succ, List.getElem_cons_zero, List.setIfInBounds_toArray, List.set_cons_zero, List.set_cons_succ]
                    refine wpAnyH_take (i := 12) (v := undef) rfl (by kernel_rfl) (by kernel_rfl) (by kernel_rfl) (fun _ _ _ h => h) (Or.inr ⟨by rfl, rfl⟩) (by assumption) ?_
                    try simp only [Act.put, List.getElem_toArray, List.getElem_cons_succ, List.getElem_cons_zero, List.setIfInBounds_toArray, List.set_cons_zero, List.set_cons_succ]
                    refine wpAnyH_take (i := 13) (v := undef) rfl (by kernel_rfl) (by kernel_rfl) (by kernel_rfl) (fun _ _ _ h => h) (Or.inr ⟨by rfl, rfl⟩) (by assumption) ?_
                    try simp only [Act.put, List.getElem_toArray, List.getElem_cons_succ, List.getElem_cons_zero, List.setIfInBounds_toArray, List.set_cons_zero, List.set_cons_succ]
                    refine wpAnyH_take (i := 14) (v := ?_) rfl (by kernel_rfl) (by kernel_rfl) (by kernel_rfl) (fun _ _ _ h => h) (Or.inl ⟨by rfl, ?_⟩) (by assumption) ?_
                    rotate_left
                    · (intro w hSw; (try dsimp only at hSw); (try simp only [List.getElem_toArray, List.getElem_cons_succ, List.getElem_cons_zero]); first | (go_simp; done) | (go_simp; with_reducible rfl))
                    try simp only [Act.put, List.getElem_toArray, List.getElem_cons_succ, List.getElem_cons_zero, List.setIfInBounds_toArray, List.set_cons_zero, List.set_cons_succ]
                    refine wpAnyH_take (i := 15) (v := ?_) rfl (by kernel_rfl) (by kernel_rfl) (by kernel_rfl) (fun _ _ _ h => h) (Or.inl ⟨by rfl, ?_⟩) (by assumption) ?_
                    rotate_left
                    · (intro w hSw; (try dsimp only at hSw); (try simp only [List.getElem_toArray, List.getElem_cons_succ, List.getElem_cons_zero]); first | (go_simp; done) | (go_simp; with_reducible rfl))
                    try simp only [Act.put, List.getElem_toArray, List.getElem_cons_succ, List.getElem_cons_zero, List.setIfInBounds_toArray, List.set_cons_zero, List.set_cons_succ]
                    refine wpAnyH_done (by kernel_rfl) ?_ _
                    go_wp2_with fail
                    go_roundw
                    case rel => exact ⟨j + 1, by omega, by go_num, by rw [HST.out], d0, d1, HBJ.out.drew, hzj, HOJ.out⟩
                    case measure => (simp [intOf]) <;> omega
                  · have hz1 := bit_one (by omega) hk0 hbit
                    rw [Int.toNat_natCast] at hz1
                    have hd1 : ((k : Int) / 2 ^ j % 2 == 0) = false := by rw [hz1.1]; rfl
                    have hd2 : (((k : Int) / 2 ^ j).tmod 2 == 0) = false := by rw [hz1.2]; rfl
                    have hone := idiff_one (u := (k : Int)) (k := j) hk0 (by omega) (by omega) hbit
                    have hle := hone.2
                    have hpk := pow_bd (j : Int) 8 (by omega)
                    rw [Int.toNat_natCast] at hpk
                    have HST : Hid (lnTo ws e k (j + 1) = !joins ws (k - 2 ^ j) e) := by show lnTo ws e k (j + 1) = _; rw [hstep, hbit]; rfl
                    have hv0 : 0 ≤ (k : Int) - 2 ^ j := by omega
                    have hv1 : (k : Int) - 2 ^ j ≤ 1048576 := by omega
                    have hsb : IntKind.i64.wrap ((k : Int) - 2 ^ j) = (k : Int) - 2 ^ j := IntWalk.i64_in _ ⟨by omega, by omega⟩
                    have hwk : IntKind.i64.wrap (2 ^ j) = 2 ^ j := IntWalk.i64_in _ ⟨by omega, by omega⟩
                    have hwk' : wrap64 (2 ^ j) = 2 ^ j := IntWalk.wrap64_in _ ⟨by omega, by omega⟩
                    obtain ⟨bj, hbj⟩ : ∃ bj, joins ws ((k : Int) - 2 ^ j) e = bj := ⟨_, rfl⟩
                    have HJK := Lib.hid hbj
                    clear hz1 hbit hstep hone hle hpk hbj
                    go_wp2_with fail
                    refine wp_region_held_drew (S := (fun w' => w'.cell? ⟨w.heap.size, 0, none⟩ = some (.int .i64 n) ∧ w'.cell? ⟨w.heap.size, 1, none⟩ = some (.slice A ws.length cap))) (by kernel_rfl) ?_ (fun hHeld => ?_)
                    · exact ⟨d0, d1⟩
                    refine wpAnyH_take (i := 0) (v := ?_) rfl (by kernel_rfl) (by kernel_rfl) (by kernel_rfl) (fun _ _ _ h => h) (Or.inl ⟨by rfl, ?_⟩) (by assumption) ?_
                    rotate_left
                    · (intro w hSw; (try dsimp only at hSw); (try simp only [List.getElem_toArray, List.getElem_cons_succ, List.getElem_cons_zero]); first | (go_simp; done) | (go_simp; with_reducible rfl))
                    try simp only [Act.put, List.getElem_toArray, List.getElem_cons_succ, List.getElem_cons_zero, List.setIfInBounds_toArray, List.set_cons_zero, List.set_cons_succ]
                    refine wpAnyH_take (i := 1) (v := ?_) rfl (by kernel_rfl) (by kernel_rfl) (by kernel_rfl) (fun _ _ _ h => h) (Or.inl ⟨by rfl, ?_⟩) (by assumption) ?_
                    rotate_left
                    · (intro w hSw; (try dsimp only at hSw); (try simp only [List.getElem_toArray, List.getElem_cons_succ, List.getElem_cons_zero]); first | (go_simp; done) | (go_simp; with_reducible rfl))
                    try simp only [Act.put, List.getElem_toArray, List.getElem_cons_succ, List.getElem_cons_zero, List.setIfInBounds_toArray, List.set_cons_zero, List.set_cons_succ]
                    refine wpAnyH_take (i := 2) (v := ?_) rfl (by kernel_rfl) (by kernel_rfl) (by kernel_rfl) (fun _ _ _ h => h) (Or.inl ⟨by rfl, ?_⟩) (by assumption) ?_
                    rotate_left
                    · (intro w hSw; (try dsimp only at hSw); (try simp only [List.getElem_toArray, List.getElem_cons_succ, List.getElem_cons_zero]); first | (go_simp; done) | (go_simp; with_reducible rfl))
                    try simp only [Act.put, List.getElem_toArray, List.getElem_cons_succ, List.getElem_cons_zero, List.setIfInBounds_toArray, List.set_cons_zero, List.set_cons_succ]
                    refine wpAnyH_take (i := 3) (v := ?_) rfl (by kernel_rfl) (by kernel_rfl) (by kernel_rfl) (fun _ _ _ h => h) (Or.inl ⟨by rfl, ?_⟩) (by assumption) ?_
                    rotate_left
                    · (intro w hSw; (try dsimp only at hSw); (try simp only [List.getElem_toArray, List.getElem_cons_succ, List.getElem_cons_zero]); first | (go_simp; done) | (go_simp; with_reducible rfl))
                    try simp only [Act.put, List.getElem_toArray, List.getElem_cons_succ, List.getElem_cons_zero, List.setIfInBounds_toArray, List.set_cons_zero, List.set_cons_succ]
                    refine wpAnyH_take (i := 4) (v := ?_) rfl (by kernel_rfl) (by kernel_rfl) (by kernel_rfl) (fun _ _ _ h => h) (Or.inl ⟨by rfl, ?_⟩) (by assumption) ?_
                    rotate_left
                    · (intro w hSw; (try dsimp only at hSw); (try simp only [List.getElem_toArray, List.getElem_cons_succ, List.getElem_cons_zero]); first | (go_simp; done) | (go_simp; with_reducible rfl))
                    try simp only [Act.put, List.getElem_toArray, List.getElem_cons_succ, List.getElem_cons_zero, List.setIfInBounds_toArray, List.set_cons_zero, List.set_cons_succ]
                    refine wpAnyH_take (i := 5) (v := ?_) rfl (by kernel_rfl) (by kernel_rfl) (by kernel_rfl) (fun _ _ _ h => h) (Or.inl ⟨by rfl, ?_⟩) (by assumption) ?_
                    rotate_left
                    · (intro w hSw; (try dsimp only at hSw); (try simp only [List.getElem_toArray, List.getElem_cons_succ, List.getElem_cons_zero]); first | (go_simp; done) | (go_simp; with_reducible rfl))
                    try simp only [Act.put, List.getElem_toArray, List.getElem_cons_succ, List.getElem_cons_zero, List.setIfInBounds_toArray, List.set_cons_zero, List.set_cons_succ]
                    refine wpAnyH_take (i := 6) (v := ?_) rfl (by kernel_rfl) (by kernel_rfl) (by kernel_rfl) (fun _ _ _ h => h) (Or.inl ⟨by rfl, ?_⟩) (by assumption) ?_
                    rotate_left
                    · (intro w hSw; (try dsimp only at hSw); (try simp only [List.getElem_toArray, List.getElem_cons_succ, List.getElem_cons_zero]); first | (go_simp; done) | (go_simp; with_reducible rfl))
                    try simp only [Act.put, List.getElem_toArray, List.getElem_cons_succ, List.getElem_cons_zero, List.setIfInBounds_toArray, List.set_cons_zero, List.set_cons_succ]
                    refine wpAnyH_take (i := 7) (v := ?_) rfl (by kernel_rfl) (by kernel_rfl) (by kernel_rfl) (fun _ _ _ h => h) (Or.inl ⟨by rfl, ?_⟩) (by assumption) ?_
                    rotate_left
                    · (intro w hSw; (try dsimp only at hSw); (try simp only [List.getElem_toArray, List.getElem_cons_succ, List.getElem_cons_zero]); first | (go_simp; done) | (go_simp; with_reducible rfl))
                    try simp only [Act.put, List.getElem_toArray, List.getElem_cons_succ, List.getElem_cons_zero, List.setIfInBounds_toArray, List.set_cons_zero, List.set_cons_succ]
                    refine wpAnyH_take (i := 8) (v := ?_) rfl (by kernel_rfl) (by kernel_rfl) (by kernel_rfl) (fun _ _ _ h => h) (Or.inl ⟨by rfl, ?_⟩) (by assumption) ?_
                    rotate_left
                    · (intro w hSw; (try dsimp only at hSw); (try simp only [List.getElem_toArray, List.getElem_cons_succ, List.getElem_cons_zero]); first | (go_simp; done) | (go_simp; with_reducible rfl))
                    try simp only [Act.put, List.getElem_toArray, List.getElem_cons_succ, List.getElem_cons_zero, List.setIfInBounds_toArray, List.set_cons_zero, List.set_cons_succ]
                    refine wpAnyH_take (i := 9) (v := ?_) rfl (by kernel_rfl) (by kernel_rfl) (by kernel_rfl) (fun _ _ _ h => h) (Or.inl ⟨by rfl, ?_⟩) (by assumption) ?_
                    rotate_left
                    · (intro w hSw; (try dsimp only at hSw); (try simp only [List.getElem_toArray, List.getElem_cons_succ, List.getElem_cons_zero]); first | (go_simp; done) | (go_simp; with_reducible rfl))
                    try simp only [Act.put, List.getElem_toArray, List.getElem_cons_succ, List.getElem_cons_zero, List.setIfInBounds_toArray, List.set_cons_zero, List.set_cons_succ]
                    refine wpAnyH_take (i := 10) (v := ?_) rfl (by kernel_rfl) (by kernel_rfl) (by kernel_rfl) (fun _ _ _ h => h) (Or.inl ⟨by rfl, ?_⟩) (by assumption) ?_
                    rotate_left
                    · (intro w hSw; (try dsimp only at hSw); (try simp only [List.getElem_toArray, List.getElem_cons_succ, List.getElem_cons_zero]); first | (go_simp; done) | (go_simp; with_reducible rfl))
                    try simp only [Act.put, List.getElem_toArray, List.getElem_cons_succ, List.getElem_cons_zero, List.setIfInBounds_toArray, List.set_cons_zero, List.set_cons_succ]
                    refine wpAnyH_take (i := 11) (v := ?_) rfl (by kernel_rfl) (by kernel_rfl) (by kernel_rfl) (fun _ _ _ h => h) (Or.inl ⟨by rfl, ?_⟩) (by assumption) ?_
                    rotate_left
                    · (intro w hSw; (try dsimp only at hSw); (try simp only [List.getElem_toArray, List.getElem_cons_succ, List.getElem_cons_zero]); first | (go_simp; done) | (go_simp; with_reducible rfl))
                    try simp only [Act.put, List.getElem_toArray, List.getElem_cons_succ, List.getElem_cons_zero, List.setIfInBounds_toArray, List.set_cons_zero, List.set_cons_succ]
                    refine wpAnyH_ready (rs := [12]) (by kernel_rfl) (by simp) ?_
                    refine AllReadyH.cons rfl (fun K hK => ?_) AllReadyH.nil
                    try simp only [List.getElem_toArray, List.getElem_cons_succ, List.getElem_cons_zero]
                    go_simp
                    go_at_call 50; refine (l1Joins_any n ((k : Int) - 2 ^ j) e A cap ws _ (HRJ.out.drewNR _) HS.out hv0 hv1 he0 HE.out).mono ?_; rintro e6 w6 ⟨rfl, hb6⟩; rw [HJK.out]; have g6 : Below wr.heap.size wr w6 := und hb6; have k6 := keep2 g6 ⟨d0, d1⟩ hzj; have z6 := Nat.lt_of_lt_of_le hzj g6.size
                    refine hK.out _ _ ?_ (fun hHeld => ?_)
                    · exact k6
                    clear hK K
                    try simp only [Act.put, List.getElem_toArray, List.getElem_cons_succ, List.getElem_cons_zero, List.setIfInBounds_toArray, List.set_cons_zero, List.set_cons_succ]
                    refine wpAnyH_take (i := 13) (v := ?_) rfl (by kernel_rfl) (by kernel_rfl) (by kernel_rfl) (fun _ _ _ h => h) (Or.inl ⟨by rfl, ?_⟩) (by assumption) ?_
                    rotate_left
                    · (intro w hSw; (try dsimp only at hSw); (try simp only [List.getElem_toArray, List.getElem_cons_succ, List.getElem_cons_zero]); first | (go_simp; done) | (go_simp; with_reducible rfl))
                    try simp only [Act.put, List.getElem_toArray, List.getElem_cons_succ, List.getElem_cons_zero, List.setIfInBounds_toArray, List.set_cons_zero, List.set_cons_succ]
                    refine wpAnyH_take (i := 14) (v := ?_) rfl (by kernel_rfl) (by kernel_rfl) (by kernel_rfl) (fun _ _ _ h => h) (Or.inl ⟨by rfl, ?_⟩) (by assumption) ?_
                    rotate_left
                    · (intro w hSw; (try dsimp only at hSw); (try simp only [List.getElem_toArray, List.getElem_cons_succ, List.getElem_cons_zero]); first | (go_simp; done) | (go_simp; with_reducible rfl))
                    try simp only [Act.put, List.getElem_toArray, List.getElem_cons_succ, List.getElem_cons_zero, List.setIfInBounds_toArray, List.set_cons_zero, List.set_cons_succ]
                    refine wpAnyH_take (i := 15) (v := ?_) rfl (by kernel_rfl) (by kernel_rfl) (by kernel_rfl) (fun _ _ _ h => h) (Or.inl ⟨by rfl, ?_⟩) (by assumption) ?_
                    rotate_left
                    · (intro w hSw; (try dsimp only at hSw); (try simp only [List.getElem_toArray, List.getElem_cons_succ, List.getElem_cons_zero]); first | (go_simp; done) | (go_simp; with_reducible rfl))
                    try simp only [Act.put, List.getElem_toArray, List.getElem_cons_succ, List.getElem_cons_zero, List.setIfInBounds_toArray, List.set_cons_zero, List.set_cons_succ]
                    refine wpAnyH_done (by kernel_rfl) ?_ _
                    have HB6 := Lib.hid (bstep (B := w.heap.size) (W := w) HBJ.out (Nat.le_of_lt hzj) g6)
                    have HO6 := Lib.hid (own_below HOJ.out g6)
                    clear g6 hb6 hwk hwk' hsb
                    go_wp2_with fail
                    go_roundw
                    case rel => exact ⟨j + 1, by omega, by go_num, by rw [HST.out, HJK.out], k6.1, k6.2, HB6.out, z6, HO6.out⟩
                    case measure => (simp [intOf]) <;> omega
                · have hjL' : j = ws.length := by omega
                  subst hjL'
                  have HY := Lib.hid (rtTo_yes (ws := ws) (e := e) (c := C) (k := k) (by rw [HRT.out]; exact HLN.out))
                  have kj := (⟨d0, d1⟩ : _ ∧ _)
                  go_wp2_with (at_builtin; refine wpList_append_lies _ rfl _ _ _ rfl (w.heap.size + 1) 3 i0 _ 1 8 Tryd.underlying35 hi0 hz0 hz1' hz2 rfl (by omega) (.slice A1 (rtTo ws e C k).length c1) (rtTo ws e C k).length (rlCells (rtTo ws e C k)) rfl (HOJ.out.alloc _) ⟨wr.heap.size, 0, none⟩ 1 1 [.int .i64 k] rfl rfl (World.news_of_block (cs := #[.int .i64 k]) (t := 3) (fr := (0, 0)) (heap_alloc_new wr _)) (by simp [Value.oneCell']) (by omega) (by unfold maxLen; omega) (by omega) (by simp; omega) (wr.heap.size + 1) (by simp) ?_; intro gg cc w5 hown5 hgrow5 hat5 hlt5)
                  have hb5 : Below w.heap.size w w5 := by
                    have h9 := HBJ.out.alloc (Nat.le_of_lt hzj) (.cells #[.int .i64 k] 3)
                    refine ⟨hgrow5.os.trans h9.os, hgrow5.tape.trans h9.tape, hgrow5.output.trans h9.output, Nat.le_trans h9.size hgrow5.size, fun i hi => (hgrow5.block i (by simp; omega) (fun e => by have := (HOJ.out.lt i e.symm).1; omega)).trans (h9.block i hi)⟩
                  have hbx : w5.heap[w.heap.size]? = wr.heap[w.heap.size]? := (hgrow5.block w.heap.size (by simp; omega) (fun e => by have := (HOJ.out.lt w.heap.size e.symm).1; omega)).trans (Below.heap_alloc _ _ _ hzj)
                  have HB5 := Lib.hid hb5
                  have HO5 : Hid (w5.ownsRow (w.heap.size + 1) 3 1 (.slice (some ⟨gg, 0, none⟩) ((rtTo ws e C k).length + 1) cc) (rtTo ws e C (k + 1)).length (rlCells (rtTo ws e C (k + 1)))) := by
                    show w5.ownsRow _ _ _ _ _ _
                    rw [HY.out, rlCells_snoc, List.length_append]; exact hown5
                  have c0 : w5.cell? ⟨w.heap.size, 0, none⟩ = some (.int .i64 n) := (World.cell?_of_block (w := wr) hbx).trans kj.1
                  have c1 : w5.cell? ⟨w.heap.size, 1, none⟩ = some (.slice A ws.length cap) := (World.cell?_of_block (w := wr) hbx).trans kj.2
                  have z5 : w.heap.size < w5.heap.size := Nat.lt_of_lt_of_le (by simp; omega) hgrow5.size
                  clear hown5 hgrow5 hat5 hlt5 hb5 hbx
                  go_wp2_with fail
                  go_roundw
                  case rel => exact ⟨k + 1, by omega, by go_num, c0, c1, HB5.out, z5, by have h9 := HO5.out; rw [HY.out] at h9 ⊢; simpa using h9⟩
                  case measure => (simp [intOf]) <;> omega
        · have hce : (cost ws k == C) = false := by simpa using hco
          have HY := Lib.hid (rtTo_no (ws := ws) (e := e) (c := C) (k := k) (by rw [hRT, hce]; rfl))
          have hcb := cost_bds HS.out (k : Int)
          clear hRT hco
          go_wp2_with fail
          refine (l1Cost_any n k A cap ws _ (HR.out.later (by have := HB0.out; go_grown)) HS.out hk0 (by omega)).mono ?_; rintro e3 w3 ⟨rfl, hb3⟩
          have k3 := keep2 hb3 ⟨b0, b1⟩ hz
          have z3 := Nat.lt_of_lt_of_le hz hb3.size
          have HB3 := Lib.hid (bstep (B := w.heap.size) (W := w) HB0.out (Nat.le_of_lt hz) hb3)
          have HO3 := Lib.hid (own_below HOWN.out hb3)
          clear hb3 HOWN
          obtain ⟨m0, m1⟩ := k3
          go_wp2_with fail
          refine wp_loop_rounds 1 ?_
          rw [rounds_succ]
          by_cases hL0 : 0 < (ws.length : Int)
          · go_wp2_with fail
            go_roundw
            case rel => exact ⟨k + 1, by omega, by go_num, m0, m1, HB3.out, z3, by rw [HY.out]; exact HO3.out⟩
            case measure => (simp [intOf]) <;> omega
          · go_wp2_with fail
            go_roundw
            case rel => exact ⟨k + 1, by omega, by go_num, m0, m1, HB3.out, z3, by rw [HY.out]; exact HO3.out⟩
            case measure => (simp [intOf]) <;> omega
      · have hkN : k = N := by omega
        subst hkN
        have hgeF : ¬ (k : Int) < 2 ^ ws.length := by have := HPW.out; omega
        go_wp2_with fail
        go_ret
        exact ⟨_, _, rfl, (rowF_of_own HOWN.out (fun j hj => rlCells_at hj)).wider (Nat.le_succ _), HB0.out⟩
end Go.Proofs.YtcfendmhhhggeaaDoor
