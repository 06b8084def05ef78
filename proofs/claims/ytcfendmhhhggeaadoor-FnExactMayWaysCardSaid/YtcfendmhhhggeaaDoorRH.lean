/- AllRoots of the program. -/
import Derived.Test.YtcfendmhhhggeaaDoorMJ
set_option linter.unusedSimpArgs false
set_option linter.unusedVariables false
attribute [local go_sem ↓] Go.wp_at_zero Go.wp_at_succ
namespace Go.Proofs.YtcfendmhhhggeaaDoor
open Go.ChangeShapes Go.WideShapes Go.ChangeAt Go.RowKit

set_option maxRecDepth 100000 in
set_option maxHeartbeats 4000000 in
theorem AllRoots_any (n e : Int) (A : Option Addr) (cap : Nat) (ws : List Wy) (w : World) (hr : RW w w.heap.size A ws) (hT : Tab w) :
    Calls Tryd.prog 27 #[.agg #[.int .i64 n, .slice A ws.length cap], .int .i64 e] w (NewInts (rootsOf n ws e) w) := by
  have HR := Lib.hid hr
  have HT := Lib.hid hT
  clear hr hT
  obtain ⟨C, hC⟩ : ∃ C, rootCost n ws e = C := ⟨_, rfl⟩
  by_cases hneg : C < 0
  · rw [rootsOf_no hC hneg]
    have HC := Lib.hid hC
    clear hC
    go_enter Tryd.func27, Tryd.ntmps27
    go_wp2_with fail
    refine (RootCost_any _ _ _ _ _ _ (HR.out.later (by go_grown)) (HT.out.later (by go_grown))).mono ?_; rintro e w1 ⟨rfl, hb1⟩
    rw [HC.out]
    obtain ⟨hc1, hf1⟩ := bcell hb1
    have hz1_0 : w.heap.size < w1.heap.size := by have hq := hb1.size; (try simp at hq); omega
    have HK1 := Lib.hid hb1
    have HB1 := Lib.hid (bstep (B := w.heap.size) (W := w) (by (try have hp := HB0.out); go_grown) (by go_size) hb1); clear hb1
    go_wp2_with fail
    go_ret
    exact newInts_nil rfl HB1.out
  · obtain ⟨hno, hpo, hb0, -, -⟩ := rootCost_told (n := n) (ws := ws) (e := e) (by rw [hC]; exact hneg)
    have hni := netOk_t hno
    have HS := Lib.hid hni
    obtain ⟨he0, he1⟩ := plOk_t hpo
    have HE := Lib.hid he1
    have hl9 := hni.len
    have hC81 : C ≤ 81 := by
      rw [← hC]
      unfold rootCost costOf
      split
      · exact (cost_bds hni _).2
      · omega
    have hfb := full_bd ws.length hl9
    have hpl := pow_bd (ws.length : Int) 9 (by omega)
    rw [Int.toNat_natCast] at hpl
    have hpw : ((2 : Int) ^ ws.length) = ((2 ^ ws.length : Nat) : Int) := by simp
    obtain ⟨N, hN⟩ : ∃ N : Nat, 2 ^ ws.length = N := ⟨_, rfl⟩
    rw [hN] at hpw
    have hfN : full ws.length + 1 = (N : Int) := by unfold full; rw [hpw]; omega
    have hN9 : N ≤ 512 := by omega
    have HL := Lib.hid (rootsOf_is hC hneg hN)
    have hlen : ∀ k, (rtTo ws e C k).length ≤ k := rtTo_len ws e C
    obtain ⟨i0, hi0, hz0, hz1', hz2⟩ := info_parts infoInt
    rw [HL.out]
    have HC := Lib.hid hC
    have hge : 0 ≤ C := by omega
    obtain ⟨F, hF⟩ : ∃ F : Int, full ws.length = F := ⟨_, rfl⟩
    have hF1 : F + 1 = N := by rw [← hF]; exact hfN
    have HF := Lib.hid hF
    clear hC hno hpo hni he1 hpl hpw hN hfb hF hfN
    go_enter Tryd.func27, Tryd.ntmps27
    go_wp2_with fail
    refine (RootCost_any _ _ _ _ _ _ (HR.out.later (by go_grown)) (HT.out.later (by go_grown))).mono ?_; rintro e w1 ⟨rfl, hb1⟩
    rw [HC.out]
    obtain ⟨hc1, hf1⟩ := bcell hb1
    have hz1_0 : w.heap.size < w1.heap.size := by have hq := hb1.size; (try simp at hq); omega
    have HK1 := Lib.hid hb1
    have HB1 := Lib.hid (bstep (B := w.heap.size) (W := w) (by (try have hp := HB0.out); go_grown) (by go_size) hb1); clear hb1
    have k1 : w1.cell? ⟨w.heap.size, 0, none⟩ = some (.int .i64 n) ∧ w1.cell? ⟨w.heap.size, 1, none⟩ = some (.slice A ws.length cap) := ⟨by go_simp, by go_simp⟩
    clear hc1 hf1
    go_wp2_with fail
    refine (allWays_any n A ws.length cap (by omega) _).mono ?_; rintro e2 w2 ⟨rfl, hb2⟩; rw [HF.out]
    have k2 := keep2 hb2 k1 hz1_0
    have z2 := Nat.lt_of_lt_of_le hz1_0 hb2.size
    have HB2 := Lib.hid (bstep (B := w.heap.size) (W := w) HB1.out (Nat.le_of_lt hz1_0) hb2)
    clear hb2 k1
    go_wp2_with fail
    go_loopw [6, 16] (fun v i wr => ∃ k : Nat, k ≤ N ∧ i = .int .i64 k ∧ wr.cell? ⟨w.heap.size, 0, none⟩ = some (.int .i64 n) ∧ wr.cell? ⟨w.heap.size, 1, none⟩ = some (.slice A ws.length cap) ∧ Below w.heap.size w wr ∧ w.heap.size < wr.heap.size ∧ wr.ownsRow (w.heap.size + 1) 3 1 v (rtTo ws e C k).length (rlCells (rtTo ws e C k))) (fun _ i _ => N - (intOf i).toNat)
    case atStart => exact ⟨0, Nat.zero_le _, rfl, k2.1, k2.2, HB2.out, z2, World.ownsRow_nil _ _ _ _⟩
    case round =>
      clear k2
      obtain ⟨k, hk, rfl, b0, b1, hb, hz, hown⟩ := hrel
      obtain ⟨A1, c1, rfl⟩ := own_form hown
      have HB0 := Lib.hid hb
      have HOWN := Lib.hid hown
      have hlk := hlen k
      clear hb hown
      by_cases hlt : k < N
      · have hltF : (k : Int) < F + 1 := by omega
        have hk0 : (0 : Int) ≤ (k : Int) := by omega
        have hk1 : (k : Int) ≤ 511 := by omega
        have hRT := rt_th (c := C) HS.out hk0 (by have := HF.out; omega) he0 HE.out
        by_cases hco : cost ws k = C
        · have hce : (cost ws k == C) = true := by rw [hco]; simp
          have HCO := Lib.hid hco
          rw [hce, Bool.true_and] at hRT
          clear hce hco
          cases hj : joins ws (k : Int) e
          · have HY := Lib.hid (rtTo_no (ws := ws) (e := e) (c := C) (k := k) (by rw [hRT, hj]; rfl))
            have HJ := Lib.hid hj
            clear hj hRT
            go_wp2_with fail
            refine (setCost_any n k A cap ws _ (HR.out.later (by have := HB0.out; go_grown)) HS.out hk0 (by omega)).mono ?_; rintro e3 w3 ⟨rfl, hb3⟩; rw [HCO.out]
            have k3 := keep2 hb3 ⟨b0, b1⟩ hz
            have z3 := Nat.lt_of_lt_of_le hz hb3.size
            have HB3 := Lib.hid (bstep (B := w.heap.size) (W := w) HB0.out (Nat.le_of_lt hz) hb3)
            have HO3 := Lib.hid (own_below HOWN.out hb3)
            clear hb3 HOWN
            obtain ⟨l0, l1⟩ := k3
            go_wp2_with fail
            refine (setJoins_any n k e A cap ws _ (HR.out.later (by have := HB3.out; go_grown)) HS.out hk0 (by omega) he0 HE.out (HT.out.later (by have := HB3.out; go_grown))).mono ?_; rintro e4 w4 ⟨rfl, hb4⟩; rw [HJ.out]
            have k4 := keep2 hb4 ⟨l0, l1⟩ z3
            have z4 := Nat.lt_of_lt_of_le z3 hb4.size
            have HB4 := Lib.hid (bstep (B := w.heap.size) (W := w) HB3.out (Nat.le_of_lt z3) hb4)
            have HO4 := Lib.hid (own_below HO3.out hb4)
            clear hb4 HO3
            go_wp2_with fail
            go_roundw
            case rel => exact ⟨k + 1, by omega, by go_num, k4.1, k4.2, HB4.out, z4, by rw [HY.out]; exact HO4.out⟩
            case measure => (simp [intOf]) <;> omega
          · rw [hj, Bool.true_and] at hRT
            have HJ := Lib.hid hj
            clear hj
            have htb := thS_bd (ws := ws) (e := e) hk0 ws.length
            obtain ⟨T, hTT⟩ : ∃ T, thS ws e k ws.length = T := ⟨_, rfl⟩
            have HTT := Lib.hid hTT
            rw [hTT] at hRT htb
            clear hTT
            by_cases hts : T = k
            · have HY := Lib.hid (rtTo_yes (ws := ws) (e := e) (c := C) (k := k) (by rw [hRT, hts]; simp))
              have hte : (T == (k : Int)) = true := by rw [hts]; simp
              have HTE := Lib.hid hts
              clear hRT hts hte htb
              go_wp2_with fail
              refine (setCost_any n k A cap ws _ (HR.out.later (by have := HB0.out; go_grown)) HS.out hk0 (by omega)).mono ?_; rintro e3 w3 ⟨rfl, hb3⟩; rw [HCO.out]
              have k3 := keep2 hb3 ⟨b0, b1⟩ hz
              have z3 := Nat.lt_of_lt_of_le hz hb3.size
              have HB3 := Lib.hid (bstep (B := w.heap.size) (W := w) HB0.out (Nat.le_of_lt hz) hb3)
              have HO3 := Lib.hid (own_below HOWN.out hb3)
              clear hb3 HOWN
              obtain ⟨l0, l1⟩ := k3
              go_wp2_with fail
              refine (setJoins_any n k e A cap ws _ (HR.out.later (by have := HB3.out; go_grown)) HS.out hk0 (by omega) he0 HE.out (HT.out.later (by have := HB3.out; go_grown))).mono ?_; rintro e4 w4 ⟨rfl, hb4⟩; rw [HJ.out]
              have k4 := keep2 hb4 ⟨l0, l1⟩ z3
              have z4 := Nat.lt_of_lt_of_le z3 hb4.size
              have HB4 := Lib.hid (bstep (B := w.heap.size) (W := w) HB3.out (Nat.le_of_lt z3) hb4)
              have HO4 := Lib.hid (own_below HO3.out hb4)
              clear hb4 HO3
              obtain ⟨m0, m1⟩ := k4
              go_wp2_with fail
              refine (thinned_any n k e A cap ws _ (HR.out.later (by have := HB4.out; go_grown)) HS.out hk0 hk1 he0 HE.out (HT.out.later (by have := HB4.out; go_grown))).mono ?_; rintro e6 w6 ⟨rfl, hb6⟩; rw [HTT.out, HTE.out]
              have k6 := keep2 hb6 ⟨m0, m1⟩ z4
              have z6 := Nat.lt_of_lt_of_le z4 hb6.size
              have HB6 := Lib.hid (bstep (B := w.heap.size) (W := w) HB4.out (Nat.le_of_lt z4) hb6)
              have HO6 := Lib.hid (own_below HO4.out hb6)
              clear hb6 HO4
              go_wp2_with (at_builtin; refine wpList_append_lies _ rfl _ _ _ rfl (w.heap.size + 1) 3 i0 _ 1 8 Tryd.underlying35 hi0 hz0 hz1' hz2 rfl (by omega) (.slice A1 (rtTo ws e C k).length c1) (rtTo ws e C k).length (rlCells (rtTo ws e C k)) rfl (HO6.out.alloc _) ⟨w6.heap.size, 0, none⟩ 1 1 [.int .i64 k] rfl rfl (World.news_of_block (cs := #[.int .i64 k]) (t := 3) (fr := (0, 0)) (heap_alloc_new w6 _)) (by simp [Value.oneCell']) (by omega) (by unfold maxLen; omega) (by omega) (by simp; omega) (w6.heap.size + 1) (by simp) ?_; intro gg cc w5 hown5 hgrow5 hat5 hlt5)
              have hb5 : Below w.heap.size w w5 := by
                have h9 := HB6.out.alloc (Nat.le_of_lt z6) (.cells #[.int .i64 k] 3)
                refine ⟨hgrow5.os.trans h9.os, hgrow5.tape.trans h9.tape, hgrow5.output.trans h9.output, Nat.le_trans h9.size hgrow5.size, fun i hi => (hgrow5.block i (by simp; omega) (fun e => by have := (HO6.out.lt i e.symm).1; omega)).trans (h9.block i hi)⟩
              have hbx : w5.heap[w.heap.size]? = w6.heap[w.heap.size]? := (hgrow5.block w.heap.size (by simp; omega) (fun e => by have := (HO6.out.lt w.heap.size e.symm).1; omega)).trans (Below.heap_alloc _ _ _ z6)
              have HB5 := Lib.hid hb5
              have HO5 : Hid (w5.ownsRow (w.heap.size + 1) 3 1 (.slice (some ⟨gg, 0, none⟩) ((rtTo ws e C k).length + 1) cc) (rtTo ws e C (k + 1)).length (rlCells (rtTo ws e C (k + 1)))) := by
                show w5.ownsRow _ _ _ _ _ _
                rw [HY.out, rlCells_snoc, List.length_append]; exact hown5
              have c0 : w5.cell? ⟨w.heap.size, 0, none⟩ = some (.int .i64 n) := (World.cell?_of_block (w := w6) hbx).trans k6.1
              have c1 : w5.cell? ⟨w.heap.size, 1, none⟩ = some (.slice A ws.length cap) := (World.cell?_of_block (w := w6) hbx).trans k6.2
              have z5 : w.heap.size < w5.heap.size := Nat.lt_of_lt_of_le (by simp; omega) hgrow5.size
              clear hown5 hgrow5 hat5 hlt5 hb5 hbx
              go_wp2_with fail
              go_roundw
              case rel => exact ⟨k + 1, by omega, by go_num, c0, c1, HB5.out, z5, by have h9 := HO5.out; rw [HY.out] at h9 ⊢; simpa using h9⟩
              case measure => (simp [intOf]) <;> omega
            · have HY := Lib.hid (rtTo_no (ws := ws) (e := e) (c := C) (k := k) (by rw [hRT]; simpa using hts))
              have hte : (T == (k : Int)) = false := by simpa using hts
              clear hRT hts
              go_wp2_with fail
              refine (setCost_any n k A cap ws _ (HR.out.later (by have := HB0.out; go_grown)) HS.out hk0 (by omega)).mono ?_; rintro e3 w3 ⟨rfl, hb3⟩; rw [HCO.out]
              have k3 := keep2 hb3 ⟨b0, b1⟩ hz
              have z3 := Nat.lt_of_lt_of_le hz hb3.size
              have HB3 := Lib.hid (bstep (B := w.heap.size) (W := w) HB0.out (Nat.le_of_lt hz) hb3)
              have HO3 := Lib.hid (own_below HOWN.out hb3)
              clear hb3 HOWN
              obtain ⟨l0, l1⟩ := k3
              go_wp2_with fail
              refine (setJoins_any n k e A cap ws _ (HR.out.later (by have := HB3.out; go_grown)) HS.out hk0 (by omega) he0 HE.out (HT.out.later (by have := HB3.out; go_grown))).mono ?_; rintro e4 w4 ⟨rfl, hb4⟩; rw [HJ.out]
              have k4 := keep2 hb4 ⟨l0, l1⟩ z3
              have z4 := Nat.lt_of_lt_of_le z3 hb4.size
              have HB4 := Lib.hid (bstep (B := w.heap.size) (W := w) HB3.out (Nat.le_of_lt z3) hb4)
              have HO4 := Lib.hid (own_below HO3.out hb4)
              clear hb4 HO3
              obtain ⟨m0, m1⟩ := k4
              go_wp2_with fail
              refine (thinned_any n k e A cap ws _ (HR.out.later (by have := HB4.out; go_grown)) HS.out hk0 hk1 he0 HE.out (HT.out.later (by have := HB4.out; go_grown))).mono ?_; rintro e6 w6 ⟨rfl, hb6⟩; rw [HTT.out]
              have k6 := keep2 hb6 ⟨m0, m1⟩ z4
              have z6 := Nat.lt_of_lt_of_le z4 hb6.size
              have HB6 := Lib.hid (bstep (B := w.heap.size) (W := w) HB4.out (Nat.le_of_lt z4) hb6)
              have HO6 := Lib.hid (own_below HO4.out hb6)
              clear hb6 HO4
              go_wp2_with fail
              go_roundw
              case rel => exact ⟨k + 1, by omega, by go_num, k6.1, k6.2, HB6.out, z6, by rw [HY.out]; exact HO6.out⟩
              case measure => (simp [intOf]) <;> omega
        · have hce : (cost ws k == C) = false := by simpa using hco
          have HY := Lib.hid (rtTo_no (ws := ws) (e := e) (c := C) (k := k) (by rw [hRT, hce]; rfl))
          have hcb := cost_bds HS.out (k : Int)
          clear hRT hco
          go_wp2_with fail
          refine (setCost_any n k A cap ws _ (HR.out.later (by have := HB0.out; go_grown)) HS.out hk0 (by omega)).mono ?_; rintro e3 w3 ⟨rfl, hb3⟩
          have k3 := keep2 hb3 ⟨b0, b1⟩ hz
          have z3 := Nat.lt_of_lt_of_le hz hb3.size
          have HB3 := Lib.hid (bstep (B := w.heap.size) (W := w) HB0.out (Nat.le_of_lt hz) hb3)
          have HO3 := Lib.hid (own_below HOWN.out hb3)
          clear hb3 HOWN
          go_wp2_with fail
          go_roundw
          case rel => exact ⟨k + 1, by omega, by go_num, k3.1, k3.2, HB3.out, z3, by rw [HY.out]; exact HO3.out⟩
          case measure => (simp [intOf]) <;> omega
      · have hkN : k = N := by omega
        subst hkN
        have hgeF : ¬ (k : Int) < F + 1 := by omega
        go_wp2_with fail
        go_ret
        exact ⟨_, _, rfl, (rowF_of_own HOWN.out (fun j hj => rlCells_at hj)).wider (Nat.le_succ _), HB0.out⟩
end Go.Proofs.YtcfendmhhhggeaaDoor
