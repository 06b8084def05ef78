/- The law of EndTreeSet: its paths join the ends, at no more than EndTreeCost, and no less than a root. -/
import Derived.Test.YtcpefijmcajebaaDoorEnI
import Derived.Test.YtcpefijmcajebaaDoorEnL
import Derived.Test.YtcpefijmcajebaaDoorWXe
import Derived.Test.YtcpefijmcajebaaDoorWC
import Derived.Test.YtcpefijmcajebaaDoorMC
set_option linter.unusedSimpArgs false
set_option linter.unusedVariables false
attribute [local go_sem ↓] Go.wp_at_zero Go.wp_at_succ
namespace Go.Proofs.YtcpefijmcajebaaDoor
open Go.ChangeShapes Go.WideShapes Go.ChangeAt Go.RowKit

set_option maxRecDepth 100000 in
set_option maxHeartbeats 16000000 in
theorem FnEndTreeSet_walk (A : Option Addr) (len cap : Nat) (w : World) (hr : RB w w.heap.size A len) (hc : len ≤ cap) (hlen : len ≤ 9223372036854775807) (hT : Tab w) :
    Calls Tryd.prog 5 #[.slice A len cap] w fun e w' => e = .returned (.bool true) ∧ Below w.heap.size w w' := by
  have HR := Lib.hid hr
  have HT := Lib.hid hT
  clear hr hT
  by_cases hm : 1048576 < len
  · go_enter Tryd.func5, Tryd.ntmps5
    go_wp2_with fail
    go_ret
    exact ⟨rfl, Below.refl _ _⟩
  · go_enter Tryd.func5, Tryd.ntmps5
    go_wp2_with fail
    refine (DrawEndTreeSet_any A len cap _ HR.out hc (by omega)).mono ?_
    rintro e wd ⟨nn, ee, A', c', ws, rfl, hrw, hl10, hcc, hn0, hn7, hs0, hs1, hbd⟩
    have HRW := Lib.hid hrw
    have HBD := Lib.hid hbd
    have HTD := Lib.hid (HT.out.later hbd)
    have hzd : w.heap.size ≤ wd.heap.size := hbd.size
    clear hrw hbd
    cases hl : endLinks nn ws ee with
    | none =>
      have HC := Lib.hid (endLinks_none hl)
      have HP : Hid (endTreeSet nn ws ee = -1) := endTreeSet_none hl
      clear hl
      go_wp2_with fail
      refine (EndTreeSet_any _ _ _ _ _ _ (HRW.out.later (by go_grown)) (HTD.out.later (by go_grown))).mono ?_; rintro e w1 ⟨rfl, hb1⟩
      rw [HP.out]
      obtain ⟨hc1, hf1⟩ := bcell hb1
      have hz1_0 : wd.heap.size < w1.heap.size := by have hq := hb1.size; (try simp at hq); omega
      have HK1 := Lib.hid hb1
      have HB1 := Lib.hid (bstep (B := wd.heap.size) (W := wd) (by (try have hp := HB0.out); go_grown) (by go_size) hb1); clear hb1
      go_wp2_with fail
      refine (sEndTreeSet_any _ _ _ _ _ _ (HRW.out.later (by have := HB1.out; go_grown)) (by omega)).mono ?_; rintro e w2 ⟨rfl, hb2⟩
      rw [HP.out]
      obtain ⟨hc2, hf2⟩ := bcell hb2
      have hz2_0 : wd.heap.size < w2.heap.size := by have hq := hb2.size; (try simp at hq); omega
      have HK2 := Lib.hid hb2
      have HB2 := Lib.hid (bstep (B := wd.heap.size) (W := wd) (by have hp := HB1.out; go_grown) (by go_size) hb2); clear hb2
      go_wp2_with fail
      refine (RootCost_any _ _ _ _ _ _ (HRW.out.later (by have := HB2.out; go_grown)) (HTD.out.later (by have := HB2.out; go_grown))).mono ?_; rintro e w3 ⟨rfl, hb3⟩
      rw [HC.out]
      obtain ⟨hc3, hf3⟩ := bcell hb3
      have hz3_0 : wd.heap.size < w3.heap.size := by have hq := hb3.size; (try simp at hq); omega
      have HK3 := Lib.hid hb3
      have HB3 := Lib.hid (bstep (B := wd.heap.size) (W := wd) (by have hp := HB2.out; go_grown) (by go_size) hb3); clear hb3
      go_wp2_with fail
      refine (alive_any _).mono ?_; rintro e w4 ⟨rfl, hb4⟩
      obtain ⟨hc4, hf4⟩ := bcell hb4
      have hz4_0 : wd.heap.size < w4.heap.size := by have hq := hb4.size; (try simp at hq); omega
      have HK4 := Lib.hid hb4
      have HB4 := Lib.hid (bstep (B := wd.heap.size) (W := wd) (by have hp := HB3.out; go_grown) (by go_size) hb4); clear hb4
      go_wp2_with fail
      go_ret
      exact ⟨rfl, bstep HBD.out hzd HB4.out⟩
    | some L =>
      obtain ⟨m, rfl⟩ : ∃ m : Nat, nn = m := ⟨nn.toNat, by omega⟩
      obtain ⟨hno, hpo, -⟩ := endLinks_told hl
      obtain ⟨g1, g2, g3, g4, g5, g6, g7, g8, -, -, -, -, -, u1, u2, u3, u4, u5⟩ := endLinks_some hl
      obtain ⟨v1, v2, t, v3, v4, v5, v6, v7, v8⟩ := left_ok hno hpo u2 u3 u4
      rw [u1.symm] at u2 u3 u5 v1 v2 v3 v6 v8
      obtain ⟨S, hS⟩ : ∃ S, endTreeSet (m : Int) ws ee = S := ⟨_, rfl⟩
      rw [hS] at u2 u5 v1 v2 v3 v6 v8
      obtain ⟨P, hP⟩ : ∃ P, sumL (farF ws m) L = P := ⟨_, rfl⟩
      obtain ⟨Z, hZ⟩ : ∃ Z, rc ws ee = Z := ⟨_, rfl⟩
      obtain ⟨X, hX⟩ : ∃ X, cost ws t = X := ⟨_, rfl⟩
      obtain ⟨Y, hY⟩ : ∃ Y, cost ws S = Y := ⟨_, rfl⟩
      rw [hP] at g6 u5
      rw [hZ] at g4 v5
      rw [hX] at v4 v5 v6 v7
      rw [hY] at v2 v6 v8 u5
      have HP := Lib.hid g6
      have HC := Lib.hid g4
      have HS := Lib.hid hS
      have HJ := Lib.hid v1
      have HY := Lib.hid v2
      have HT := Lib.hid v3
      have HX := Lib.hid v4
      have hSn : ¬ S < 0 := by omega
      have d1 : decide (Y ≤ P) = true := by simpa using u5
      have d2 : decide (Z ≤ X) = true := by simpa using v5
      have d3 : decide (X ≤ Y) = true := by simpa using v6
      clear hl hno hpo g1 g2 g3 g4 g5 g6 g7 g8 u1 u2 u3 u4 v1 v2 v3 v4 hS hP hZ hX hY
      go_wp2_with fail
      refine (EndTreeSet_any _ _ _ _ _ _ (HRW.out.later (by go_grown)) (HTD.out.later (by go_grown))).mono ?_; rintro e w1 ⟨rfl, hb1⟩
      rw [HS.out]
      obtain ⟨hc1, hf1⟩ := bcell hb1
      have hz1_0 : wd.heap.size < w1.heap.size := by have hq := hb1.size; (try simp at hq); omega
      have HK1 := Lib.hid hb1
      have HB1 := Lib.hid (bstep (B := wd.heap.size) (W := wd) (by (try have hp := HB0.out); go_grown) (by go_size) hb1); clear hb1
      go_wp2_with fail
      refine (sEndTreeSet_any _ _ _ _ _ _ (HRW.out.later (by have := HB1.out; go_grown)) (by omega)).mono ?_; rintro e w2 ⟨rfl, hb2⟩
      rw [HS.out]
      obtain ⟨hc2, hf2⟩ := bcell hb2
      have hz2_0 : wd.heap.size < w2.heap.size := by have hq := hb2.size; (try simp at hq); omega
      have HK2 := Lib.hid hb2
      have HB2 := Lib.hid (bstep (B := wd.heap.size) (W := wd) (by have hp := HB1.out; go_grown) (by go_size) hb2); clear hb2
      have k2 : w2.cell? ⟨wd.heap.size, 0, none⟩ = some (.int .i64 m) ∧ w2.cell? ⟨wd.heap.size, 1, none⟩ = some (.slice A' ws.length c') := ⟨by go_simp, by go_simp⟩
      clear hc1 hf1 hc2 hf2
      obtain ⟨b0, b1⟩ := k2
      have HRR := Lib.hid (HRW.out.later HB2.out)
      have HTR := Lib.hid (HTD.out.later HB2.out)
      go_wp2_with fail
      refine wp_region_held_drew (S := (fun w' => w'.cell? ⟨wd.heap.size, 0, none⟩ = some (.int .i64 m) ∧ w'.cell? ⟨wd.heap.size, 1, none⟩ = some (.slice A' ws.length c'))) (by kernel_rfl) ?_ (fun hHeld => ?_)
      · exact ⟨b0, b1⟩
      refine wpAnyH_take (i := 0) (v := ?_) rfl (by kernel_rfl) (by kernel_rfl) (by kernel_rfl) (fun _ _ _ h => h) (Or.inl ⟨by rfl, ?_⟩) (by assumption) ?_
      rotate_left
      · (intro w hSw; (try dsimp only at hSw); (try simp only [List.getElem_toArray, List.getElem_cons_succ, List.getElem_cons_zero]); first | (go_simp; done) | (go_simp; with_reducible rfl))
      try simp only [Act.put, List.getElem_toArray, List.getElem_cons_succ, List.getElem_cons_zero, List.setIfInBounds_toArray, List.set_cons_zero, List.set_cons_succ]
      refine wpAnyH_take (i := 1) (v := ?_) rfl (by kernel_rfl) (by kernel_rfl) (by kernel_rfl) (fun _ _ _ h => h) (Or.inl ⟨by rfl, ?_⟩) (by assumption) ?_
      rotate_left
      · (intro w hSw; (try dsimp only at hSw); (try simp only [List.getElem_toArray, List.getElem_cons_succ, List.getElem_cons_zero]); first | (go_simp; done) | (go_simp; with_reducible rfl))
      try simp only [Act.put, List.getElem_toArray, List.getElem_cons_succ, List.getElem_cons_zero, List.setIfInBounds_toArray, List.set_cons_zero, List.set_cons_succ]
      refine wpAnyH_take (i := 2) (v := ?_) rfl (by kernel_rfl) (by kernel_rfl) (by kernel_rfl) (fun _ _ _ h => h) (Or.inl ⟨by rfl, ?_⟩) (by assumption) ?_
      rotate_left
      · (intro w hSw; (try dsimp only at hSw); (try simp only [List.getElem_toArray, List.getElem_cons_succ, List.getElem_cons_zero]); first | (go_simp; done) | (go_simp; with_reducible rfl))
      try simp only [Act.put, List.getElem_toArray, List.getElem_cons_succ, List.getElem_cons_zero, List.setIfInBounds_toArray, List.set_cons_zero, List.set_cons_succ]
      refine wpAnyH_take (i := 3) (v := ?_) rfl (by kernel_rfl) (by kernel_rfl) (by kernel_rfl) (fun _ _ _ h => h) (Or.inl ⟨by rfl, ?_⟩) (by assumption) ?_
      rotate_left
      · (intro w hSw; (try dsimp only at hSw); (try simp only [List.getElem_toArray, List.getElem_cons_succ, List.getElem_cons_zero]); first | (go_simp; done) | (go_simp; with_reducible rfl))
      try simp only [Act.put, List.getElem_toArray, List.getElem_cons_succ, List.getElem_cons_zero, List.setIfInBounds_toArray, List.set_cons_zero, List.set_cons_succ]
      refine wpAnyH_ready (rs := [4]) (by kernel_rfl) (by simp) ?_
      refine AllReadyH.cons rfl (fun K hK => ?_) AllReadyH.nil
      try simp only [List.getElem_toArray, List.getElem_cons_succ, List.getElem_cons_zero]
      go_simp
      go_at_call 22; refine (LeastIn_any _ _ _ _ _ _ _ (HRR.out.drewNR _) (HTR.out.drewNR _)).mono ?_; rintro e11 w11 ⟨rfl, hb11⟩; rw [HT.out]; have gg11 : Below w2.heap.size w2 w11 := und hb11; have g11 := gg11; have k11 := keep2 gg11 ⟨b0, b1⟩ hz2_0; have z11 := Nat.lt_of_lt_of_le hz2_0 gg11.size; have r11 := Lib.hid (HRR.out.later g11); have t11 := Lib.hid (HTR.out.later g11)
      refine hK.out _ _ ?_ (fun hHeld => ?_)
      · exact k11
      clear hK K
      try simp only [Act.put, List.getElem_toArray, List.getElem_cons_succ, List.getElem_cons_zero, List.setIfInBounds_toArray, List.set_cons_zero, List.set_cons_succ]
      refine wpAnyH_ready (rs := [5]) (by kernel_rfl) (by simp) ?_
      refine AllReadyH.cons rfl (fun K hK => ?_) AllReadyH.nil
      try simp only [List.getElem_toArray, List.getElem_cons_succ, List.getElem_cons_zero]
      go_simp
      go_at_call 21; refine (CostOf_any _ _ _ _ _ w11 (r11.out)).mono ?_; rintro e12 w12 ⟨rfl, hb12⟩; rw [HX.out]; have gg12 : Below w11.heap.size w11 w12 := hb12; have g12 : Below w2.heap.size w2 w12 := bstep g11 g11.size gg12; have k12 := keep2 gg12 k11 z11; have z12 := Nat.lt_of_lt_of_le z11 gg12.size; have r12 := Lib.hid (HRR.out.later g12); have t12 := Lib.hid (HTR.out.later g12)
      refine hK.out _ _ ?_ (fun hHeld => ?_)
      · exact k12
      clear hK K
      try simp only [Act.put, List.getElem_toArray, List.getElem_cons_succ, List.getElem_cons_zero, List.setIfInBounds_toArray, List.set_cons_zero, List.set_cons_succ]
      refine wpAnyH_take (i := 6) (v := ?_) rfl (by kernel_rfl) (by kernel_rfl) (by kernel_rfl) (fun _ _ _ h => h) (Or.inl ⟨by rfl, ?_⟩) (by assumption) ?_
      rotate_left
      · (intro w hSw; (try dsimp only at hSw); (try simp only [List.getElem_toArray, List.getElem_cons_succ, List.getElem_cons_zero]); first | (go_simp; done) | (go_simp; with_reducible rfl))
      try simp only [Act.put, List.getElem_toArray, List.getElem_cons_succ, List.getElem_cons_zero, List.setIfInBounds_toArray, List.set_cons_zero, List.set_cons_succ]
      refine wpAnyH_done (by kernel_rfl) ?_ _
      have HB3 := Lib.hid (bstep (B := wd.heap.size) (W := wd) HB2.out (Nat.le_of_lt hz2_0) g12)
      have z3 := Nat.lt_of_lt_of_le hz2_0 g12.size
      obtain ⟨k30, k31⟩ := k12
      clear g11 g12 gg11 gg12 hb11 hb12 b0 b1
      go_wp2_with fail
      refine (CostOf_any _ _ _ _ _ _ (HRW.out.later HB3.out)).mono ?_; rintro e4 w4 ⟨rfl, hb4⟩; rw [HY.out]
      obtain ⟨k40, k41⟩ := keep2 hb4 ⟨k30, k31⟩ z3
      have z4 := Nat.lt_of_lt_of_le z3 hb4.size
      have HB4 := Lib.hid (bstep (B := wd.heap.size) (W := wd) HB3.out (Nat.le_of_lt z3) hb4)
      clear hb4
      go_wp2_with fail
      refine (JoinsEnds_any _ _ _ _ _ _ _ (HRW.out.later HB4.out) (HTD.out.later HB4.out)).mono ?_; rintro e5 w5 ⟨rfl, hb5⟩; rw [HJ.out]
      obtain ⟨k50, k51⟩ := keep2 hb5 ⟨k40, k41⟩ z4
      have z5 := Nat.lt_of_lt_of_le z4 hb5.size
      have HB5 := Lib.hid (bstep (B := wd.heap.size) (W := wd) HB4.out (Nat.le_of_lt z4) hb5)
      clear hb5
      go_wp2_with fail
      refine (EndTreeCost_any _ _ _ _ _ _ (HRW.out.later HB5.out)).mono ?_; rintro e6 w6 ⟨rfl, hb6⟩; rw [HP.out]
      obtain ⟨k60, k61⟩ := keep2 hb6 ⟨k50, k51⟩ z5
      have z6 := Nat.lt_of_lt_of_le z5 hb6.size
      have HB6 := Lib.hid (bstep (B := wd.heap.size) (W := wd) HB5.out (Nat.le_of_lt z5) hb6)
      clear hb6
      go_wp2_with fail
      refine (RootCost_any _ _ _ _ _ _ (HRW.out.later HB6.out) (HTD.out.later HB6.out)).mono ?_; rintro e7 w7 ⟨rfl, hb7⟩; rw [HC.out]
      have HB7 := Lib.hid (bstep (B := wd.heap.size) (W := wd) HB6.out (Nat.le_of_lt z6) hb7)
      clear hb7
      go_wp2_with fail
      go_ret
      exact ⟨rfl, bstep HBD.out hzd HB7.out⟩
end Go.Proofs.YtcpefijmcajebaaDoor
