/- The law of CutWays: without the ways of a cut its places are left alone. -/
import Derived.Test.YtiioojjjpabaeaaCuI
import Derived.Test.YtiioojjjpabaeaaCuL
import Derived.Test.YtiioojjjpabaeaaWC
import Derived.Test.YtiioojjjpabaeaaMC
import Derived.Test.YtiioojjjpabaeaaWCw
set_option linter.unusedSimpArgs false
set_option linter.unusedVariables false
attribute [local go_sem ↓] Go.wp_at_zero Go.wp_at_succ
namespace Go.Proofs.Ytiioojjjpabaeaa
open Go.ChangeShapes Go.WideShapes Go.ChangeAt Go.RowKit

set_option maxRecDepth 100000 in
set_option maxHeartbeats 2000000 in
theorem FnCutWays_walk (A : Option Addr) (len cap : Nat) (w : World) (hr : RB w w.heap.size A len) (hc : len ≤ cap) (hlen : len ≤ 9223372036854775807) :
    Calls Try.prog 3 #[.slice A len cap] w fun e w' => e = .returned (.bool true) ∧ Below w.heap.size w w' := by
  have HR := Lib.hid hr
  clear hr
  by_cases hm : 1048576 < len
  · go_enter Try.func3, Try.ntmps3
    go_wp2_with fail
    go_ret
    exact ⟨rfl, Below.refl _ _⟩
  · go_enter Try.func3, Try.ntmps3
    go_wp2_with fail
    refine (DrawCutWays_any A len cap _ HR.out hc (by omega)).mono ?_
    rintro e wd ⟨nn, P, A', c', ws, rfl, hrw, hl10, hcc, hn0, hn7, hp0, hp1, hbd⟩
    have HRW := Lib.hid hrw
    have HBD := Lib.hid hbd
    have hzd : w.heap.size ≤ wd.heap.size := hbd.size
    clear hrw hbd
    cases hno : netOk nn ws && plOk nn P
    · have HN := Lib.hid (cutWays_no hno)
      clear hno
      go_wp2_with fail
      refine (CutWays_any _ _ _ _ _ _ (HRW.out.later (by go_grown))).mono ?_; rintro e w1 ⟨rfl, hb1⟩
      rw [HN.out]
      obtain ⟨hc1, hf1⟩ := bcell hb1
      have hz1_0 : wd.heap.size < w1.heap.size := by have hq := hb1.size; (try simp at hq); omega
      have HK1 := Lib.hid hb1
      have HB1 := Lib.hid (bstep (B := wd.heap.size) (W := wd) (by (try have hp := HB0.out); go_grown) (by go_size) hb1); clear hb1
      go_wp2_with fail
      refine (sCutWays_any _ _ _ _ _ _ (HRW.out.later (by have := HB1.out; go_grown)) (by omega)).mono ?_; rintro e w2 ⟨rfl, hb2⟩
      rw [HN.out]
      obtain ⟨hc2, hf2⟩ := bcell hb2
      have hz2_0 : wd.heap.size < w2.heap.size := by have hq := hb2.size; (try simp at hq); omega
      have HK2 := Lib.hid hb2
      have HB2 := Lib.hid (bstep (B := wd.heap.size) (W := wd) (by have hp := HB1.out; go_grown) (by go_size) hb2); clear hb2
      go_wp2_with fail
      refine (alive_any _).mono ?_; rintro e w3 ⟨rfl, hb3⟩
      obtain ⟨hc3, hf3⟩ := bcell hb3
      have hz3_0 : wd.heap.size < w3.heap.size := by have hq := hb3.size; (try simp at hq); omega
      have HK3 := Lib.hid hb3
      have HB3 := Lib.hid (bstep (B := wd.heap.size) (W := wd) (by have hp := HB2.out; go_grown) (by go_size) hb3); clear hb3
      go_wp2_with fail
      go_ret
      exact ⟨rfl, bstep HBD.out hzd HB3.out⟩
    · obtain ⟨hnt, hpl⟩ : netOk nn ws = true ∧ plOk nn P = true := by simpa using hno
      obtain ⟨m, rfl⟩ : ∃ m : Nat, nn = m := ⟨nn.toNat, by omega⟩
      have hni := netOk_t hnt
      have hm6 : m ≤ 6 := by have := hni.hi; omega
      have hm2 : 2 ≤ m := by have := hni.lo; omega
      have hl9 := hni.len
      obtain ⟨-, hP1⟩ := plOk_t hpl
      rw [Int.toNat_natCast] at hP1
      have HN := Lib.hid (cutWays_is hnt hpl)
      have HQ := Lib.hid (cutWays_rest hnt hpl)
      have HAL : Hid (∀ k : Nat, k < m → bit P k = true → ∃ R, reachOf (m : Int) ws (full ws.length - cw ws P) k = R ∧ 0 ≤ R ∧ R < 64 ∧ idiff R P = 0) := fun k hk hb => cut_alone hnt hpl hk hb
      have hcb := cw_bd ws P
      have hfb := full_bd ws.length hl9
      have hpm := pow_bd (m : Int) 6 (by omega)
      rw [Int.toNat_natCast] at hpm
      obtain ⟨N, hN⟩ : ∃ N, cw ws P = N := ⟨_, rfl⟩
      obtain ⟨F, hF⟩ : ∃ F, full ws.length = F := ⟨_, rfl⟩
      rw [hN] at HN HQ HAL hcb
      rw [hF] at HAL hcb hfb
      have hpl2 : (2 : Int) ^ ws.length = F + 1 := by unfold full at hF; omega
      obtain ⟨M, hM⟩ : ∃ M, (2 : Int) ^ m = M := ⟨_, rfl⟩
      rw [hM] at HQ hP1 hpm
      have HM := Lib.hid hM
      have H1 : Hid (IntKind.i64.wrap ((2 : Int) ^ ws.length) = F + 1) := by show _ = _; rw [hpl2]; exact IntWalk.i64_in _ ⟨by omega, by omega⟩
      have H2 : Hid (wrap64 ((2 : Int) ^ ws.length) = F + 1) := by show _ = _; rw [hpl2]; exact IntWalk.wrap64_in _ ⟨by omega, by omega⟩
      have H3 : Hid (IntKind.i64.wrap F = F) := IntWalk.i64_in _ ⟨by omega, by omega⟩
      have H4 : Hid (wrap64 F = F) := IntWalk.wrap64_in _ ⟨by omega, by omega⟩
      have H5 : Hid (IntKind.i64.wrap (F - N) = F - N) := IntWalk.i64_in _ ⟨by omega, by omega⟩
      have H6 : Hid (wrap64 (F - N) = F - N) := IntWalk.wrap64_in _ ⟨by omega, by omega⟩
      have HNF : Hid (decide (N ≤ F) = true) := by show _ = _; simpa using hcb.2
      have hNn : ¬ N < 0 := by omega
      have hN0 := hcb.1
      have hlen0 : (0 : Int) ≤ (ws.length : Int) := by omega
      clear hno hnt hpl hni hpl2 hN hF hM
      go_wp2_with fail
      refine (CutWays_any _ _ _ _ _ _ (HRW.out.later (by go_grown))).mono ?_; rintro e w1 ⟨rfl, hb1⟩
      rw [HN.out]
      obtain ⟨hc1, hf1⟩ := bcell hb1
      have hz1_0 : wd.heap.size < w1.heap.size := by have hq := hb1.size; (try simp at hq); omega
      have HK1 := Lib.hid hb1
      have HB1 := Lib.hid (bstep (B := wd.heap.size) (W := wd) (by (try have hp := HB0.out); go_grown) (by go_size) hb1); clear hb1
      go_wp2_with fail
      refine (sCutWays_any _ _ _ _ _ _ (HRW.out.later (by have := HB1.out; go_grown)) (by omega)).mono ?_; rintro e w2 ⟨rfl, hb2⟩
      rw [HN.out]
      obtain ⟨hc2, hf2⟩ := bcell hb2
      have hz2_0 : wd.heap.size < w2.heap.size := by have hq := hb2.size; (try simp at hq); omega
      have HK2 := Lib.hid hb2
      have HB2 := Lib.hid (bstep (B := wd.heap.size) (W := wd) (by have hp := HB1.out; go_grown) (by go_size) hb2); clear hb2
      have k2 : w2.cell? ⟨wd.heap.size, 0, none⟩ = some (.int .i64 m) ∧ w2.cell? ⟨wd.heap.size, 1, none⟩ = some (.slice A' ws.length c') := ⟨by go_simp, by go_simp⟩
      clear hc1 hf1 hc2 hf2
      obtain ⟨k20, k21⟩ := k2
      have h1 := H1.out
      have h2 := H2.out
      have h3 := H3.out
      have h4 := H4.out
      go_wp2_with fail
      clear h1 h2 h3 h4
      go_loopw [7] (fun i wr => ∃ k : Nat, k ≤ m ∧ i = .int .i64 k ∧ wr.cell? ⟨wd.heap.size, 0, none⟩ = some (.int .i64 m) ∧ wr.cell? ⟨wd.heap.size, 1, none⟩ = some (.slice A' ws.length c') ∧ Below wd.heap.size wd wr ∧ wd.heap.size < wr.heap.size) (fun i _ => m - (intOf i).toNat)
      case atStart => exact ⟨0, Nat.zero_le _, rfl, k20, k21, HB2.out, hz2_0⟩
      case round =>
        clear k20 k21 HB1 HB2 HK1 HK2
        obtain ⟨k, hk, rfl, b0, b1, hb, hz⟩ := hrel
        have HB0 := Lib.hid hb
        have HRR := Lib.hid (HRW.out.later hb)
        have hk0 : (0 : Int) ≤ (k : Int) := by omega
        clear hb
        by_cases hlk : k < m
        · have hk1 : (k : Int) < (m : Int) := by omega
          have hk60 : (k : Int) ≤ 60 := by omega
          have hqp := (div_pow_bd P k hp0).1
          cases hbk : bit P (k : Int)
          · have hz1 := bit_zero (i := (k : Int)) hk0 hp0 hbk
            rw [Int.toNat_natCast] at hz1
            have d1 : (P / 2 ^ k % 2 == 1) = false := by rw [hz1.1]; rfl
            have d2 : ((P / 2 ^ k).tmod 2 == 1) = false := by rw [hz1.2]; rfl
            clear hz1 hbk
            go_wp2_with fail
            go_roundw
            case rel => exact ⟨k + 1, by omega, by go_num, b0, b1, ⟨HB0.out.os, HB0.out.tape, HB0.out.output, HB0.out.size, HB0.out.block⟩, hz⟩
            case measure => (simp [intOf]) <;> omega
          · have hz1 := bit_one (i := (k : Int)) hk0 hp0 hbk
            rw [Int.toNat_natCast] at hz1
            have d1 : (P / 2 ^ k % 2 == 1) = true := by rw [hz1.1]; rfl
            have d2 : ((P / 2 ^ k).tmod 2 == 1) = true := by rw [hz1.2]; rfl
            obtain ⟨R, hR, r0, r1, hd⟩ := HAL.out k hlk hbk
            have HRE := Lib.hid hR
            have hdn : bits .andNot .i64 R P = 0 := (bits_andNot _ _ r0 (by omega) hp0 (by omega)).trans hd
            have HDN := Lib.hid hdn
            have h5 := H5.out
            have h6 := H6.out
            clear hz1 hbk hR hd hdn
            go_wp2_with fail
            refine (ReachOf_any _ _ _ _ _ _ _ HRR.out).mono ?_; rintro e5 w5 ⟨rfl, hb5⟩; rw [HRE.out]
            obtain ⟨k50, k51⟩ := keep2 hb5 ⟨b0, b1⟩ hz
            have HB5 := Lib.hid (bstep (B := wd.heap.size) (W := wd) HB0.out (Nat.le_of_lt hz) hb5)
            have z5 := Nat.lt_of_lt_of_le hz hb5.size
            have hdn := HDN.out
            clear hb5 h5 h6
            go_wp2_with fail
            clear hdn
            go_roundw
            case rel => exact ⟨k + 1, by omega, by go_num, k50, k51, ⟨HB5.out.os, HB5.out.tape, HB5.out.output, HB5.out.size, HB5.out.block⟩, z5⟩
            case measure => (simp [intOf]) <;> omega
        · obtain rfl : m = k := by omega
          have hm := HM.out
          have v1 : IntKind.i64.wrap ((2 : Int) ^ m) = M := by rw [hm]; exact IntWalk.i64_in _ ⟨by omega, by omega⟩
          have v2 : wrap64 ((2 : Int) ^ m) = M := by rw [hm]; exact IntWalk.wrap64_in _ ⟨by clear v1; omega, by clear v1; omega⟩
          have v3 : IntKind.i64.wrap (M - 1) = M - 1 := IntWalk.i64_in _ ⟨by clear v1 v2 hm; omega, by clear v1 v2 hm; omega⟩
          have v4 : wrap64 (M - 1) = M - 1 := IntWalk.wrap64_in _ ⟨by clear v1 v2 v3 hm; omega, by clear v1 v2 v3 hm; omega⟩
          have v5 : IntKind.i64.wrap (M - 1 - P) = M - 1 - P := IntWalk.i64_in _ ⟨by clear v1 v2 v3 v4 hm; omega, by clear v1 v2 v3 v4 hm; omega⟩
          have v6 : wrap64 (M - 1 - P) = M - 1 - P := IntWalk.wrap64_in _ ⟨by clear v1 v2 v3 v4 v5 hm; omega, by clear v1 v2 v3 v4 v5 hm; omega⟩
          have hnf := HNF.out
          have hm60 : (m : Int) ≤ 60 := by clear v1 v2 v3 v4 v5 v6 hm; omega
          clear hm
          go_wp2_with fail
          refine wp_region_held_drew (S := (fun w' => w'.cell? ⟨wd.heap.size, 0, none⟩ = some (.int .i64 m) ∧ w'.cell? ⟨wd.heap.size, 1, none⟩ = some (.slice A' ws.length c'))) (by kernel_rfl) ?_ (fun hHeld => ?_)
          · exact ⟨b0, b1⟩
          refine wpAnyH_take (i := 0) (v := ?_) rfl (by kernel_rfl) (by kernel_rfl) (by kernel_rfl) (fun _ _ _ h => h) (Or.inl ⟨by rfl, ?_⟩) (by assumption) ?_
          rotate_left
          · (intro w hSw; (try dsimp only at hSw); (try simp only [List.getElem_toArray, List.getElem_cons_succ, List.getElem_cons_zero]); first | (go_simp; done) | (go_simp; with_reducible rfl))
          try simp only [Act.put, List.getElem_toArray, List.getElem_cons_succ, List.getElem_cons_zero, List.setIfInBounds_toArray, List.set_cons_zero, List.set_cons_succ]
          refine wpAnyH_take (i := 1) (v := ?_) rfl (by kernel_rfl) (by kernel_rfl) (by kernel_rfl) (fun _ _ _ h => h) (Or.inl ⟨by rfl, ?_⟩) (by assumption) ?_
          rotate_left
          · (intro w hSw; (try dsimp only at hSw); (try simp only [List.getElem_toArray, List.getElem_cons_succ, List.getElem_cons_zero]); first | (go_simp; done) | (go_simp; with_reducible rfl))
          try simp only [Act.put, List.getElem_toArray, List.getElem_cons_succ, List.getElem_cons_zero, List.setIfInBounds_toArray, List.set_cons_zero, List.set_cons_succ]
          refine wpAnyH_take (i := 2) (v := ?_) rfl (by kernel_rfl) (by kernel_rfl) (by kernel_rfl) (fun _ _ _ h => h) (Or.inl ⟨by rfl, ?_⟩) (by assumption) ?_
          rotate_left
          · (intro w hSw; (try dsimp only at hSw); (try simp only [List.getElem_toArray, List.getElem_cons_succ, List.getElem_cons_zero]); first | (go_simp; done) | (go_simp; with_reducible rfl))
          try simp only [Act.put, List.getElem_toArray, List.getElem_cons_succ, List.getElem_cons_zero, List.setIfInBounds_toArray, List.set_cons_zero, List.set_cons_succ]
          refine wpAnyH_take (i := 3) (v := ?_) rfl (by kernel_rfl) (by kernel_rfl) (by kernel_rfl) (fun _ _ _ h => h) (Or.inl ⟨by rfl, ?_⟩) (by assumption) ?_
          rotate_left
          · (intro w hSw; (try dsimp only at hSw); (try simp only [List.getElem_toArray, List.getElem_cons_succ, List.getElem_cons_zero]); first | (go_simp; done) | (go_simp; with_reducible rfl))
          try simp only [Act.put, List.getElem_toArray, List.getElem_cons_succ, List.getElem_cons_zero, List.setIfInBounds_toArray, List.set_cons_zero, List.set_cons_succ]
          refine wpAnyH_take (i := 4) (v := ?_) rfl (by kernel_rfl) (by kernel_rfl) (by kernel_rfl) (fun _ _ _ h => h) (Or.inl ⟨by rfl, ?_⟩) (by assumption) ?_
          rotate_left
          · (intro w hSw; (try dsimp only at hSw); (try simp only [List.getElem_toArray, List.getElem_cons_succ, List.getElem_cons_zero]); first | (go_simp; done) | (go_simp; with_reducible rfl))
          try simp only [Act.put, List.getElem_toArray, List.getElem_cons_succ, List.getElem_cons_zero, List.setIfInBounds_toArray, List.set_cons_zero, List.set_cons_succ]
          refine wpAnyH_take (i := 5) (v := ?_) rfl (by kernel_rfl) (by kernel_rfl) (by kernel_rfl) (fun _ _ _ h => h) (Or.inl ⟨by rfl, ?_⟩) (by assumption) ?_
          rotate_left
          · (intro w hSw; (try dsimp only at hSw); (try simp only [List.getElem_toArray, List.getElem_cons_succ, List.getElem_cons_zero]); first | (go_simp; done) | (go_simp; with_reducible rfl))
          try simp only [Act.put, List.getElem_toArray, List.getElem_cons_succ, List.getElem_cons_zero, List.setIfInBounds_toArray, List.set_cons_zero, List.set_cons_succ]
          refine wpAnyH_take (i := 6) (v := ?_) rfl (by kernel_rfl) (by kernel_rfl) (by kernel_rfl) (fun _ _ _ h => h) (Or.inl ⟨by rfl, ?_⟩) (by assumption) ?_
          rotate_left
          · (intro w hSw; (try dsimp only at hSw); (try simp only [List.getElem_toArray, List.getElem_cons_succ, List.getElem_cons_zero]); first | (go_simp; done) | (go_simp; with_reducible rfl))
          try simp only [Act.put, List.getElem_toArray, List.getElem_cons_succ, List.getElem_cons_zero, List.setIfInBounds_toArray, List.set_cons_zero, List.set_cons_succ]
          refine wpAnyH_take (i := 8) (v := ?_) rfl (by kernel_rfl) (by kernel_rfl) (by kernel_rfl) (fun _ _ _ h => h) (Or.inl ⟨by rfl, ?_⟩) (by assumption) ?_
          rotate_left
          · (intro w hSw; (try dsimp only at hSw); (try simp only [List.getElem_toArray, List.getElem_cons_succ, List.getElem_cons_zero]); first | (go_simp; done) | (go_simp; with_reducible rfl))
          try simp only [Act.put, List.getElem_toArray, List.getElem_cons_succ, List.getElem_cons_zero, List.setIfInBounds_toArray, List.set_cons_zero, List.set_cons_succ]
          refine wpAnyH_ready (rs := [7]) (by kernel_rfl) (by simp) ?_
          refine AllReadyH.cons rfl (fun K hK => ?_) AllReadyH.nil
          try simp only [List.getElem_toArray, List.getElem_cons_succ, List.getElem_cons_zero]
          go_simp
          go_at_call 13; refine (CutWays_any _ _ _ _ _ _ (HRR.out.drewNR _)).mono ?_; rintro e7 w7 ⟨rfl, hb7⟩; rw [HQ.out]; have g7 : Below wr.heap.size wr w7 := und hb7; have k7 := keep2 g7 ⟨b0, b1⟩ hz
          refine hK.out _ _ ?_ (fun hHeld => ?_)
          · exact k7
          clear hK K
          try simp only [Act.put, List.getElem_toArray, List.getElem_cons_succ, List.getElem_cons_zero, List.setIfInBounds_toArray, List.set_cons_zero, List.set_cons_succ]
          refine wpAnyH_take (i := 9) (v := ?_) rfl (by kernel_rfl) (by kernel_rfl) (by kernel_rfl) (fun _ _ _ h => h) (Or.inl ⟨by rfl, ?_⟩) (by assumption) ?_
          rotate_left
          · (intro w hSw; (try dsimp only at hSw); (try simp only [List.getElem_toArray, List.getElem_cons_succ, List.getElem_cons_zero]); first | (go_simp; done) | (go_simp; with_reducible rfl))
          try simp only [Act.put, List.getElem_toArray, List.getElem_cons_succ, List.getElem_cons_zero, List.setIfInBounds_toArray, List.set_cons_zero, List.set_cons_succ]
          refine wpAnyH_take (i := 10) (v := ?_) rfl (by kernel_rfl) (by kernel_rfl) (by kernel_rfl) (fun _ _ _ h => h) (Or.inl ⟨by rfl, ?_⟩) (by assumption) ?_
          rotate_left
          · (intro w hSw; (try dsimp only at hSw); (try simp only [List.getElem_toArray, List.getElem_cons_succ, List.getElem_cons_zero]); first | (go_simp; done) | (go_simp; with_reducible rfl))
          try simp only [Act.put, List.getElem_toArray, List.getElem_cons_succ, List.getElem_cons_zero, List.setIfInBounds_toArray, List.set_cons_zero, List.set_cons_succ]
          refine wpAnyH_take (i := 11) (v := ?_) rfl (by kernel_rfl) (by kernel_rfl) (by kernel_rfl) (fun _ _ _ h => h) (Or.inl ⟨by rfl, ?_⟩) (by assumption) ?_
          rotate_left
          · (intro w hSw; (try dsimp only at hSw); (try simp only [List.getElem_toArray, List.getElem_cons_succ, List.getElem_cons_zero]); first | (go_simp; done) | (go_simp; with_reducible rfl))
          try simp only [Act.put, List.getElem_toArray, List.getElem_cons_succ, List.getElem_cons_zero, List.setIfInBounds_toArray, List.set_cons_zero, List.set_cons_succ]
          refine wpAnyH_take (i := 12) (v := ?_) rfl (by kernel_rfl) (by kernel_rfl) (by kernel_rfl) (fun _ _ _ h => h) (Or.inl ⟨by rfl, ?_⟩) (by assumption) ?_
          rotate_left
          · (intro w hSw; (try dsimp only at hSw); (try simp only [List.getElem_toArray, List.getElem_cons_succ, List.getElem_cons_zero]); first | (go_simp; done) | (go_simp; with_reducible rfl))
          try simp only [Act.put, List.getElem_toArray, List.getElem_cons_succ, List.getElem_cons_zero, List.setIfInBounds_toArray, List.set_cons_zero, List.set_cons_succ]
          refine wpAnyH_take (i := 13) (v := ?_) rfl (by kernel_rfl) (by kernel_rfl) (by kernel_rfl) (fun _ _ _ h => h) (Or.inl ⟨by rfl, ?_⟩) (by assumption) ?_
          rotate_left
          · (intro w hSw; (try dsimp only at hSw); (try simp only [List.getElem_toArray, List.getElem_cons_succ, List.getElem_cons_zero]); first | (go_simp; done) | (go_simp; with_reducible rfl))
          try simp only [Act.put, List.getElem_toArray, List.getElem_cons_succ, List.getElem_cons_zero, List.setIfInBounds_toArray, List.set_cons_zero, List.set_cons_succ]
          refine wpAnyH_take (i := 14) (v := ?_) rfl (by kernel_rfl) (by kernel_rfl) (by kernel_rfl) (fun _ _ _ h => h) (Or.inl ⟨by rfl, ?_⟩) (by assumption) ?_
          rotate_left
          · (intro w hSw; (try dsimp only at hSw); (try simp only [List.getElem_toArray, List.getElem_cons_succ, List.getElem_cons_zero]); first | (go_simp; done) | (go_simp; with_reducible rfl))
          try simp only [Act.put, List.getElem_toArray, List.getElem_cons_succ, List.getElem_cons_zero, List.setIfInBounds_toArray, List.set_cons_zero, List.set_cons_succ]
          refine wpAnyH_take (i := 15) (v := ?_) rfl (by kernel_rfl) (by kernel_rfl) (by kernel_rfl) (fun _ _ _ h => h) (Or.inl ⟨by rfl, ?_⟩) (by assumption) ?_
          rotate_left
          · (intro w hSw; (try dsimp only at hSw); (try simp only [List.getElem_toArray, List.getElem_cons_succ, List.getElem_cons_zero]); first | (go_simp; done) | (go_simp; with_reducible rfl))
          try simp only [Act.put, List.getElem_toArray, List.getElem_cons_succ, List.getElem_cons_zero, List.setIfInBounds_toArray, List.set_cons_zero, List.set_cons_succ]
          refine wpAnyH_done (by kernel_rfl) ?_ _
          have HB7 := Lib.hid (bstep (B := wd.heap.size) (W := wd) HB0.out (Nat.le_of_lt hz) g7)
          clear g7 hb7 v1 v2 v3 v4 v5 v6
          go_wp2_with fail
          go_ret
          exact ⟨rfl, bstep HBD.out hzd ⟨HB7.out.os, HB7.out.tape, HB7.out.output, HB7.out.size, HB7.out.block⟩⟩
end Go.Proofs.Ytiioojjjpabaeaa
