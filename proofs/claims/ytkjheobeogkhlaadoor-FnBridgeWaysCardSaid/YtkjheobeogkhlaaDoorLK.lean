/- The law of SpanTree: what is taken is a tree, joins all, and no set that joins all costs less. -/
import Derived.Test.YtkjheobeogkhlaaDoorSR
import Derived.Test.YtkjheobeogkhlaaDoorWN
set_option linter.unusedSimpArgs false
set_option linter.unusedVariables false
namespace Go.Proofs.YtkjheobeogkhlaaDoor
open Go.ChangeShapes Go.WideShapes Go.ChangeAt Go.RowKit

theorem full_joins {n : Int} {ws : List Wy} {t : Int} (hn : NetIs n ws) (t0 : 0 ≤ t) (t1 : t ≤ full ws.length) (h : joins ws t (allPl n) = true) : joins ws (full ws.length) (allPl n) = true := by
  rw [joins_all hn] at h ⊢
  intro p q p0 p1 q0 q1
  refine re_mono hn p0 p1 q0 (fun k hk hb => ?_) (h p q p0 p1 q0 q1)
  have hk2 := set_sub (n := ws.length) t0 (by unfold full at t1; omega) hb
  obtain ⟨j, rfl⟩ := Int.eq_ofNat_of_zero_le hk
  exact full_bit _ _ (by omega)

set_option maxHeartbeats 4000000 in
theorem FnSpanTree_walk (A : Option Addr) (len cap : Nat) (w : World) (hr : RB w w.heap.size A len) (hc : len ≤ cap) (hlen : len ≤ 9223372036854775807) (hT : Tab w) :
    Calls Tryd.prog 6 #[.slice A len cap] w fun e w' => e = .returned (.bool true) ∧ Below w.heap.size w w' := by
  have HR := Lib.hid hr
  have HT := Lib.hid hT
  clear hr hT
  by_cases hm : 1048576 < len
  · go_enter Tryd.func6, Tryd.ntmps6
    go_wp2_with fail
    go_ret
    exact ⟨rfl, Below.refl _ _⟩
  · go_enter Tryd.func6, Tryd.ntmps6
    go_wp2_with fail
    refine (DrawSpanTree_any A len cap _ HR.out hc (by omega)).mono ?_
    rintro e wd ⟨nn, A', c', ws, rfl, hrw, hl10, hcc, hn0, hn7, hbd⟩
    have HRW := Lib.hid hrw
    have HBD := Lib.hid hbd
    have HTD := Lib.hid (HT.out.later hbd)
    have hzd : w.heap.size ≤ wd.heap.size := hbd.size
    clear hrw hbd
    go_wp2_with fail
    refine (SpanTree_any _ _ _ _ _ (HRW.out.later (by go_grown)) (HTD.out.later (by go_grown))).mono ?_; rintro e w1 ⟨rfl, hb1⟩
    obtain ⟨hc1, hf1⟩ := bcell hb1
    have hz1_0 : wd.heap.size < w1.heap.size := by have hq := hb1.size; (try simp at hq); omega
    have HK1 := Lib.hid hb1
    have HB1 := Lib.hid (bstep (B := wd.heap.size) (W := wd) (by (try have hp := HB0.out); go_grown) (by go_size) hb1); clear hb1
    go_wp2_with fail
    refine (sSpanTree_any _ _ _ _ _ (HRW.out.later (by have := HB1.out; go_grown)) (by omega)).mono ?_; rintro e w2 ⟨rfl, hb2⟩
    obtain ⟨hc2, hf2⟩ := bcell hb2
    have hz2_0 : wd.heap.size < w2.heap.size := by have hq := hb2.size; (try simp at hq); omega
    have HK2 := Lib.hid hb2
    have HB2 := Lib.hid (bstep (B := wd.heap.size) (W := wd) (by have hp := HB1.out; go_grown) (by go_size) hb2); clear hb2
    cases hno : netOk nn ws
    · have HNO := Lib.hid hno
      have hs : spanTreeOf nn ws = -1 := by unfold spanTreeOf; rw [hno]; simp
      rw [hs]
      clear hs hno
      go_wp2_with fail
      refine (sNetOk_any _ _ _ _ _ (HRW.out.later (by have := HB2.out; go_grown)) (by omega)).mono ?_; rintro e w3 ⟨rfl, hb3⟩
      rw [HNO.out]
      obtain ⟨hc3, hf3⟩ := bcell hb3
      have hz3_0 : wd.heap.size < w3.heap.size := by have hq := hb3.size; (try simp at hq); omega
      have HK3 := Lib.hid hb3
      have HB3 := Lib.hid (bstep (B := wd.heap.size) (W := wd) (by have hp := HB2.out; go_grown) (by go_size) hb3); clear hb3
      go_wp2_with fail
      refine (alive_any _).mono ?_; rintro e w4 ⟨rfl, hb4⟩
      obtain ⟨hc4, hf4⟩ := bcell hb4
      have hz4_0 : wd.heap.size < w4.heap.size := by have hq := hb4.size; (try simp at hq); omega
      have HK4 := Lib.hid hb4
      have HB4 := Lib.hid (bstep (B := wd.heap.size) (W := wd) (by have hp := HB3.out; go_grown) (by go_size) hb4); clear hb4
      go_wp2_with fail
      go_ret
      exact ⟨rfl, bstep HBD.out hzd HB4.out⟩
    · have HNO := Lib.hid hno
      have hni := netOk_t hno
      have HNI := Lib.hid hni
      have hl9 := hni.len
      have hn2 := hni.lo
      have hn6 := hni.hi
      have hfb := full_bd ws.length hl9
      have hpl := pow_bd (ws.length : Int) 9 (by omega)
      rw [Int.toNat_natCast] at hpl
      have hpn := pow_bd nn 6 (by omega)
      have hal := allPl_bd hni
      have hpw : ((2 : Int) ^ ws.length) = ((2 ^ ws.length : Nat) : Int) := by simp
      obtain ⟨N, hN⟩ : ∃ N : Nat, 2 ^ ws.length = N := ⟨_, rfl⟩
      have hfN : full ws.length + 1 = (N : Int) := by unfold full; rw [hpw, hN]; omega
      have HPO : Hid (plOk nn (2 ^ nn.toNat - 1) = true) := by show plOk nn (2 ^ nn.toNat - 1) = true; unfold plOk; simp; omega
      have hN9 : N ≤ 512 := by omega
      have HJO : Hid (∀ k : Int, 0 ≤ k → k < N → joinsEnds nn ws k (2 ^ nn.toNat - 1) = joins ws k (allPl nn)) := fun k h0 h1 => by
        unfold joinsEnds; rw [setOk_mk hno h0 (by omega), HPO.out]; rfl
      have HCO : Hid (∀ k : Int, 0 ≤ k → k < N → costOf nn ws k = cost ws k) := fun k h0 h1 => by
        unfold costOf; rw [if_pos (setOk_mk hno h0 (by omega))]
      rcases span_told nn ws with ⟨h1, _⟩ | ⟨_, hj, h1, _, h3, h4⟩
      · have HJN : Hid (joinsEnds nn ws (2 ^ ws.length - 1) (2 ^ nn.toNat - 1) = false) := by
          show joinsEnds nn ws (2 ^ ws.length - 1) (2 ^ nn.toNat - 1) = false
          rw [show ((2 : Int) ^ ws.length - 1) = full ws.length from rfl, HJO.out _ hfb.1 (by omega)]
          cases hjf : joins ws (full ws.length) (allPl nn)
          · rfl
          · exfalso
            have := span_joins hni hjf
            have hsb := span_bd ws (allPl nn)
            unfold spanTreeOf at h1
            rw [hno, if_pos rfl, if_pos this] at h1
            omega
        rw [h1]
        clear h1 hno hni hal hN hpw hfN hfb
        go_wp2_with fail
        refine (sNetOk_any _ _ _ _ _ (HRW.out.later (by have := HB2.out; go_grown)) (by omega)).mono ?_; rintro e w3 ⟨rfl, hb3⟩
        rw [HNO.out]
        obtain ⟨hc3, hf3⟩ := bcell hb3
        have hz3_0 : wd.heap.size < w3.heap.size := by have hq := hb3.size; (try simp at hq); omega
        have HK3 := Lib.hid hb3
        have HB3 := Lib.hid (bstep (B := wd.heap.size) (W := wd) (by have hp := HB2.out; go_grown) (by go_size) hb3); clear hb3
        go_wp2_with fail
        refine (JoinsEnds_any _ _ _ _ _ _ _ (HRW.out.later (by have := HB3.out; go_grown)) (HTD.out.later (by have := HB3.out; go_grown))).mono ?_; rintro e w4 ⟨rfl, hb4⟩
        rw [HJN.out]
        obtain ⟨hc4, hf4⟩ := bcell hb4
        have hz4_0 : wd.heap.size < w4.heap.size := by have hq := hb4.size; (try simp at hq); omega
        have HK4 := Lib.hid hb4
        have HB4 := Lib.hid (bstep (B := wd.heap.size) (W := wd) (by have hp := HB3.out; go_grown) (by go_size) hb4); clear hb4
        go_wp2_with fail
        refine (alive_any _).mono ?_; rintro e w5 ⟨rfl, hb5⟩
        obtain ⟨hc5, hf5⟩ := bcell hb5
        have hz5_0 : wd.heap.size < w5.heap.size := by have hq := hb5.size; (try simp at hq); omega
        have HK5 := Lib.hid hb5
        have HB5 := Lib.hid (bstep (B := wd.heap.size) (W := wd) (by have hp := HB4.out; go_grown) (by go_size) hb5); clear hb5
        go_wp2_with fail
        go_ret
        exact ⟨rfl, bstep HBD.out hzd HB5.out⟩
      · have HLE : Hid (∀ k : Int, joins ws k (allPl nn) = true → cost ws (spanTreeOf nn ws) ≤ cost ws k) := fun k hk => by rw [h1]; exact span_least hni hk
        have HTR : Hid (treeOk nn ws (spanTreeOf nn ws) = true) := by
          show treeOk nn ws (spanTreeOf nn ws) = true
          unfold treeOk
          rw [setOk_mk hno h3 h4, h1, Bool.true_and]
          have := span_iff hni (s := span ws (allPl nn))
          rw [hj, Bool.and_true, Bool.and_true] at this
          rw [this, span_pop hni hj]; simp
        have HJS : Hid (joins ws (spanTreeOf nn ws) (allPl nn) = true) := by show joins ws _ _ = true; rw [h1]; exact hj
        obtain ⟨S, hS⟩ : ∃ S, spanTreeOf nn ws = S := ⟨_, rfl⟩
        rw [hS] at h3 h4 HLE HTR HJS
        have hSN : S < N := by omega
        have hcb := cost_bds hni S
        obtain ⟨C, hC⟩ : ∃ C, cost ws S = C := ⟨_, rfl⟩
        have HC := Lib.hid hC
        rw [hC] at hcb
        have hC0 := hcb.1
        have hC1 := hcb.2
        have hfN' : (2 : Int) ^ ws.length = N := by rw [hpw, hN]
        have HFN := Lib.hid hfN'
        rw [hS]
        clear h1 hno hni hal hN hpw hfN hfb hS hC hcb hj h4
        go_wp2_with fail
        refine (sNetOk_any _ _ _ _ _ (HRW.out.later (by have := HB2.out; go_grown)) (by omega)).mono ?_; rintro e w3 ⟨rfl, hb3⟩
        rw [HNO.out]
        obtain ⟨hc3, hf3⟩ := bcell hb3
        have hz3_0 : wd.heap.size < w3.heap.size := by have hq := hb3.size; (try simp at hq); omega
        have HK3 := Lib.hid hb3
        have HB3 := Lib.hid (bstep (B := wd.heap.size) (W := wd) (by have hp := HB2.out; go_grown) (by go_size) hb3); clear hb3
        go_wp2_with fail
        refine (CostOf_any _ _ _ _ _ _ (HRW.out.later (by have := HB3.out; go_grown))).mono ?_; rintro e w4 ⟨rfl, hb4⟩
        rw [HCO.out S h3 hSN, HC.out]
        obtain ⟨hc4, hf4⟩ := bcell hb4
        have hz4_0 : wd.heap.size < w4.heap.size := by have hq := hb4.size; (try simp at hq); omega
        have HK4 := Lib.hid hb4
        have HB4 := Lib.hid (bstep (B := wd.heap.size) (W := wd) (by have hp := HB3.out; go_grown) (by go_size) hb4); clear hb4
        have k4 : w4.cell? ⟨wd.heap.size, 0, none⟩ = some (.int .i64 nn) ∧ w4.cell? ⟨wd.heap.size, 1, none⟩ = some (.slice A' ws.length c') := ⟨by go_simp, by go_simp⟩
        clear hc1 hf1 hc2 hf2 hc3 hf3 hc4 hf4
        go_wp2_with fail
        go_loopw [8] (fun c wr => ∃ k : Nat, k ≤ N ∧ c = .int .i64 k ∧ wr.cell? ⟨wd.heap.size, 0, none⟩ = some (.int .i64 nn) ∧ wr.cell? ⟨wd.heap.size, 1, none⟩ = some (.slice A' ws.length c') ∧ Below wd.heap.size wd wr ∧ wd.heap.size < wr.heap.size) (fun c _ => N - (intOf c).toNat)
        case atStart => exact ⟨0, Nat.zero_le _, rfl, k4.1, k4.2, HB4.out, hz4_0⟩
        case round =>
          clear k4
          obtain ⟨k, hk, rfl, b0, b1, hb, hz⟩ := hrel
          have HB0 := Lib.hid hb
          clear hb
          by_cases hlt : k < N
          · have hle : (k : Int) ≤ 2 ^ ws.length - 1 := by omega
            have hk0 : (0 : Int) ≤ (k : Int) := by omega
            have hkN : (k : Int) < (N : Int) := by omega
            have HJK := Lib.hid (HJO.out k hk0 hkN)
            have HCK := Lib.hid (HCO.out k hk0 hkN)
            cases hjk : joins ws (k : Int) (allPl nn)
            · have HJ0 : Hid (joinsEnds nn ws (k : Int) (2 ^ nn.toNat - 1) = false) := by show joinsEnds nn ws (k : Int) (2 ^ nn.toNat - 1) = false; rw [HJK.out]; exact hjk
              clear hjk
              go_wp2_with fail
              refine (JoinsEnds_any _ _ _ _ _ _ _ (HRW.out.later (by have := HB0.out; go_grown)) (HTD.out.later (by have := HB0.out; go_grown))).mono ?_; rintro e w1 ⟨rfl, hb1⟩
              rw [HJ0.out]
              obtain ⟨hc1, hf1⟩ := bcell hb1
              have hz1_0 : wd.heap.size < w1.heap.size := by have hq := hb1.size; (try simp at hq); omega
              have HK1 := Lib.hid hb1
              have HB1 := Lib.hid (bstep (B := wd.heap.size) (W := wd) (by (try have hp := HB0.out); go_grown) (by go_size) hb1); clear hb1
              go_wp2_with fail
              go_roundw
              case rel => exact ⟨k + 1, by omega, by go_num, by go_simp, by go_simp, HB1.out, hz1_0⟩
              case measure => simp [intOf]; omega
            · have HJ0 : Hid (joinsEnds nn ws (k : Int) (2 ^ nn.toNat - 1) = true) := by show joinsEnds nn ws (k : Int) (2 ^ nn.toNat - 1) = true; rw [HJK.out]; exact hjk
              have hcc := HLE.out k hjk
              rw [HC.out] at hcc
              clear hjk
              go_wp2_with fail
              refine (JoinsEnds_any _ _ _ _ _ _ _ (HRW.out.later (by have := HB0.out; go_grown)) (HTD.out.later (by have := HB0.out; go_grown))).mono ?_; rintro e w1 ⟨rfl, hb1⟩
              rw [HJ0.out]
              obtain ⟨hc1, hf1⟩ := bcell hb1
              have hz1_0 : wd.heap.size < w1.heap.size := by have hq := hb1.size; (try simp at hq); omega
              have HK1 := Lib.hid hb1
              have HB1 := Lib.hid (bstep (B := wd.heap.size) (W := wd) (by (try have hp := HB0.out); go_grown) (by go_size) hb1); clear hb1
              go_wp2_with fail
              refine (CostOf_any _ _ _ _ _ _ (HRW.out.later (by have := HB1.out; go_grown))).mono ?_; rintro e w2 ⟨rfl, hb2⟩
              rw [HCK.out]
              obtain ⟨hc2, hf2⟩ := bcell hb2
              have hz2_0 : wd.heap.size < w2.heap.size := by have hq := hb2.size; (try simp at hq); omega
              have HK2 := Lib.hid hb2
              have HB2 := Lib.hid (bstep (B := wd.heap.size) (W := wd) (by have hp := HB1.out; go_grown) (by go_size) hb2); clear hb2
              go_wp2_with fail
              go_roundw
              case rel => exact ⟨k + 1, by omega, by go_num, by go_simp, by go_simp, HB2.out, hz2_0⟩
              case measure => simp [intOf]; omega
          · have hle : ¬ (k : Int) ≤ 2 ^ ws.length - 1 := by omega
            have HJ0 : Hid (joinsEnds nn ws S (2 ^ nn.toNat - 1) = true) := by show joinsEnds nn ws S (2 ^ nn.toNat - 1) = true; rw [HJO.out S h3 hSN]; exact HJS.out
            go_wp2_with fail
            refine (TreeOk_any _ _ _ _ _ _ (HRW.out.later (by have := HB0.out; go_grown)) (HTD.out.later (by have := HB0.out; go_grown))).mono ?_; rintro e w1 ⟨rfl, hb1⟩
            rw [HTR.out]
            obtain ⟨hc1, hf1⟩ := bcell hb1
            have hz1_0 : wd.heap.size < w1.heap.size := by have hq := hb1.size; (try simp at hq); omega
            have HK1 := Lib.hid hb1
            have HB1 := Lib.hid (bstep (B := wd.heap.size) (W := wd) (by (try have hp := HB0.out); go_grown) (by go_size) hb1); clear hb1
            go_wp2_with fail
            refine (JoinsEnds_any _ _ _ _ _ _ _ (HRW.out.later (by have := HB1.out; go_grown)) (HTD.out.later (by have := HB1.out; go_grown))).mono ?_; rintro e w2 ⟨rfl, hb2⟩
            rw [HJ0.out]
            obtain ⟨hc2, hf2⟩ := bcell hb2
            have hz2_0 : wd.heap.size < w2.heap.size := by have hq := hb2.size; (try simp at hq); omega
            have HK2 := Lib.hid hb2
            have HB2 := Lib.hid (bstep (B := wd.heap.size) (W := wd) (by have hp := HB1.out; go_grown) (by go_size) hb2); clear hb2
            go_wp2_with fail
            go_ret
            exact ⟨rfl, bstep HBD.out hzd HB2.out⟩
end Go.Proofs.YtkjheobeogkhlaaDoor
