/- The law of BestGain: the most is gained by roots. -/
import Derived.Test.YtoekaembfieigaaPzJ
import Derived.Test.YtoekaembfieigaaPzL
import Derived.Test.YtoekaembfieigaaWC
import Derived.Test.YtoekaembfieigaaMC
import Derived.Test.YtoekaembfieigaaWPy
set_option linter.unusedSimpArgs false
set_option linter.unusedVariables false
attribute [local go_sem ↓] Go.wp_at_zero Go.wp_at_succ
namespace Go.Proofs.Ytoekaembfieigaa
open Go.ChangeShapes Go.WideShapes Go.ChangeAt Go.RowKit

set_option maxRecDepth 100000 in
set_option maxHeartbeats 2000000 in
theorem FnBestGain_walk (A : Option Addr) (len cap : Nat) (w : World) (hr : RB w w.heap.size A len) (hc : len ≤ cap) (hlen : len ≤ 9223372036854775807) :
    Calls Try.prog 5 #[.slice A len cap] w fun e w' => e = .returned (.bool true) ∧ Below w.heap.size w w' := by
  have HR := Lib.hid hr
  clear hr
  by_cases hm : 1048576 < len
  · go_enter Try.func5, Try.ntmps5
    go_wp2_with fail
    go_ret
    exact ⟨rfl, Below.refl _ _⟩
  · go_enter Try.func5, Try.ntmps5
    go_wp2_with fail
    refine (DrawBestGain_any A len cap _ HR.out hc (by omega)).mono ?_
    rintro e wd ⟨nn, A', c', ws, bc, cc, pz, rfl, hrw, hl10, hcc, hn0, hn7, hri, hpz8, hbd⟩
    have HRW := Lib.hid hrw
    have HBD := Lib.hid hbd
    have hzd : w.heap.size ≤ wd.heap.size := hbd.size
    clear hrw hbd
    have HRI := Lib.hid hri
    clear hri
    cases hok : prizesOk nn ws pz
    · have HOK := Lib.hid hok
      have HQ := Lib.hid (best_no hok).1
      clear hok
      go_wp2_with fail
      refine (BestGain_any _ _ _ _ _ _ _ _ (HRW.out.later (by go_grown)) (HRI.out.later (by go_grown))).mono ?_; rintro e w1 ⟨rfl, hb1⟩
      rw [HQ.out]
      obtain ⟨hc1, hf1⟩ := bcell hb1
      have hz1_0 : wd.heap.size < w1.heap.size := by have hq := hb1.size; (try simp at hq); omega
      have HK1 := Lib.hid hb1
      have HB1 := Lib.hid (bstep (B := wd.heap.size) (W := wd) (by (try have hp := HB0.out); go_grown) (by go_size) hb1); clear hb1
      go_wp2_with fail
      refine (sBestGain_any _ _ _ _ _ _ _ _ (HRW.out.later (by have := HB1.out; go_grown)) (by omega) (HRI.out.later (by have := HB1.out; go_grown)) (by omega)).mono ?_; rintro e w2 ⟨rfl, hb2⟩
      rw [HQ.out]
      obtain ⟨hc2, hf2⟩ := bcell hb2
      have hz2_0 : wd.heap.size < w2.heap.size := by have hq := hb2.size; (try simp at hq); omega
      have HK2 := Lib.hid hb2
      have HB2 := Lib.hid (bstep (B := wd.heap.size) (W := wd) (by have hp := HB1.out; go_grown) (by go_size) hb2); clear hb2
      go_wp2_with fail
      refine (PrizesOk_any _ _ _ _ _ _ _ _ (HRW.out.later (by have := HB2.out; go_grown)) (HRI.out.later (by have := HB2.out; go_grown))).mono ?_; rintro e w3 ⟨rfl, hb3⟩
      rw [HOK.out]
      obtain ⟨hc3, hf3⟩ := bcell hb3
      have hz3_0 : wd.heap.size < w3.heap.size := by have hq := hb3.size; (try simp at hq); omega
      have HK3 := Lib.hid hb3
      have HB3 := Lib.hid (bstep (B := wd.heap.size) (W := wd) (by have hp := HB2.out; go_grown) (by go_size) hb3); clear hb3
      go_wp2_with fail
      refine (alive_any _).mono ?_; rintro e w4 ⟨rfl, hb4⟩
      obtain ⟨hc4, hf4⟩ := bcell hb4
      have hz4_0 : wd.heap.size < w4.heap.size := by have hq := hb4.size; (try simp at hq); omega
      have HK4 := Lib.hid hb4
      have HB4 := Lib.hid (bstep (B := wd.heap.size) (W := wd) (by have hp := HB3.out; go_grown) (by go_size) hb4); clear hb4
      go_wp2_with fail
      go_ret
      exact ⟨rfl, bstep HBD.out hzd HB4.out⟩
    · have hpi := prizesOk_iff.1 hok
      have hni := netOk_t hpi.ok
      obtain ⟨m, rfl⟩ : ∃ m : Nat, nn = m := ⟨nn.toNat, by omega⟩
      have hm6 : m ≤ 6 := by have := hni.hi; omega
      have hq := best_is hok
      have hbb := bgTo_bd hpi (2 ^ ws.length)
      have hpz := gain_none hpi
      have hge := gain_bg (ws := ws) (pz := pz) (s := 0) (Int.le_refl 0) (full_bd ws.length hni.len).1
      have heg := egTo_is hpi
      rw [Int.toNat_natCast] at heg
      rw [hpz] at hge
      obtain ⟨Q, hQ⟩ : ∃ Q, bgTo ws pz (2 ^ ws.length) = Q := ⟨_, rfl⟩
      rw [hQ] at hq hbb hge heg
      have HQ := Lib.hid hq
      have hN : 2 ^ m ≤ 64 := by
        have h9 := Nat.pow_le_pow_right (n := 2) (by omega) hm6
        omega
      obtain ⟨M, hM⟩ : ∃ M : Nat, 2 ^ m = M := ⟨_, rfl⟩
      have e2 : ((2 : Int) ^ m) = (M : Int) := by rw [← hM]; simp
      rw [hM] at heg hN
      have HV1 : Hid (IntKind.i64.wrap ((2 : Int) ^ m) = (M : Int)) := by show _ = _; rw [e2]; exact IntWalk.i64_in _ ⟨by omega, by omega⟩
      have HV2 : Hid (wrap64 ((2 : Int) ^ m) = (M : Int)) := by show _ = _; rw [e2]; exact IntWalk.wrap64_in _ ⟨by omega, by omega⟩
      have HEG := Lib.hid heg
      have hp0 : 0 < pz.length := by have := hpi.len; have := hni.lo; omega
      obtain ⟨p0, hp0e⟩ : ∃ p, pz.getD 0 0 = p := ⟨_, rfl⟩
      rw [hp0e] at hge
      have HP0 := Lib.hid hp0e
      have hm60 : (m : Int) ≤ 60 := by omega
      have hm0 : (0 : Int) ≤ (m : Int) := by omega
      have hqn : ¬ Q < 0 := by omega
      clear hok hpi hni hq hpz heg hQ hM e2 hp0e
      go_wp2_with fail
      refine (BestGain_any _ _ _ _ _ _ _ _ (HRW.out.later (by go_grown)) (HRI.out.later (by go_grown))).mono ?_; rintro e w1 ⟨rfl, hb1⟩
      rw [HQ.out]
      obtain ⟨hc1, hf1⟩ := bcell hb1
      have hz1_0 : wd.heap.size < w1.heap.size := by have hq := hb1.size; (try simp at hq); omega
      have HK1 := Lib.hid hb1
      have HB1 := Lib.hid (bstep (B := wd.heap.size) (W := wd) (by (try have hp := HB0.out); go_grown) (by go_size) hb1); clear hb1
      go_wp2_with fail
      refine (sBestGain_any _ _ _ _ _ _ _ _ (HRW.out.later (by have := HB1.out; go_grown)) (by omega) (HRI.out.later (by have := HB1.out; go_grown)) (by omega)).mono ?_; rintro e w2 ⟨rfl, hb2⟩
      rw [HQ.out]
      obtain ⟨hc2, hf2⟩ := bcell hb2
      have hz2_0 : wd.heap.size < w2.heap.size := by have hq := hb2.size; (try simp at hq); omega
      have HK2 := Lib.hid hb2
      have HB2 := Lib.hid (bstep (B := wd.heap.size) (W := wd) (by have hp := HB1.out; go_grown) (by go_size) hb2); clear hb2
      have k2 : w2.cell? ⟨wd.heap.size, 0, none⟩ = some (.int .i64 m) ∧ w2.cell? ⟨wd.heap.size, 1, none⟩ = some (.slice A' ws.length c') := ⟨by go_simp, by go_simp⟩
      clear hc1 hf1 hc2 hf2 HB1 HK1 HK2
      obtain ⟨k20, k21⟩ := k2
      go_wp2_with fail
      go_loopw [6, 7] (fun bv ev wr => ∃ k : Nat, k ≤ M ∧ bv = .int .i64 (egTo m ws pz k) ∧ ev = .int .i64 k ∧ wr.cell? ⟨wd.heap.size, 0, none⟩ = some (.int .i64 m) ∧ wr.cell? ⟨wd.heap.size, 1, none⟩ = some (.slice A' ws.length c') ∧ Below wd.heap.size wd wr ∧ wd.heap.size < wr.heap.size) (fun _ ev _ => M - (intOf ev).toNat)
      case atStart => exact ⟨0, Nat.zero_le _, rfl, rfl, k20, k21, HB2.out, hz2_0⟩
      case round =>
        clear k20 k21 HB2
        obtain ⟨k, hk, rfl, rfl, b0, b1, hb, hz⟩ := hrel
        have HB0 := Lib.hid hb
        have hk0 : (0 : Int) ≤ (k : Int) := by omega
        clear hb
        by_cases hlk : k < M
        · have hk1 : (k : Int) < (M : Int) := by omega
          cases hX : endsGain (m : Int) ws pz k with
          | none =>
            have HST : Hid (egTo m ws pz (k + 1) = egTo m ws pz k) := by show _ = _; rw [egTo, hX]
            have HV : Hid (opV (endsGain (m : Int) ws pz k) = 0) := by show _ = _; rw [hX]; rfl
            have HO : Hid (opB (endsGain (m : Int) ws pz k) = false) := by show _ = _; rw [hX]; rfl
            clear hX
            have hv1 := HV1.out
            have hv2 := HV2.out
            go_wp2_with fail
            clear hv1 hv2
            refine (EndsGain_any _ _ _ _ _ _ _ _ _ (HRW.out.later HB0.out) (HRI.out.later HB0.out)).mono ?_; rintro e1 w1 ⟨rfl, hb1⟩
            rw [HV.out, HO.out]
            obtain ⟨hc1, hf1⟩ := bcell hb1
            have hz1_0 : wd.heap.size < w1.heap.size := Nat.lt_of_lt_of_le hz hb1.size
            have HB1 := Lib.hid (bstep (B := wd.heap.size) (W := wd) HB0.out (Nat.le_of_lt hz) hb1); clear hb1
            have y0 : w1.cell? ⟨wd.heap.size, 0, none⟩ = some (.int .i64 m) := by go_simp
            have y1 : w1.cell? ⟨wd.heap.size, 1, none⟩ = some (.slice A' ws.length c') := by go_simp
            go_wp2_with fail
            go_roundw
            case rel => exact ⟨k + 1, by omega, by rw [HST.out], by go_num, y0, y1, HB1.out, hz1_0⟩
            case measure => (simp [intOf]) <;> omega
          | some x =>
            have hst : egTo m ws pz (k + 1) = max (egTo m ws pz k) x := by rw [egTo, hX]
            have HV : Hid (opV (endsGain (m : Int) ws pz k) = x) := by show _ = _; rw [hX]; rfl
            have HO : Hid (opB (endsGain (m : Int) ws pz k) = true) := by show _ = _; rw [hX]; rfl
            obtain ⟨u, hu⟩ : ∃ u, egTo m ws pz k = u := ⟨_, rfl⟩
            rw [hu] at hst ⊢
            have HST := Lib.hid hst
            have m1 : (if u < x then x else u) = max u x := by split <;> omega
            have m2 : (if x < u then u else x) = max u x := by split <;> omega
            have m3 : (if u ≤ x then x else u) = max u x := by split <;> omega
            have m4 : (if x ≤ u then u else x) = max u x := by split <;> omega
            have HM := Lib.hid (And.intro m1 (And.intro m2 (And.intro m3 m4)))
            clear hX hst hu m1 m2 m3 m4
            have hv1 := HV1.out
            have hv2 := HV2.out
            go_wp2_with fail
            clear hv1 hv2
            refine (EndsGain_any _ _ _ _ _ _ _ _ _ (HRW.out.later HB0.out) (HRI.out.later HB0.out)).mono ?_; rintro e1 w1 ⟨rfl, hb1⟩
            rw [HV.out, HO.out]
            obtain ⟨hc1, hf1⟩ := bcell hb1
            have hz1_0 : wd.heap.size < w1.heap.size := Nat.lt_of_lt_of_le hz hb1.size
            have HB1 := Lib.hid (bstep (B := wd.heap.size) (W := wd) HB0.out (Nat.le_of_lt hz) hb1); clear hb1
            have y0 : w1.cell? ⟨wd.heap.size, 0, none⟩ = some (.int .i64 m) := by go_simp
            have y1 : w1.cell? ⟨wd.heap.size, 1, none⟩ = some (.slice A' ws.length c') := by go_simp
            obtain ⟨m1, m2, m3, m4⟩ := HM.out
            go_wp2_with fail
            clear m1 m2 m3 m4
            go_roundw
            case rel => exact ⟨k + 1, by omega, by rw [HST.out], by go_num, y0, y1, HB1.out, hz1_0⟩
            case measure => (simp [intOf]) <;> omega
        · obtain rfl : M = k := by omega
          rw [HEG.out]
          have q0 : wr.cell? ⟨bc, 0, none⟩ = some (.int .i64 p0) := by
            obtain ⟨b', o', e9, -, c9⟩ := (HRI.out.later HB0.out).at_ hp0
            injection e9 with e9; injection e9 with e91 e92; subst e91; subst e92
            rw [HP0.out] at c9; simpa using c9
          have hp1 : (0 : Int) < (pz.length : Int) := by omega
          have d1 : decide (p0 ≤ Q) = true := decide_eq_true hge
          have hv1 := HV1.out
          have hv2 := HV2.out
          go_wp2_with fail
          go_ret
          exact ⟨rfl, bstep HBD.out hzd HB0.out⟩
end Go.Proofs.Ytoekaembfieigaa
