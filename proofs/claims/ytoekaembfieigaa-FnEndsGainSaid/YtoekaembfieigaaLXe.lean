/- The law of EndsGain: ends gain no more than the best. -/
import Derived.Test.YtoekaembfieigaaPzJ
import Derived.Test.YtoekaembfieigaaPzL
import Derived.Test.YtoekaembfieigaaWC
import Derived.Test.YtoekaembfieigaaMC
import Derived.Test.YtoekaembfieigaaWPy
set_option linter.unusedSimpArgs false
set_option linter.unusedVariables false
attribute [local go_sem ↓] Go.wp_at_zero Go.wp_at_succ
namespace Go.Proofs.Ytoekaembfieigaa
open Go.ChangeShapes Go.WideShapes Go.ChangeAt Go.RowKit

set_option maxRecDepth 100000 in
set_option maxHeartbeats 2000000 in
theorem FnEndsGain_walk (A : Option Addr) (len cap : Nat) (w : World) (hr : RB w w.heap.size A len) (hc : len ≤ cap) (hlen : len ≤ 9223372036854775807) :
    Calls Try.prog 6 #[.slice A len cap] w fun e w' => e = .returned (.bool true) ∧ Below w.heap.size w w' := by
  have HR := Lib.hid hr
  clear hr
  by_cases hm : 1048576 < len
  · go_enter Try.func6, Try.ntmps6
    go_wp2_with fail
    go_ret
    exact ⟨rfl, Below.refl _ _⟩
  · go_enter Try.func6, Try.ntmps6
    go_wp2_with fail
    refine (DrawEndsGain_any A len cap _ HR.out hc (by omega)).mono ?_
    rintro e wd ⟨nn, ee, A', c', ws, bc, cc, pz, rfl, hrw, hl10, hcc, hn0, hn7, hs0, hs1, hri, hpz8, hbd⟩
    have HRW := Lib.hid hrw
    have HBD := Lib.hid hbd
    have hzd : w.heap.size ≤ wd.heap.size := hbd.size
    clear hrw hbd
    have HRI := Lib.hid hri
    clear hri
    cases hX : endsGain nn ws pz ee with
    | none =>
      have HV : Hid (opV (endsGain nn ws pz ee) = 0) := by show _ = _; rw [hX]; rfl
      have HO : Hid (opB (endsGain nn ws pz ee) = false) := by show _ = _; rw [hX]; rfl
      clear hX
      go_wp2_with fail
      refine (EndsGain_any _ _ _ _ _ _ _ _ _ (HRW.out.later (by go_grown))  (HRI.out.later (by go_grown))).mono ?_; rintro e w1 ⟨rfl, hb1⟩
      rw [HV.out, HO.out]
      obtain ⟨hc1, hf1⟩ := bcell hb1
      have hz1_0 : wd.heap.size < w1.heap.size := by have hq := hb1.size; (try simp at hq); omega
      have HK1 := Lib.hid hb1
      have HB1 := Lib.hid (bstep (B := wd.heap.size) (W := wd) (by (try have hp := HB0.out); go_grown) (by go_size) hb1); clear hb1
      go_wp2_with fail
      refine (sEndsGain_any _ _ _ _ _ _ _ _ _ (HRW.out.later (by have := HB1.out; go_grown)) (by omega) (HRI.out.later (by have := HB1.out; go_grown)) (by omega)).mono ?_; rintro e w2 ⟨rfl, hb2⟩
      rw [HV.out, HO.out]
      obtain ⟨hc2, hf2⟩ := bcell hb2
      have hz2_0 : wd.heap.size < w2.heap.size := by have hq := hb2.size; (try simp at hq); omega
      have HK2 := Lib.hid hb2
      have HB2 := Lib.hid (bstep (B := wd.heap.size) (W := wd) (by have hp := HB1.out; go_grown) (by go_size) hb2); clear hb2
      go_wp2_with fail
      refine (alive_any _).mono ?_; rintro e w3 ⟨rfl, hb3⟩
      obtain ⟨hc3, hf3⟩ := bcell hb3
      have hz3_0 : wd.heap.size < w3.heap.size := by have hq := hb3.size; (try simp at hq); omega
      have HK3 := Lib.hid hb3
      have HB3 := Lib.hid (bstep (B := wd.heap.size) (W := wd) (by have hp := HB2.out; go_grown) (by go_size) hb3); clear hb3
      go_wp2_with fail
      go_ret
      exact ⟨rfl, bstep HBD.out hzd HB3.out⟩
    | some x =>
      have HV : Hid (opV (endsGain nn ws pz ee) = x) := by show _ = _; rw [hX]; rfl
      have HO : Hid (opB (endsGain nn ws pz ee) = true) := by show _ = _; rw [hX]; rfl
      have hsr := ends_src hX
      obtain ⟨hpi, hpe, -, -⟩ := endsGain_t hX
      have hmo := ends_most hX
      have hno := ends_none hpi
      have hq := best_is (prizesOk_iff.2 hpi)
      have hni := netOk_t hpi.ok
      obtain ⟨Q, hQ⟩ : ∃ Q, bgTo ws pz (2 ^ ws.length) = Q := ⟨_, rfl⟩
      rw [hQ] at hmo hq
      have HQ := Lib.hid hq
      obtain ⟨p0, hp0e⟩ : ∃ p, pz.getD 0 0 = p := ⟨_, rfl⟩
      have HP0 := Lib.hid hp0e
      rw [hp0e] at hno
      have HV1 : Hid (opV (endsGain nn ws pz (ior ee 1)) = x) := by show _ = _; rw [hsr]; rfl
      have HO1 : Hid (opB (endsGain nn ws pz (ior ee 1)) = true) := by show _ = _; rw [hsr]; rfl
      have HV0 : Hid (opV (endsGain nn ws pz 0) = p0) := by show _ = _; rw [hno]; rfl
      have HO0 : Hid (opB (endsGain nn ws pz 0) = true) := by show _ = _; rw [hno]; rfl
      have hp0 : 0 < pz.length := by have := hpi.len; have := hni.lo; omega
      have HOR : Hid (bits .or .i64 ee 1 = ior ee 1) := bits_or _ _ hs0 (by omega) (by omega) (by omega)
      clear hX hsr hpi hpe hno hq hni hQ hp0e
      go_wp2_with fail
      refine (EndsGain_any _ _ _ _ _ _ _ _ _ (HRW.out.later (by go_grown))  (HRI.out.later (by go_grown))).mono ?_; rintro e w1 ⟨rfl, hb1⟩
      rw [HV.out, HO.out]
      obtain ⟨hc1, hf1⟩ := bcell hb1
      have hz1_0 : wd.heap.size < w1.heap.size := by have hq := hb1.size; (try simp at hq); omega
      have HK1 := Lib.hid hb1
      have HB1 := Lib.hid (bstep (B := wd.heap.size) (W := wd) (by (try have hp := HB0.out); go_grown) (by go_size) hb1); clear hb1
      go_wp2_with fail
      refine (sEndsGain_any _ _ _ _ _ _ _ _ _ (HRW.out.later (by have := HB1.out; go_grown)) (by omega) (HRI.out.later (by have := HB1.out; go_grown)) (by omega)).mono ?_; rintro e w2 ⟨rfl, hb2⟩
      rw [HV.out, HO.out]
      obtain ⟨hc2, hf2⟩ := bcell hb2
      have hz2_0 : wd.heap.size < w2.heap.size := by have hq := hb2.size; (try simp at hq); omega
      have HK2 := Lib.hid hb2
      have HB2 := Lib.hid (bstep (B := wd.heap.size) (W := wd) (by have hp := HB1.out; go_grown) (by go_size) hb2); clear hb2
      have hor := HOR.out
      go_wp2_with fail
      refine (EndsGain_any _ _ _ _ _ _ _ _ _ (HRW.out.later (by have := HB2.out; go_grown))  (HRI.out.later (by have := HB2.out; go_grown))).mono ?_; rintro e w3 ⟨rfl, hb3⟩
      rw [HV1.out, HO1.out]
      obtain ⟨hc3, hf3⟩ := bcell hb3
      have hz3_0 : wd.heap.size < w3.heap.size := by have hq := hb3.size; (try simp at hq); omega
      have HK3 := Lib.hid hb3
      have HB3 := Lib.hid (bstep (B := wd.heap.size) (W := wd) (by have hp := HB2.out; go_grown) (by go_size) hb3); clear hb3
      clear hor
      go_wp2_with fail
      refine (EndsGain_any _ _ _ _ _ _ _ _ _ (HRW.out.later (by have := HB3.out; go_grown))  (HRI.out.later (by have := HB3.out; go_grown))).mono ?_; rintro e w4 ⟨rfl, hb4⟩
      rw [HV0.out, HO0.out]
      obtain ⟨hc4, hf4⟩ := bcell hb4
      have hz4_0 : wd.heap.size < w4.heap.size := by have hq := hb4.size; (try simp at hq); omega
      have HK4 := Lib.hid hb4
      have HB4 := Lib.hid (bstep (B := wd.heap.size) (W := wd) (by have hp := HB3.out; go_grown) (by go_size) hb4); clear hb4
      have q0 : w4.cell? ⟨bc, 0, none⟩ = some (.int .i64 p0) := by
        obtain ⟨b', o', e9, -, c9⟩ := (HRI.out.later HB4.out).at_ hp0
        injection e9 with e9; injection e9 with e91 e92; subst e91; subst e92
        rw [HP0.out] at c9; simpa using c9
      have hp1 : (0 : Int) < (pz.length : Int) := by omega
      have d1 : decide (x ≤ Q) = true := decide_eq_true hmo
      go_wp2_with fail
      refine (BestGain_any _ _ _ _ _ _ _ _ (HRW.out.later (by have := HB4.out; go_grown)) (HRI.out.later (by have := HB4.out; go_grown))).mono ?_; rintro e w5 ⟨rfl, hb5⟩
      rw [HQ.out]
      obtain ⟨hc5, hf5⟩ := bcell hb5
      have hz5_0 : wd.heap.size < w5.heap.size := by have hq := hb5.size; (try simp at hq); omega
      have HK5 := Lib.hid hb5
      have HB5 := Lib.hid (bstep (B := wd.heap.size) (W := wd) (by have hp := HB4.out; go_grown) (by go_size) hb5); clear hb5
      go_wp2_with fail
      go_ret
      exact ⟨rfl, bstep HBD.out hzd HB5.out⟩
end Go.Proofs.Ytoekaembfieigaa
