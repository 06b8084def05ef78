/- The law of GainOf: without ways just the own prize is gained. -/
import Derived.Test.YtoekaembfieigaaPzI
import Derived.Test.YtoekaembfieigaaPzL
import Derived.Test.YtoekaembfieigaaWC
import Derived.Test.YtoekaembfieigaaMC
import Derived.Test.YtoekaembfieigaaWPy
set_option linter.unusedSimpArgs false
set_option linter.unusedVariables false
attribute [local go_sem ↓] Go.wp_at_zero Go.wp_at_succ
namespace Go.Proofs.Ytoekaembfieigaa
open Go.ChangeShapes Go.WideShapes Go.ChangeAt Go.RowKit

set_option maxRecDepth 100000 in
set_option maxHeartbeats 2000000 in
theorem FnGainOf_walk (A : Option Addr) (len cap : Nat) (w : World) (hr : RB w w.heap.size A len) (hc : len ≤ cap) (hlen : len ≤ 9223372036854775807) :
    Calls Try.prog 4 #[.slice A len cap] w fun e w' => e = .returned (.bool true) ∧ Below w.heap.size w w' := by
  have HR := Lib.hid hr
  clear hr
  by_cases hm : 1048576 < len
  · go_enter Try.func4, Try.ntmps4
    go_wp2_with fail
    go_ret
    exact ⟨rfl, Below.refl _ _⟩
  · go_enter Try.func4, Try.ntmps4
    go_wp2_with fail
    refine (DrawGainOf_any A len cap _ HR.out hc (by omega)).mono ?_
    rintro e wd ⟨nn, ss, A', c', ws, bc, cc, pz, rfl, hrw, hl10, hcc, hn0, hn7, hs0, hs1, hri, hpz8, hbd⟩
    have HRW := Lib.hid hrw
    have HBD := Lib.hid hbd
    have hzd : w.heap.size ≤ wd.heap.size := hbd.size
    clear hrw hbd
    have HRI := Lib.hid hri
    clear hri
    cases hX : gainOf nn ws pz ss with
    | none =>
      have HV : Hid (opV (gainOf nn ws pz ss) = 0) := by show _ = _; rw [hX]; rfl
      have HO : Hid (opB (gainOf nn ws pz ss) = false) := by show _ = _; rw [hX]; rfl
      clear hX
      go_wp2_with fail
      refine (GainOf_any _ _ _ _ _ _ _ _ _ (HRW.out.later (by go_grown)) (HRI.out.later (by go_grown))).mono ?_; rintro e w1 ⟨rfl, hb1⟩
      rw [HV.out, HO.out]
      obtain ⟨hc1, hf1⟩ := bcell hb1
      have hz1_0 : wd.heap.size < w1.heap.size := by have hq := hb1.size; (try simp at hq); omega
      have HK1 := Lib.hid hb1
      have HB1 := Lib.hid (bstep (B := wd.heap.size) (W := wd) (by (try have hp := HB0.out); go_grown) (by go_size) hb1); clear hb1
      go_wp2_with fail
      refine (sGainOf_any _ _ _ _ _ _ _ _ _ (HRW.out.later (by have := HB1.out; go_grown)) (by omega) (HRI.out.later (by have := HB1.out; go_grown)) (by omega)).mono ?_; rintro e w2 ⟨rfl, hb2⟩
      rw [HV.out, HO.out]
      obtain ⟨hc2, hf2⟩ := bcell hb2
      have hz2_0 : wd.heap.size < w2.heap.size := by have hq := hb2.size; (try simp at hq); omega
      have HK2 := Lib.hid hb2
      have HB2 := Lib.hid (bstep (B := wd.heap.size) (W := wd) (by have hp := HB1.out; go_grown) (by go_size) hb2); clear hb2
      go_wp2_with fail
      refine (alive_any _).mono ?_; rintro e w3 ⟨rfl, hb3⟩
      obtain ⟨hc3, hf3⟩ := bcell hb3
      have hz3_0 : wd.heap.size < w3.heap.size := by have hq := hb3.size; (try simp at hq); omega
      have HK3 := Lib.hid hb3
      have HB3 := Lib.hid (bstep (B := wd.heap.size) (W := wd) (by have hp := HB2.out; go_grown) (by go_size) hb3); clear hb3
      go_wp2_with fail
      go_ret
      exact ⟨rfl, bstep HBD.out hzd HB3.out⟩
    | some x =>
      have HV : Hid (opV (gainOf nn ws pz ss) = x) := by show _ = _; rw [hX]; rfl
      have HO : Hid (opB (gainOf nn ws pz ss) = true) := by show _ = _; rw [hX]; rfl
      obtain ⟨hok, s0, s1, rfl⟩ := gainOf_t hX
      have hpi := prizesOk_iff.1 hok
      have hni := netOk_t hpi.ok
      have hn6 := hni.hi
      have hga := gain_all hpi ss
      have hgb := gain_bg (ws := ws) (pz := pz) s0 s1
      have hgn := gainOf_is (s := 0) hok (Int.le_refl 0) (full_bd ws.length hni.len).1
      rw [gain_none hpi] at hgn
      have hq := best_is hok
      obtain ⟨G, hG⟩ : ∃ G, gain ws pz ss = G := ⟨_, rfl⟩
      obtain ⟨Q, hQ⟩ : ∃ Q, bgTo ws pz (2 ^ ws.length) = Q := ⟨_, rfl⟩
      rw [hG] at HV hga hgb
      rw [hQ] at hgb hq
      obtain ⟨p0, hp0e⟩ : ∃ p, pz.getD 0 0 = p := ⟨_, rfl⟩
      rw [hp0e] at hgn
      have HP0 := Lib.hid hp0e
      have HQ := Lib.hid hq
      have HV0 : Hid (opV (gainOf nn ws pz 0) = p0) := by show _ = _; rw [hgn]; rfl
      have HO0 : Hid (opB (gainOf nn ws pz 0) = true) := by show _ = _; rw [hgn]; rfl
      have hp0 : 0 < pz.length := by have := hpi.len; have := hni.lo; omega
      have HINS := Lib.hid hpi.ins
      have HSTP : Hid (∀ k : Nat, k < pz.length → prTo pz (allPl nn) (k + 1) = prTo pz (allPl nn) k + pz.getD k 0) := fun k hk => by
        have hb : bit (allPl nn) (k : Int) = true := by
          rw [allPl_bit (by omega) (by omega)]
          have := hpi.len
          simp; omega
        rw [prTo, if_pos hb]
      obtain ⟨Z, hZ⟩ : ∃ Z, prTo pz (allPl nn) pz.length = Z := ⟨_, rfl⟩
      rw [hZ] at hga
      have HZ := Lib.hid hZ
      clear hX hok hpi hni hgn hq hG hQ hp0e hZ
      go_wp2_with fail
      refine (GainOf_any _ _ _ _ _ _ _ _ _ (HRW.out.later (by go_grown)) (HRI.out.later (by go_grown))).mono ?_; rintro e w1 ⟨rfl, hb1⟩
      rw [HV.out, HO.out]
      obtain ⟨hc1, hf1⟩ := bcell hb1
      have hz1_0 : wd.heap.size < w1.heap.size := by have hq := hb1.size; (try simp at hq); omega
      have HK1 := Lib.hid hb1
      have HB1 := Lib.hid (bstep (B := wd.heap.size) (W := wd) (by (try have hp := HB0.out); go_grown) (by go_size) hb1); clear hb1
      go_wp2_with fail
      refine (sGainOf_any _ _ _ _ _ _ _ _ _ (HRW.out.later (by have := HB1.out; go_grown)) (by omega) (HRI.out.later (by have := HB1.out; go_grown)) (by omega)).mono ?_; rintro e w2 ⟨rfl, hb2⟩
      rw [HV.out, HO.out]
      obtain ⟨hc2, hf2⟩ := bcell hb2
      have hz2_0 : wd.heap.size < w2.heap.size := by have hq := hb2.size; (try simp at hq); omega
      have HK2 := Lib.hid hb2
      have HB2 := Lib.hid (bstep (B := wd.heap.size) (W := wd) (by have hp := HB1.out; go_grown) (by go_size) hb2); clear hb2
      have k2 : w2.cell? ⟨wd.heap.size, 0, none⟩ = some (.int .i64 nn) ∧ w2.cell? ⟨wd.heap.size, 1, none⟩ = some (.slice A' ws.length c') := ⟨by go_simp, by go_simp⟩
      have HRJ := Lib.hid (HRI.out.later HB2.out)
      clear hc1 hf1 hc2 hf2 HB1 HK1 HK2
      obtain ⟨k20, k21⟩ := k2
      go_wp2_with fail
      go_loopw [10, 11] (fun sv i wr => ∃ k : Nat, k ≤ pz.length ∧ sv = .int .i64 (prTo pz (allPl nn) k) ∧ i = .int .i64 k ∧ wr = w2) (fun _ i _ => pz.length - (intOf i).toNat)
      case atStart => exact ⟨0, Nat.zero_le _, rfl, rfl, rfl⟩
      case round =>
        obtain ⟨k, hk, rfl, rfl, rfl⟩ := hrel
        have hk0 : (0 : Int) ≤ (k : Int) := by omega
        by_cases hlt : k < pz.length
        · have hk1 : (k : Int) < (pz.length : Int) := by omega
          have rk : wr.cell? ⟨bc, k, none⟩ = some (.int .i64 (pz.getD k 0)) := by
            obtain ⟨b', o', e9, -, c9⟩ := HRJ.out.at_ hlt
            injection e9 with e9; injection e9 with e91 e92; subst e91; subst e92
            simpa using c9
          have hpb := prTo_bd HINS.out (allPl nn) k
          have hsi := pz_in HINS.out k
          have hps := HSTP.out k hlt
          obtain ⟨u, hu⟩ : ∃ u, prTo pz (allPl nn) k = u := ⟨_, rfl⟩
          obtain ⟨x, hx⟩ : ∃ x, pz.getD k 0 = x := ⟨_, rfl⟩
          rw [hx] at rk hsi hps
          rw [hu] at hpb hps ⊢
          have HPX := Lib.hid hps
          have wk : IntKind.i64.wrap (u + x) = u + x := IntWalk.i64_in _ ⟨by omega, by omega⟩
          have wk2 : wrap64 (u + x) = u + x := IntWalk.wrap64_in _ ⟨by clear wk; omega, by clear wk; omega⟩
          clear hu hx hps hpb hsi
          go_wp2_with fail
          clear wk wk2
          go_roundw
          case rel => exact ⟨k + 1, by omega, by rw [HPX.out], by go_num, by first | rfl | trivial⟩
          case measure => (simp [intOf]) <;> omega
        · obtain rfl : k = pz.length := by omega
          rw [HZ.out]
          have d1 : decide (G ≤ Z) = true := decide_eq_true hga
          have d2 : decide (G ≤ Q) = true := decide_eq_true hgb
          have hp1 : (0 : Int) < (pz.length : Int) := by omega
          go_wp2_with fail
          refine (GainOf_any _ _ _ _ _ _ _ _ _ (HRW.out.later HB2.out) (HRI.out.later HB2.out)).mono ?_; rintro e3 w3 ⟨rfl, hb3⟩
          rw [HV0.out, HO0.out]
          have HB3 := Lib.hid (bstep (B := wd.heap.size) (W := wd) HB2.out (Nat.le_of_lt hz2_0) hb3)
          have hz3 := Nat.lt_of_lt_of_le hz2_0 hb3.size
          obtain ⟨k30, k31⟩ := keep2 hb3 ⟨k20, k21⟩ hz2_0
          have q0 : w3.cell? ⟨bc, 0, none⟩ = some (.int .i64 p0) := by
            obtain ⟨b', o', e9, -, c9⟩ := (HRJ.out.later hb3).at_ hp0
            injection e9 with e9; injection e9 with e91 e92; subst e91; subst e92
            rw [HP0.out] at c9; simpa using c9
          clear hb3 k20 k21
          go_wp2_with fail
          refine (BestGain_any _ _ _ _ _ _ _ _ (HRW.out.later HB3.out) (HRI.out.later HB3.out)).mono ?_; rintro e4 w4 ⟨rfl, hb4⟩
          rw [HQ.out]
          have HB4 := Lib.hid (bstep (B := wd.heap.size) (W := wd) HB3.out (Nat.le_of_lt hz3) hb4)
          clear hb4
          go_wp2_with fail
          go_ret
          exact ⟨rfl, bstep HBD.out hzd HB4.out⟩
end Go.Proofs.Ytoekaembfieigaa
