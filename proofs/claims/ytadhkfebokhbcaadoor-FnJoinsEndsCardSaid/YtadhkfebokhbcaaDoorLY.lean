/- FnJoinsEnds: its walk. -/
import Derived.Test.YtadhkfebokhbcaaDoorWM
import Derived.Test.YtadhkfebokhbcaaDoorDA
import Derived.Test.YtadhkfebokhbcaaDoorLO
import Derived.Test.YtadhkfebokhbcaaDoorMem
import Derived.Deep.RegionHeld3
set_option linter.unusedSimpArgs false
set_option linter.unusedVariables false
namespace Go.Proofs.YtadhkfebokhbcaaDoor
open Go.ChangeShapes Go.WideShapes Go.ChangeAt Go.RowKit

/-- whichever of its places a set of ends is looked at from -/
theorem joins_any {n : Int} {ws : List Wy} {s e k : Int} (hn : NetIs n ws) (h0 : 0 ≤ e) (h1 : e < 2 ^ n.toNat) (hk : 0 ≤ k) (hkn : k < n) (hb : bit e k = true) : (idiff e (reach ws s k) == 0) = joins ws s e := by
  rw [Bool.eq_iff_iff, beq_iff_eq, idiff_zero h0, joins_iff hn h0 h1]
  constructor
  · intro h p q hp hq hbp hbq
    rw [reach_back (s := s) hn hk hkn hp (h p hp hbp)]
    exact h q hq hbq
  · intro h q hq hbq
    exact h k q hk hq hb hbq
theorem full_bits (len : Nat) (k : Nat) (h : k < len) : bit (full len) k = true := by
  unfold bit full
  have e : ((2 : Int) ^ len - 1).toNat = 2 ^ len - 1 := by
    have e1 : ((2 : Int) ^ len) = ((2 ^ len : Nat) : Int) := by simp
    have : 1 ≤ 2 ^ len := Nat.one_le_two_pow
    omega
  rw [e, Int.toNat_natCast, Nat.testBit_two_pow_sub_one]
  simpa using h
/-- all ways join what a set does -/
theorem joins_full {n : Int} {ws : List Wy} {s e : Int} (hn : NetIs n ws) (h0 : 0 ≤ e) (h1 : e < 2 ^ n.toNat) (h : joins ws s e = true) : joins ws (full ws.length) e = true := by
  rw [joins_iff hn h0 h1] at h ⊢
  intro p q hp hq hbp hbq
  have hpn : p < n := by have := set_sub h0 h1 hbp; have := hn.lo; omega
  have hf := reach_is (s := full ws.length) hn hp hpn
  exact (reach_is (s := s) hn hp hpn).least (bit (reach ws (full ws.length) p)) hf.has (fun k x hx _ => hf.closed k x hx (full_bits _ k (List.getElem?_eq_some_iff.1 hx).1)) q hq (h p q hp hq hbp hbq)
theorem low_all : ∀ e : Fin 64, bits .and .i64 (e.val : Int) (-(e.val : Int)) = 0 ∨ ∃ j : Fin 6, bits .and .i64 (e.val : Int) (-(e.val : Int)) = 2 ^ j.val ∧ (2 : Int) ^ j.val ≤ e.val := by decide +kernel
/-- no ways join no end and one end -/
theorem joins_one {n : Int} {ws : List Wy} {e : Int} (hn : NetIs n ws) (h0 : 0 ≤ e) (h1 : e < 2 ^ n.toNat) : 0 ≤ bits .and .i64 e (-e) ∧ bits .and .i64 e (-e) < 2 ^ n.toNat ∧ joins ws 0 (bits .and .i64 e (-e)) = true := by
  have h6 := pow_bd n 6 (by have := hn.hi; omega)
  have := low_all ⟨e.toNat, by omega⟩
  simp only [Int.toNat_of_nonneg h0] at this
  rcases this with h | ⟨j, h, hle⟩
  · rw [h]; exact ⟨Int.le_refl _, by omega, joins_none ws 0⟩
  · rw [h]
    have hj := pow_bd j.val j.val (by omega)
    rw [Int.toNat_natCast] at hj
    refine ⟨by omega, by omega, ?_⟩
    rw [joins_iff hn (by omega) (by omega)]
    have hbit : ∀ q, 0 ≤ q → bit (2 ^ j.val) q = decide (q = (j.val : Int)) := fun q hq => by
      have := bit_shl (j.val : Int) q (by omega) hq
      rwa [Int.toNat_natCast] at this
    intro p q hp hq hbp hbq
    rw [hbit p hp] at hbp
    rw [hbit q hq] at hbq
    have e1 : p = (j.val : Int) := by simpa using hbp
    have e2 : q = (j.val : Int) := by simpa using hbq
    have hjn : (j.val : Int) < n := by
      have := set_sub (e := 2 ^ j.val) (n := n.toNat) (by omega) (by omega) (q := (j.val : Int)) (by rw [hbit _ (by omega)]; simp)
      have := hn.lo; omega
    rw [e1, e2]
    exact (reach_is (s := 0) hn (by omega) hjn).has

set_option maxHeartbeats 4000000 in
theorem FnJoinsEnds_walk (A : Option Addr) (len cap : Nat) (w : World) (hr : RB w w.heap.size A len) (hc : len ≤ cap) (hlen : len ≤ 9223372036854775807) (hT : Tab w) :
    Calls Tryd.prog 4 #[.slice A len cap] w fun e w' => e = .returned (.bool true) ∧ Below w.heap.size w w' := by
  have HR := Lib.hid hr
  have HT := Lib.hid hT
  clear hr hT
  by_cases hm : 1048576 < len
  · go_enter Tryd.func4, Tryd.ntmps4
    go_wp2_with fail
    go_ret
    exact ⟨rfl, Below.refl _ _⟩
  · go_enter Tryd.func4, Tryd.ntmps4
    go_wp2_with fail
    refine (DrawJoinsEnds_any A len cap _ HR.out hc (by omega)).mono ?_
    rintro e wd ⟨nn, s, ee, A', c', ws, rfl, hrw, hl10, hcc, hn0, hn7, hs0, hs1, he0, he1, hbd⟩
    have HRW := Lib.hid hrw
    have HBD := Lib.hid hbd
    have HTD := Lib.hid (HT.out.later hbd)
    have hzd : w.heap.size ≤ wd.heap.size := hbd.size
    clear hrw hbd
    go_wp2_with fail
    refine (JoinsEnds_any _ _ _ _ _ _ _ (HRW.out.later (by go_grown)) (HTD.out.later (by go_grown))).mono ?_; rintro e w1 ⟨rfl, hb1⟩
    obtain ⟨hc1, hf1⟩ := bcell hb1
    have hz1_0 : wd.heap.size < w1.heap.size := by have hq := hb1.size; (try simp at hq); omega
    have HK1 := Lib.hid hb1
    have HB1 := Lib.hid (bstep (B := wd.heap.size) (W := wd) (by (try have hp := HB0.out); go_grown) (by go_size) hb1); clear hb1
    go_wp2_with fail
    refine (sJoinsEnds_any _ _ _ _ _ _ _ (HRW.out.later (by have := HB1.out; go_grown)) (by omega)).mono ?_; rintro e w2 ⟨rfl, hb2⟩
    obtain ⟨hc2, hf2⟩ := bcell hb2
    have hz2_0 : wd.heap.size < w2.heap.size := by have hq := hb2.size; (try simp at hq); omega
    have HK2 := Lib.hid hb2
    have HB2 := Lib.hid (bstep (B := wd.heap.size) (W := wd) (by have hp := HB1.out; go_grown) (by go_size) hb2); clear hb2
    cases hno : netOk nn ws
    · have HNO := Lib.hid hno
      have hj : joinsEnds nn ws s ee = false := by unfold joinsEnds setOk; rw [hno]; rfl
      rw [hj]
      clear hj hno
      go_wp2_with fail
      refine (sNetOk_any _ _ _ _ _ (HRW.out.later (by have := HB2.out; go_grown)) (by omega)).mono ?_; rintro e w3 ⟨rfl, hb3⟩
      rw [HNO.out]
      obtain ⟨hc3, hf3⟩ := bcell hb3
      have hz3_0 : wd.heap.size < w3.heap.size := by have hq := hb3.size; (try simp at hq); omega
      have HK3 := Lib.hid hb3
      have HB3 := Lib.hid (bstep (B := wd.heap.size) (W := wd) (by have hp := HB2.out; go_grown) (by go_size) hb3); clear hb3
      go_wp2_with fail
      refine (alive_any _).mono ?_; rintro e w4 ⟨rfl, hb4⟩
      obtain ⟨hc4, hf4⟩ := bcell hb4
      have hz4_0 : wd.heap.size < w4.heap.size := by have hq := hb4.size; (try simp at hq); omega
      have HK4 := Lib.hid hb4
      have HB4 := Lib.hid (bstep (B := wd.heap.size) (W := wd) (by have hp := HB3.out; go_grown) (by go_size) hb4); clear hb4
      go_wp2_with fail
      go_ret
      exact ⟨rfl, bstep HBD.out hzd HB4.out⟩
    · have HNO := Lib.hid hno
      have hni := netOk_t hno
      have HNI := Lib.hid hni
      have hl9 := hni.len
      have hn2 := hni.lo
      have hn6 := hni.hi
      have hpl := pow_bd (ws.length : Int) 9 (by omega)
      rw [Int.toNat_natCast] at hpl
      have hpn := pow_bd nn 6 (by omega)
      by_cases hsl : 2 ^ ws.length ≤ s
      · have hj : joinsEnds nn ws s ee = false := by
          have : decide (s ≤ full ws.length) = false := by unfold full; simp; omega
          unfold joinsEnds setOk; rw [this]; simp
        rw [hj]
        clear hj hno hni
        go_wp2_with fail
        refine (sNetOk_any _ _ _ _ _ (HRW.out.later (by have := HB2.out; go_grown)) (by omega)).mono ?_; rintro e w3 ⟨rfl, hb3⟩
        rw [HNO.out]
        obtain ⟨hc3, hf3⟩ := bcell hb3
        have hz3_0 : wd.heap.size < w3.heap.size := by have hq := hb3.size; (try simp at hq); omega
        have HK3 := Lib.hid hb3
        have HB3 := Lib.hid (bstep (B := wd.heap.size) (W := wd) (by have hp := HB2.out; go_grown) (by go_size) hb3); clear hb3
        go_wp2_with fail
        refine (alive_any _).mono ?_; rintro e w4 ⟨rfl, hb4⟩
        obtain ⟨hc4, hf4⟩ := bcell hb4
        have hz4_0 : wd.heap.size < w4.heap.size := by have hq := hb4.size; (try simp at hq); omega
        have HK4 := Lib.hid hb4
        have HB4 := Lib.hid (bstep (B := wd.heap.size) (W := wd) (by have hp := HB3.out; go_grown) (by go_size) hb4); clear hb4
        go_wp2_with fail
        go_ret
        exact ⟨rfl, bstep HBD.out hzd HB4.out⟩
      · by_cases hel : 2 ^ nn.toNat ≤ ee
        · have hj : joinsEnds nn ws s ee = false := by
            have : decide (ee < 2 ^ nn.toNat) = false := by simp; omega
            unfold joinsEnds plOk; rw [this]; simp
          rw [hj]
          clear hj hno hni
          go_wp2_with fail
          refine (sNetOk_any _ _ _ _ _ (HRW.out.later (by have := HB2.out; go_grown)) (by omega)).mono ?_; rintro e w3 ⟨rfl, hb3⟩
          rw [HNO.out]
          obtain ⟨hc3, hf3⟩ := bcell hb3
          have hz3_0 : wd.heap.size < w3.heap.size := by have hq := hb3.size; (try simp at hq); omega
          have HK3 := Lib.hid hb3
          have HB3 := Lib.hid (bstep (B := wd.heap.size) (W := wd) (by have hp := HB2.out; go_grown) (by go_size) hb3); clear hb3
          go_wp2_with fail
          refine (alive_any _).mono ?_; rintro e w4 ⟨rfl, hb4⟩
          obtain ⟨hc4, hf4⟩ := bcell hb4
          have hz4_0 : wd.heap.size < w4.heap.size := by have hq := hb4.size; (try simp at hq); omega
          have HK4 := Lib.hid hb4
          have HB4 := Lib.hid (bstep (B := wd.heap.size) (W := wd) (by have hp := HB3.out; go_grown) (by go_size) hb4); clear hb4
          go_wp2_with fail
          go_ret
          exact ⟨rfl, bstep HBD.out hzd HB4.out⟩
        · have hsf : s ≤ full ws.length := by unfold full; omega
          have hso : setOk nn ws s = true := setOk_mk hno hs0 hsf
          have hpo : ∀ q, 0 ≤ q → q < 2 ^ nn.toNat → plOk nn q = true := fun q h0 h1 => by unfold plOk; simp; omega
          have hj : joinsEnds nn ws s ee = joins ws s ee := by unfold joinsEnds; rw [hso, hpo ee he0 (by omega)]; rfl
          have HJA : Hid (∀ k : Nat, (k : Int) < nn → bit ee k = true → (idiff ee (reach ws s k) == 0) = joins ws s ee) := fun k hk hb => joins_any hni he0 (by omega) (by omega) hk hb
          have hfb := full_bd ws.length hl9
          have HJ0 : Hid (joinsEnds nn ws 0 0 = true) := by show joinsEnds nn ws 0 0 = true; unfold joinsEnds; rw [setOk_mk hno (Int.le_refl _) hfb.1, hpo 0 (Int.le_refl _) (by omega), joins_none]; rfl
          obtain ⟨v0, v1, vj⟩ := joins_one hni he0 (show ee < 2 ^ nn.toNat from by omega)
          have HJV0 : joinsEnds nn ws 0 (bits .and .i64 ee (-ee)) = true := by unfold joinsEnds; rw [setOk_mk hno (Int.le_refl _) hfb.1, hpo _ v0 v1, vj]; rfl
          have HJF0 : joins ws s ee = true → joinsEnds nn ws (full ws.length) ee = true := fun h => by unfold joinsEnds; rw [setOk_mk hno hfb.1 (Int.le_refl _), hpo ee he0 (by omega), joins_full hni he0 (by omega) h]; rfl
          obtain ⟨v, hv⟩ : ∃ v : Int, bits .and .i64 ee (-ee) = v := ⟨_, rfl⟩
          rw [hv] at HJV0
          have HJV := Lib.hid HJV0
          have HV := Lib.hid hv
          obtain ⟨F, hF⟩ : ∃ F : Int, full ws.length = F := ⟨_, rfl⟩
          rw [hF] at HJF0
          have HJFH := Lib.hid HJF0
          have HF1 : Hid (IntKind.i64.wrap (2 ^ ws.length - 1) = F) := by show IntKind.i64.wrap (2 ^ ws.length - 1) = F; rw [← hF]; exact IntWalk.i64_in _ ⟨by omega, by omega⟩
          have HF2 : Hid (wrap64 (2 ^ ws.length - 1) = F) := by show wrap64 (2 ^ ws.length - 1) = F; rw [← hF]; exact IntWalk.wrap64_in _ ⟨by omega, by omega⟩
          have HW1 : Hid (IntKind.i64.wrap (2 ^ ws.length) = 2 ^ ws.length) := IntWalk.i64_in _ ⟨by omega, by omega⟩
          have HW2 : Hid (wrap64 (2 ^ ws.length) = 2 ^ ws.length) := IntWalk.wrap64_in _ ⟨by omega, by omega⟩
          have HG1 : Hid (IntKind.i64.wrap (-ee) = -ee) := IntWalk.i64_in _ ⟨by omega, by omega⟩
          have HG2 : Hid (wrap64 (-ee) = -ee) := IntWalk.wrap64_in _ ⟨by omega, by omega⟩
          have HRE : Hid (∀ k : Nat, (k : Int) < nn → reachOf nn ws s (k : Int) = reach ws s k ∧ 0 ≤ reach ws s k ∧ reach ws s k < 64) := fun k hk => by
            have hpk : hasPl nn (k : Int) = true := by unfold hasPl; simp; omega
            have hri := reach_is (s := s) hni (p := (k : Int)) (by omega) hk
            exact ⟨by unfold reachOf; rw [if_pos ⟨hso, hpk⟩], hri.lo, hri.hi⟩
          have he64 : ee < 64 := by omega
          rw [hj]
          clear hj hno hni hso hpo HJV0 HJF0 hv hF v0 v1 vj hsf
          cases hjj : joins ws s ee
          all_goals
            have HJJ := Lib.hid hjj
            clear hjj
            go_wp2_with fail
            refine (sNetOk_any _ _ _ _ _ (HRW.out.later (by have := HB2.out; go_grown)) (by omega)).mono ?_; rintro e w3 ⟨rfl, hb3⟩
            rw [HNO.out]
            obtain ⟨hc3, hf3⟩ := bcell hb3
            have hz3_0 : wd.heap.size < w3.heap.size := by have hq := hb3.size; (try simp at hq); omega
            have HK3 := Lib.hid hb3
            have HB3 := Lib.hid (bstep (B := wd.heap.size) (W := wd) (by have hp := HB2.out; go_grown) (by go_size) hb3); clear hb3
            have k3 : w3.cell? ⟨wd.heap.size, 0, none⟩ = some (.int .i64 nn) ∧ w3.cell? ⟨wd.heap.size, 1, none⟩ = some (.slice A' ws.length c') := ⟨by go_simp, by go_simp⟩
            clear hc1 hf1 hc2 hf2 hc3 hf3
            go_wp2_with fail
            go_loopw [7] (fun c wr => ∃ k : Nat, (k : Int) ≤ nn ∧ c = .int .i64 k ∧ wr.cell? ⟨wd.heap.size, 0, none⟩ = some (.int .i64 nn) ∧ wr.cell? ⟨wd.heap.size, 1, none⟩ = some (.slice A' ws.length c') ∧ Below wd.heap.size wd wr ∧ wd.heap.size < wr.heap.size) (fun c _ => nn.toNat - (intOf c).toNat)
            case atStart => exact ⟨0, by omega, rfl, k3.1, k3.2, HB3.out, hz3_0⟩
          case round =>
            clear k3
            obtain ⟨k, hk, rfl, b0, b1, hb, hz⟩ := hrel
            have HB0 := Lib.hid hb
            have HRK := Lib.hid (HRW.out.later hb)
            have HTK := Lib.hid (HTD.out.later hb)
            clear hb
            by_cases hlt : (k : Int) < nn
            · have hq0 : 0 ≤ ee / 2 ^ k := (div_pow_bd ee k he0).1
              have hq1 : (ee / 2 ^ k % 2 == 1) = bit ee k := bit_mod_nat ee k he0
              cases hbit : bit ee k
              · rw [hbit] at hq1
                clear hbit
                go_wp2_with fail
                go_roundw
                case rel => exact ⟨k + 1, by omega, by go_num, b0, b1, HB0.out, hz⟩
                case measure => simp [intOf]; omega
              · rw [hbit] at hq1
                have HJK := Lib.hid (HJA.out k hlt hbit)
                obtain ⟨hre, hre0, hre1⟩ := HRE.out k hlt
                have HREK := Lib.hid hre
                have hand : (bits .andNot .i64 ee (reach ws s (k : Int)) == 0) = false := by rw [bits_andNot _ _ he0 (by omega) hre0 (by omega), HJK.out, HJJ.out]
                clear hbit hre
                go_wp2_with fail
                refine (ReachOf_any nn s (k : Int) A' c' ws _ HRK.out).mono ?_
                rintro e w4 ⟨rfl, hb4⟩
                rw [HREK.out]
                have hk4 := keep2 hb4 ⟨b0, b1⟩ hz
                have z4 := Nat.lt_of_lt_of_le hz hb4.size
                have HB4 := Lib.hid (bstep (B := wd.heap.size) (W := wd) HB0.out (by omega) hb4)
                clear hb4
                go_wp2_with fail
                go_roundw
                case rel => exact ⟨k + 1, by omega, by go_num, hk4.1, hk4.2, HB4.out, z4⟩
                case measure => simp [intOf]; omega
            · have hv := HV.out
              have hf1 := HF1.out
              have hf2 := HF2.out
              have hw1 := HW1.out
              have hw2 := HW2.out
              have hg1 := HG1.out
              have hg2 := HG2.out
              skip
              go_wp2_with fail
              refine wp_region_held_drew (S := (fun w' => w'.cell? ⟨wd.heap.size, 0, none⟩ = some (.int .i64 nn) ∧ w'.cell? ⟨wd.heap.size, 1, none⟩ = some (.slice A' ws.length c'))) (by kernel_rfl) ?_ (fun hHeld => ?_)
              · exact ⟨b0, b1⟩
              refine wpAnyH_take (i := 0) (v := ?_) rfl (by kernel_rfl) (by kernel_rfl) (by kernel_rfl) (fun _ _ _ h => h) (Or.inl ⟨by rfl, ?_⟩) (by assumption) ?_
              rotate_left
              · (intro w hSw; (try dsimp only at hSw); (try simp only [List.getElem_toArray, List.getElem_cons_succ, List.getElem_cons_zero]); first | (go_simp; done) | (go_simp; with_reducible rfl))
              try simp only [Act.put, List.getElem_toArray, List.getElem_cons_succ, List.getElem_cons_zero, List.setIfInBounds_toArray, List.set_cons_zero, List.set_cons_succ]
              refine wpAnyH_take (i := 1) (v := ?_) rfl (by kernel_rfl) (by kernel_rfl) (by kernel_rfl) (fun _ _ _ h => h) (Or.inl ⟨by rfl, ?_⟩) (by assumption) ?_
              rotate_left
              · (intro w hSw; (try dsimp only at hSw); (try simp only [List.getElem_toArray, List.getElem_cons_succ, List.getElem_cons_zero]); first | (go_simp; done) | (go_simp; with_reducible rfl))
              try simp only [Act.put, List.getElem_toArray, List.getElem_cons_succ, List.getElem_cons_zero, List.setIfInBounds_toArray, List.set_cons_zero, List.set_cons_succ]
              refine wpAnyH_take (i := 2) (v := ?_) rfl (by kernel_rfl) (by kernel_rfl) (by kernel_rfl) (fun _ _ _ h => h) (Or.inl ⟨by rfl, ?_⟩) (by assumption) ?_
              rotate_left
              · (intro w hSw; (try dsimp only at hSw); (try simp only [List.getElem_toArray, List.getElem_cons_succ, List.getElem_cons_zero]); first | (go_simp; done) | (go_simp; with_reducible rfl))
              try simp only [Act.put, List.getElem_toArray, List.getElem_cons_succ, List.getElem_cons_zero, List.setIfInBounds_toArray, List.set_cons_zero, List.set_cons_succ]
              refine wpAnyH_take (i := 3) (v := undef) rfl (by kernel_rfl) (by kernel_rfl) (by kernel_rfl) (fun _ _ _ h => h) (Or.inr ⟨by rfl, rfl⟩) (by assumption) ?_
              try simp only [Act.put, List.getElem_toArray, List.getElem_cons_succ, List.getElem_cons_zero, List.setIfInBounds_toArray, List.set_cons_zero, List.set_cons_succ]
              refine wpAnyH_take (i := 4) (v := undef) rfl (by kernel_rfl) (by kernel_rfl) (by kernel_rfl) (fun _ _ _ h => h) (Or.inr ⟨by rfl, rfl⟩) (by assumption) ?_
              try simp only [Act.put, List.getElem_toArray, List.getElem_cons_succ, List.getElem_cons_zero, List.setIfInBounds_toArray, List.set_cons_zero, List.set_cons_succ]
              refine wpAnyH_take (i := 5) (v := undef) rfl (by kernel_rfl) (by kernel_rfl) (by kernel_rfl) (fun _ _ _ h => h) (Or.inr ⟨by rfl, rfl⟩) (by assumption) ?_
              try simp only [Act.put, List.getElem_toArray, List.getElem_cons_succ, List.getElem_cons_zero, List.setIfInBounds_toArray, List.set_cons_zero, List.set_cons_succ]
              refine wpAnyH_take (i := 6) (v := undef) rfl (by kernel_rfl) (by kernel_rfl) (by kernel_rfl) (fun _ _ _ h => h) (Or.inr ⟨by rfl, rfl⟩) (by assumption) ?_
              try simp only [Act.put, List.getElem_toArray, List.getElem_cons_succ, List.getElem_cons_zero, List.setIfInBounds_toArray, List.set_cons_zero, List.set_cons_succ]
              refine wpAnyH_take (i := 7) (v := undef) rfl (by kernel_rfl) (by kernel_rfl) (by kernel_rfl) (fun _ _ _ h => h) (Or.inr ⟨by rfl, rfl⟩) (by assumption) ?_
              try simp only [Act.put, List.getElem_toArray, List.getElem_cons_succ, List.getElem_cons_zero, List.setIfInBounds_toArray, List.set_cons_zero, List.set_cons_succ]
              refine wpAnyH_take (i := 8) (v := undef) rfl (by kernel_rfl) (by kernel_rfl) (by kernel_rfl) (fun _ _ _ h => h) (Or.inr ⟨by rfl, rfl⟩) (by assumption) ?_
              try simp only [Act.put, List.getElem_toArray, List.getElem_cons_succ, List.getElem_cons_zero, List.setIfInBounds_toArray, List.set_cons_zero, List.set_cons_succ]
              refine wpAnyH_take (i := 9) (v := undef) rfl (by kernel_rfl) (by kernel_rfl) (by kernel_rfl) (fun _ _ _ h => h) (Or.inr ⟨by rfl, rfl⟩) (by assumption) ?_
              try simp only [Act.put, List.getElem_toArray, List.getElem_cons_succ, List.getElem_cons_zero, List.setIfInBounds_toArray, List.set_cons_zero, List.set_cons_succ]
              refine wpAnyH_take (i := 10) (v := undef) rfl (by kernel_rfl) (by kernel_rfl) (by kernel_rfl) (fun _ _ _ h => h) (Or.inr ⟨by rfl, rfl⟩) (by assumption) ?_
              try simp only [Act.put, List.getElem_toArray, List.getElem_cons_succ, List.getElem_cons_zero, List.setIfInBounds_toArray, List.set_cons_zero, List.set_cons_succ]
              refine wpAnyH_take (i := 11) (v := ?_) rfl (by kernel_rfl) (by kernel_rfl) (by kernel_rfl) (fun _ _ _ h => h) (Or.inl ⟨by rfl, ?_⟩) (by assumption) ?_
              rotate_left
              · (intro w hSw; (try dsimp only at hSw); (try simp only [List.getElem_toArray, List.getElem_cons_succ, List.getElem_cons_zero]); first | (go_simp; done) | (go_simp; with_reducible rfl))
              try simp only [Act.put, List.getElem_toArray, List.getElem_cons_succ, List.getElem_cons_zero, List.setIfInBounds_toArray, List.set_cons_zero, List.set_cons_succ]
              refine wpAnyH_take (i := 12) (v := ?_) rfl (by kernel_rfl) (by kernel_rfl) (by kernel_rfl) (fun _ _ _ h => h) (Or.inl ⟨by rfl, ?_⟩) (by assumption) ?_
              rotate_left
              · (intro w hSw; (try dsimp only at hSw); (try simp only [List.getElem_toArray, List.getElem_cons_succ, List.getElem_cons_zero]); first | (go_simp; done) | (go_simp; with_reducible rfl))
              try simp only [Act.put, List.getElem_toArray, List.getElem_cons_succ, List.getElem_cons_zero, List.setIfInBounds_toArray, List.set_cons_zero, List.set_cons_succ]
              refine wpAnyH_take (i := 13) (v := ?_) rfl (by kernel_rfl) (by kernel_rfl) (by kernel_rfl) (fun _ _ _ h => h) (Or.inl ⟨by rfl, ?_⟩) (by assumption) ?_
              rotate_left
              · (intro w hSw; (try dsimp only at hSw); (try simp only [List.getElem_toArray, List.getElem_cons_succ, List.getElem_cons_zero]); first | (go_simp; done) | (go_simp; with_reducible rfl))
              try simp only [Act.put, List.getElem_toArray, List.getElem_cons_succ, List.getElem_cons_zero, List.setIfInBounds_toArray, List.set_cons_zero, List.set_cons_succ]
              refine wpAnyH_take (i := 14) (v := ?_) rfl (by kernel_rfl) (by kernel_rfl) (by kernel_rfl) (fun _ _ _ h => h) (Or.inl ⟨by rfl, ?_⟩) (by assumption) ?_
              rotate_left
              · (intro w hSw; (try dsimp only at hSw); (try simp only [List.getElem_toArray, List.getElem_cons_succ, List.getElem_cons_zero]); first | (go_simp; done) | (go_simp; with_reducible rfl))
              try simp only [Act.put, List.getElem_toArray, List.getElem_cons_succ, List.getElem_cons_zero, List.setIfInBounds_toArray, List.set_cons_zero, List.set_cons_succ]
              refine wpAnyH_take (i := 15) (v := ?_) rfl (by kernel_rfl) (by kernel_rfl) (by kernel_rfl) (fun _ _ _ h => h) (Or.inl ⟨by rfl, ?_⟩) (by assumption) ?_
              rotate_left
              · (intro w hSw; (try dsimp only at hSw); (try simp only [List.getElem_toArray, List.getElem_cons_succ, List.getElem_cons_zero]); first | (go_simp; done) | (go_simp; with_reducible rfl))
              try simp only [Act.put, List.getElem_toArray, List.getElem_cons_succ, List.getElem_cons_zero, List.setIfInBounds_toArray, List.set_cons_zero, List.set_cons_succ]
              refine wpAnyH_take (i := 16) (v := ?_) rfl (by kernel_rfl) (by kernel_rfl) (by kernel_rfl) (fun _ _ _ h => h) (Or.inl ⟨by rfl, ?_⟩) (by assumption) ?_
              rotate_left
              · (intro w hSw; (try dsimp only at hSw); (try simp only [List.getElem_toArray, List.getElem_cons_succ, List.getElem_cons_zero]); first | (go_simp; done) | (go_simp; with_reducible rfl))
              try simp only [Act.put, List.getElem_toArray, List.getElem_cons_succ, List.getElem_cons_zero, List.setIfInBounds_toArray, List.set_cons_zero, List.set_cons_succ]
              refine wpAnyH_take (i := 17) (v := ?_) rfl (by kernel_rfl) (by kernel_rfl) (by kernel_rfl) (fun _ _ _ h => h) (Or.inl ⟨by rfl, ?_⟩) (by assumption) ?_
              rotate_left
              · (intro w hSw; (try dsimp only at hSw); (try simp only [List.getElem_toArray, List.getElem_cons_succ, List.getElem_cons_zero]); first | (go_simp; done) | (go_simp; with_reducible rfl))
              try simp only [Act.put, List.getElem_toArray, List.getElem_cons_succ, List.getElem_cons_zero, List.setIfInBounds_toArray, List.set_cons_zero, List.set_cons_succ]
              refine wpAnyH_ready (rs := [18]) (by kernel_rfl) (by simp) ?_
              refine AllReadyH.cons rfl (fun K hK => ?_) AllReadyH.nil
              try simp only [List.getElem_toArray, List.getElem_cons_succ, List.getElem_cons_zero]
              go_simp
              go_at_call 18; refine (JoinsEnds_any nn 0 v A' c' ws _ (HRK.out.drewNR _) (HTK.out.drewNR _)).mono ?_; rintro e5 w5 ⟨rfl, hb5⟩; rw [HJV.out]; have g5 : Below wr.heap.size wr w5 := und hb5; have k5 := keep2 g5 ⟨b0, b1⟩ hz; have z5 := Nat.lt_of_lt_of_le hz g5.size; have r5 := Lib.hid (HRK.out.later g5); have t5 := Lib.hid (HTK.out.later g5)
              refine hK.out _ _ ?_ (fun hHeld => ?_)
              · exact k5
              clear hK K
              try simp only [Act.put, List.getElem_toArray, List.getElem_cons_succ, List.getElem_cons_zero, List.setIfInBounds_toArray, List.set_cons_zero, List.set_cons_succ]
              refine wpAnyH_take (i := 19) (v := ?_) rfl (by kernel_rfl) (by kernel_rfl) (by kernel_rfl) (fun _ _ _ h => h) (Or.inl ⟨by rfl, ?_⟩) (by assumption) ?_
              rotate_left
              · (intro w hSw; (try dsimp only at hSw); (try simp only [List.getElem_toArray, List.getElem_cons_succ, List.getElem_cons_zero]); first | (go_simp; done) | (go_simp; with_reducible rfl))
              try simp only [Act.put, List.getElem_toArray, List.getElem_cons_succ, List.getElem_cons_zero, List.setIfInBounds_toArray, List.set_cons_zero, List.set_cons_succ]
              refine wpAnyH_take (i := 20) (v := ?_) rfl (by kernel_rfl) (by kernel_rfl) (by kernel_rfl) (fun _ _ _ h => h) (Or.inl ⟨by rfl, ?_⟩) (by assumption) ?_
              rotate_left
              · (intro w hSw; (try dsimp only at hSw); (try simp only [List.getElem_toArray, List.getElem_cons_succ, List.getElem_cons_zero]); first | (go_simp; done) | (go_simp; with_reducible rfl))
              try simp only [Act.put, List.getElem_toArray, List.getElem_cons_succ, List.getElem_cons_zero, List.setIfInBounds_toArray, List.set_cons_zero, List.set_cons_succ]
              refine wpAnyH_take (i := 21) (v := ?_) rfl (by kernel_rfl) (by kernel_rfl) (by kernel_rfl) (fun _ _ _ h => h) (Or.inl ⟨by rfl, ?_⟩) (by assumption) ?_
              rotate_left
              · (intro w hSw; (try dsimp only at hSw); (try simp only [List.getElem_toArray, List.getElem_cons_succ, List.getElem_cons_zero]); first | (go_simp; done) | (go_simp; with_reducible rfl))
              try simp only [Act.put, List.getElem_toArray, List.getElem_cons_succ, List.getElem_cons_zero, List.setIfInBounds_toArray, List.set_cons_zero, List.set_cons_succ]
              refine wpAnyH_ready (rs := [22]) (by kernel_rfl) (by simp) ?_
              refine AllReadyH.cons rfl (fun K hK => ?_) AllReadyH.nil
              try simp only [List.getElem_toArray, List.getElem_cons_succ, List.getElem_cons_zero]
              go_simp
              go_at_call 18; refine (JoinsEnds_any nn 0 0 A' c' ws w5 r5.out t5.out).mono ?_; rintro e6 w6 ⟨rfl, hb6⟩; rw [HJ0.out]; have k6 := keep2 hb6 k5 z5; have z6 := Nat.lt_of_lt_of_le z5 hb6.size; have r6 := Lib.hid (r5.out.later hb6); have t6 := Lib.hid (t5.out.later hb6)
              refine hK.out _ _ ?_ (fun hHeld => ?_)
              · exact k6
              clear hK K
              try simp only [Act.put, List.getElem_toArray, List.getElem_cons_succ, List.getElem_cons_zero, List.setIfInBounds_toArray, List.set_cons_zero, List.set_cons_succ]
              refine wpAnyH_take (i := 23) (v := ?_) rfl (by kernel_rfl) (by kernel_rfl) (by kernel_rfl) (fun _ _ _ h => h) (Or.inl ⟨by rfl, ?_⟩) (by assumption) ?_
              rotate_left
              · (intro w hSw; (try dsimp only at hSw); (try simp only [List.getElem_toArray, List.getElem_cons_succ, List.getElem_cons_zero]); first | (go_simp; done) | (go_simp; with_reducible rfl))
              try simp only [Act.put, List.getElem_toArray, List.getElem_cons_succ, List.getElem_cons_zero, List.setIfInBounds_toArray, List.set_cons_zero, List.set_cons_succ]
              refine wpAnyH_take (i := 24) (v := ?_) rfl (by kernel_rfl) (by kernel_rfl) (by kernel_rfl) (fun _ _ _ h => h) (Or.inl ⟨by rfl, ?_⟩) (by assumption) ?_
              rotate_left
              · (intro w hSw; (try dsimp only at hSw); (try simp only [List.getElem_toArray, List.getElem_cons_succ, List.getElem_cons_zero]); first | (go_simp; done) | (go_simp; with_reducible rfl))
              try simp only [Act.put, List.getElem_toArray, List.getElem_cons_succ, List.getElem_cons_zero, List.setIfInBounds_toArray, List.set_cons_zero, List.set_cons_succ]
              refine wpAnyH_ready (rs := [25]) (by kernel_rfl) (by simp) ?_
              refine AllReadyH.cons rfl (fun K hK => ?_) AllReadyH.nil
              try simp only [List.getElem_toArray, List.getElem_cons_succ, List.getElem_cons_zero]
              go_simp
              go_at_call 22; refine (alive_any w6).mono ?_; rintro e7 w7 ⟨rfl, hb7⟩; have k7 := keep2 hb7 k6 z6; have z7 := Nat.lt_of_lt_of_le z6 hb7.size; have r7 := Lib.hid (r6.out.later hb7); have t7 := Lib.hid (t6.out.later hb7)
              refine hK.out _ _ ?_ (fun hHeld => ?_)
              · exact k7
              clear hK K
              try simp only [Act.put, List.getElem_toArray, List.getElem_cons_succ, List.getElem_cons_zero, List.setIfInBounds_toArray, List.set_cons_zero, List.set_cons_succ]
              refine wpAnyH_take (i := 26) (v := ?_) rfl (by kernel_rfl) (by kernel_rfl) (by kernel_rfl) (fun _ _ _ h => h) (Or.inl ⟨by rfl, ?_⟩) (by assumption) ?_
              rotate_left
              · (intro w hSw; (try dsimp only at hSw); (try simp only [List.getElem_toArray, List.getElem_cons_succ, List.getElem_cons_zero]); first | (go_simp; done) | (go_simp; with_reducible rfl))
              try simp only [Act.put, List.getElem_toArray, List.getElem_cons_succ, List.getElem_cons_zero, List.setIfInBounds_toArray, List.set_cons_zero, List.set_cons_succ]
              refine wpAnyH_take (i := 27) (v := ?_) rfl (by kernel_rfl) (by kernel_rfl) (by kernel_rfl) (fun _ _ _ h => h) (Or.inl ⟨by rfl, ?_⟩) (by assumption) ?_
              rotate_left
              · (intro w hSw; (try dsimp only at hSw); (try simp only [List.getElem_toArray, List.getElem_cons_succ, List.getElem_cons_zero]); first | (go_simp; done) | (go_simp; with_reducible rfl))
              try simp only [Act.put, List.getElem_toArray, List.getElem_cons_succ, List.getElem_cons_zero, List.setIfInBounds_toArray, List.set_cons_zero, List.set_cons_succ]
              refine wpAnyH_done (by kernel_rfl) ?_ _
              have HE := Lib.hid (bstep (bstep (bstep (B := wd.heap.size) (W := wd) HB0.out (Nat.le_of_lt hz) g5) (Nat.le_of_lt z5) hb6) (Nat.le_of_lt z6) hb7)
              clear hv hf1 hf2 hw1 hw2 hg1 hg2
              go_wp2_with fail
              go_ret
              exact ⟨rfl, bstep HBD.out hzd HE.out⟩
          case round =>
            clear k3
            obtain ⟨k, hk, rfl, b0, b1, hb, hz⟩ := hrel
            have HB0 := Lib.hid hb
            have HRK := Lib.hid (HRW.out.later hb)
            have HTK := Lib.hid (HTD.out.later hb)
            clear hb
            by_cases hlt : (k : Int) < nn
            · have hq0 : 0 ≤ ee / 2 ^ k := (div_pow_bd ee k he0).1
              have hq1 : (ee / 2 ^ k % 2 == 1) = bit ee k := bit_mod_nat ee k he0
              cases hbit : bit ee k
              · rw [hbit] at hq1
                clear hbit
                go_wp2_with fail
                go_roundw
                case rel => exact ⟨k + 1, by omega, by go_num, b0, b1, HB0.out, hz⟩
                case measure => simp [intOf]; omega
              · rw [hbit] at hq1
                have HJK := Lib.hid (HJA.out k hlt hbit)
                obtain ⟨hre, hre0, hre1⟩ := HRE.out k hlt
                have HREK := Lib.hid hre
                have hand : (bits .andNot .i64 ee (reach ws s (k : Int)) == 0) = true := by rw [bits_andNot _ _ he0 (by omega) hre0 (by omega), HJK.out, HJJ.out]
                clear hbit hre
                go_wp2_with fail
                refine (ReachOf_any nn s (k : Int) A' c' ws _ HRK.out).mono ?_
                rintro e w4 ⟨rfl, hb4⟩
                rw [HREK.out]
                have hk4 := keep2 hb4 ⟨b0, b1⟩ hz
                have z4 := Nat.lt_of_lt_of_le hz hb4.size
                have HB4 := Lib.hid (bstep (B := wd.heap.size) (W := wd) HB0.out (by omega) hb4)
                clear hb4
                go_wp2_with fail
                go_roundw
                case rel => exact ⟨k + 1, by omega, by go_num, hk4.1, hk4.2, HB4.out, z4⟩
                case measure => simp [intOf]; omega
            · have hv := HV.out
              have hf1 := HF1.out
              have hf2 := HF2.out
              have hw1 := HW1.out
              have hw2 := HW2.out
              have hg1 := HG1.out
              have hg2 := HG2.out
              have HJF := Lib.hid (HJFH.out HJJ.out)
              go_wp2_with fail
              refine wp_region_held_drew (S := (fun w' => w'.cell? ⟨wd.heap.size, 0, none⟩ = some (.int .i64 nn) ∧ w'.cell? ⟨wd.heap.size, 1, none⟩ = some (.slice A' ws.length c'))) (by kernel_rfl) ?_ (fun hHeld => ?_)
              · exact ⟨b0, b1⟩
              refine wpAnyH_take (i := 0) (v := ?_) rfl (by kernel_rfl) (by kernel_rfl) (by kernel_rfl) (fun _ _ _ h => h) (Or.inl ⟨by rfl, ?_⟩) (by assumption) ?_
              rotate_left
              · (intro w hSw; (try dsimp only at hSw); (try simp only [List.getElem_toArray, List.getElem_cons_succ, List.getElem_cons_zero]); first | (go_simp; done) | (go_simp; with_reducible rfl))
              try simp only [Act.put, List.getElem_toArray, List.getElem_cons_succ, List.getElem_cons_zero, List.setIfInBounds_toArray, List.set_cons_zero, List.set_cons_succ]
              refine wpAnyH_take (i := 1) (v := ?_) rfl (by kernel_rfl) (by kernel_rfl) (by kernel_rfl) (fun _ _ _ h => h) (Or.inl ⟨by rfl, ?_⟩) (by assumption) ?_
              rotate_left
              · (intro w hSw; (try dsimp only at hSw); (try simp only [List.getElem_toArray, List.getElem_cons_succ, List.getElem_cons_zero]); first | (go_simp; done) | (go_simp; with_reducible rfl))
              try simp only [Act.put, List.getElem_toArray, List.getElem_cons_succ, List.getElem_cons_zero, List.setIfInBounds_toArray, List.set_cons_zero, List.set_cons_succ]
              refine wpAnyH_take (i := 2) (v := ?_) rfl (by kernel_rfl) (by kernel_rfl) (by kernel_rfl) (fun _ _ _ h => h) (Or.inl ⟨by rfl, ?_⟩) (by assumption) ?_
              rotate_left
              · (intro w hSw; (try dsimp only at hSw); (try simp only [List.getElem_toArray, List.getElem_cons_succ, List.getElem_cons_zero]); first | (go_simp; done) | (go_simp; with_reducible rfl))
              try simp only [Act.put, List.getElem_toArray, List.getElem_cons_succ, List.getElem_cons_zero, List.setIfInBounds_toArray, List.set_cons_zero, List.set_cons_succ]
              refine wpAnyH_take (i := 3) (v := ?_) rfl (by kernel_rfl) (by kernel_rfl) (by kernel_rfl) (fun _ _ _ h => h) (Or.inl ⟨by rfl, ?_⟩) (by assumption) ?_
              rotate_left
              · (intro w hSw; (try dsimp only at hSw); (try simp only [List.getElem_toArray, List.getElem_cons_succ, List.getElem_cons_zero]); first | (go_simp; done) | (go_simp; with_reducible rfl))
              try simp only [Act.put, List.getElem_toArray, List.getElem_cons_succ, List.getElem_cons_zero, List.setIfInBounds_toArray, List.set_cons_zero, List.set_cons_succ]
              refine wpAnyH_take (i := 4) (v := ?_) rfl (by kernel_rfl) (by kernel_rfl) (by kernel_rfl) (fun _ _ _ h => h) (Or.inl ⟨by rfl, ?_⟩) (by assumption) ?_
              rotate_left
              · (intro w hSw; (try dsimp only at hSw); (try simp only [List.getElem_toArray, List.getElem_cons_succ, List.getElem_cons_zero]); first | (go_simp; done) | (go_simp; with_reducible rfl))
              try simp only [Act.put, List.getElem_toArray, List.getElem_cons_succ, List.getElem_cons_zero, List.setIfInBounds_toArray, List.set_cons_zero, List.set_cons_succ]
              refine wpAnyH_take (i := 5) (v := ?_) rfl (by kernel_rfl) (by kernel_rfl) (by kernel_rfl) (fun _ _ _ h => h) (Or.inl ⟨by rfl, ?_⟩) (by assumption) ?_
              rotate_left
              · (intro w hSw; (try dsimp only at hSw); (try simp only [List.getElem_toArray, List.getElem_cons_succ, List.getElem_cons_zero]); first | (go_simp; done) | (go_simp; with_reducible rfl))
              try simp only [Act.put, List.getElem_toArray, List.getElem_cons_succ, List.getElem_cons_zero, List.setIfInBounds_toArray, List.set_cons_zero, List.set_cons_succ]
              refine wpAnyH_take (i := 6) (v := ?_) rfl (by kernel_rfl) (by kernel_rfl) (by kernel_rfl) (fun _ _ _ h => h) (Or.inl ⟨by rfl, ?_⟩) (by assumption) ?_
              rotate_left
              · (intro w hSw; (try dsimp only at hSw); (try simp only [List.getElem_toArray, List.getElem_cons_succ, List.getElem_cons_zero]); first | (go_simp; done) | (go_simp; with_reducible rfl))
              try simp only [Act.put, List.getElem_toArray, List.getElem_cons_succ, List.getElem_cons_zero, List.setIfInBounds_toArray, List.set_cons_zero, List.set_cons_succ]
              refine wpAnyH_take (i := 7) (v := ?_) rfl (by kernel_rfl) (by kernel_rfl) (by kernel_rfl) (fun _ _ _ h => h) (Or.inl ⟨by rfl, ?_⟩) (by assumption) ?_
              rotate_left
              · (intro w hSw; (try dsimp only at hSw); (try simp only [List.getElem_toArray, List.getElem_cons_succ, List.getElem_cons_zero]); first | (go_simp; done) | (go_simp; with_reducible rfl))
              try simp only [Act.put, List.getElem_toArray, List.getElem_cons_succ, List.getElem_cons_zero, List.setIfInBounds_toArray, List.set_cons_zero, List.set_cons_succ]
              refine wpAnyH_take (i := 8) (v := ?_) rfl (by kernel_rfl) (by kernel_rfl) (by kernel_rfl) (fun _ _ _ h => h) (Or.inl ⟨by rfl, ?_⟩) (by assumption) ?_
              rotate_left
              · (intro w hSw; (try dsimp only at hSw); (try simp only [List.getElem_toArray, List.getElem_cons_succ, List.getElem_cons_zero]); first | (go_simp; done) | (go_simp; with_reducible rfl))
              try simp only [Act.put, List.getElem_toArray, List.getElem_cons_succ, List.getElem_cons_zero, List.setIfInBounds_toArray, List.set_cons_zero, List.set_cons_succ]
              refine wpAnyH_take (i := 9) (v := ?_) rfl (by kernel_rfl) (by kernel_rfl) (by kernel_rfl) (fun _ _ _ h => h) (Or.inl ⟨by rfl, ?_⟩) (by assumption) ?_
              rotate_left
              · (intro w hSw; (try dsimp only at hSw); (try simp only [List.getElem_toArray, List.getElem_cons_succ, List.getElem_cons_zero]); first | (go_simp; done) | (go_simp; with_reducible rfl))
              try simp only [Act.put, List.getElem_toArray, List.getElem_cons_succ, List.getElem_cons_zero, List.setIfInBounds_toArray, List.set_cons_zero, List.set_cons_succ]
              refine wpAnyH_ready (rs := [10]) (by kernel_rfl) (by simp) ?_
              refine AllReadyH.cons rfl (fun K hK => ?_) AllReadyH.nil
              try simp only [List.getElem_toArray, List.getElem_cons_succ, List.getElem_cons_zero]
              go_simp
              go_at_call 18; refine (JoinsEnds_any nn F ee A' c' ws _ (HRK.out.drewNR _) (HTK.out.drewNR _)).mono ?_; rintro e4 w4 ⟨rfl, hb4⟩; rw [HJF.out]; have g4 : Below wr.heap.size wr w4 := und hb4; have k4 := keep2 g4 ⟨b0, b1⟩ hz; have z4 := Nat.lt_of_lt_of_le hz g4.size; have r4 := Lib.hid (HRK.out.later g4); have t4 := Lib.hid (HTK.out.later g4)
              refine hK.out _ _ ?_ (fun hHeld => ?_)
              · exact k4
              clear hK K
              try simp only [Act.put, List.getElem_toArray, List.getElem_cons_succ, List.getElem_cons_zero, List.setIfInBounds_toArray, List.set_cons_zero, List.set_cons_succ]
              refine wpAnyH_take (i := 11) (v := ?_) rfl (by kernel_rfl) (by kernel_rfl) (by kernel_rfl) (fun _ _ _ h => h) (Or.inl ⟨by rfl, ?_⟩) (by assumption) ?_
              rotate_left
              · (intro w hSw; (try dsimp only at hSw); (try simp only [List.getElem_toArray, List.getElem_cons_succ, List.getElem_cons_zero]); first | (go_simp; done) | (go_simp; with_reducible rfl))
              try simp only [Act.put, List.getElem_toArray, List.getElem_cons_succ, List.getElem_cons_zero, List.setIfInBounds_toArray, List.set_cons_zero, List.set_cons_succ]
              refine wpAnyH_take (i := 12) (v := ?_) rfl (by kernel_rfl) (by kernel_rfl) (by kernel_rfl) (fun _ _ _ h => h) (Or.inl ⟨by rfl, ?_⟩) (by assumption) ?_
              rotate_left
              · (intro w hSw; (try dsimp only at hSw); (try simp only [List.getElem_toArray, List.getElem_cons_succ, List.getElem_cons_zero]); first | (go_simp; done) | (go_simp; with_reducible rfl))
              try simp only [Act.put, List.getElem_toArray, List.getElem_cons_succ, List.getElem_cons_zero, List.setIfInBounds_toArray, List.set_cons_zero, List.set_cons_succ]
              refine wpAnyH_take (i := 13) (v := ?_) rfl (by kernel_rfl) (by kernel_rfl) (by kernel_rfl) (fun _ _ _ h => h) (Or.inl ⟨by rfl, ?_⟩) (by assumption) ?_
              rotate_left
              · (intro w hSw; (try dsimp only at hSw); (try simp only [List.getElem_toArray, List.getElem_cons_succ, List.getElem_cons_zero]); first | (go_simp; done) | (go_simp; with_reducible rfl))
              try simp only [Act.put, List.getElem_toArray, List.getElem_cons_succ, List.getElem_cons_zero, List.setIfInBounds_toArray, List.set_cons_zero, List.set_cons_succ]
              refine wpAnyH_take (i := 14) (v := ?_) rfl (by kernel_rfl) (by kernel_rfl) (by kernel_rfl) (fun _ _ _ h => h) (Or.inl ⟨by rfl, ?_⟩) (by assumption) ?_
              rotate_left
              · (intro w hSw; (try dsimp only at hSw); (try simp only [List.getElem_toArray, List.getElem_cons_succ, List.getElem_cons_zero]); first | (go_simp; done) | (go_simp; with_reducible rfl))
              try simp only [Act.put, List.getElem_toArray, List.getElem_cons_succ, List.getElem_cons_zero, List.setIfInBounds_toArray, List.set_cons_zero, List.set_cons_succ]
              refine wpAnyH_take (i := 15) (v := ?_) rfl (by kernel_rfl) (by kernel_rfl) (by kernel_rfl) (fun _ _ _ h => h) (Or.inl ⟨by rfl, ?_⟩) (by assumption) ?_
              rotate_left
              · (intro w hSw; (try dsimp only at hSw); (try simp only [List.getElem_toArray, List.getElem_cons_succ, List.getElem_cons_zero]); first | (go_simp; done) | (go_simp; with_reducible rfl))
              try simp only [Act.put, List.getElem_toArray, List.getElem_cons_succ, List.getElem_cons_zero, List.setIfInBounds_toArray, List.set_cons_zero, List.set_cons_succ]
              refine wpAnyH_take (i := 16) (v := ?_) rfl (by kernel_rfl) (by kernel_rfl) (by kernel_rfl) (fun _ _ _ h => h) (Or.inl ⟨by rfl, ?_⟩) (by assumption) ?_
              rotate_left
              · (intro w hSw; (try dsimp only at hSw); (try simp only [List.getElem_toArray, List.getElem_cons_succ, List.getElem_cons_zero]); first | (go_simp; done) | (go_simp; with_reducible rfl))
              try simp only [Act.put, List.getElem_toArray, List.getElem_cons_succ, List.getElem_cons_zero, List.setIfInBounds_toArray, List.set_cons_zero, List.set_cons_succ]
              refine wpAnyH_take (i := 17) (v := ?_) rfl (by kernel_rfl) (by kernel_rfl) (by kernel_rfl) (fun _ _ _ h => h) (Or.inl ⟨by rfl, ?_⟩) (by assumption) ?_
              rotate_left
              · (intro w hSw; (try dsimp only at hSw); (try simp only [List.getElem_toArray, List.getElem_cons_succ, List.getElem_cons_zero]); first | (go_simp; done) | (go_simp; with_reducible rfl))
              try simp only [Act.put, List.getElem_toArray, List.getElem_cons_succ, List.getElem_cons_zero, List.setIfInBounds_toArray, List.set_cons_zero, List.set_cons_succ]
              refine wpAnyH_ready (rs := [18]) (by kernel_rfl) (by simp) ?_
              refine AllReadyH.cons rfl (fun K hK => ?_) AllReadyH.nil
              try simp only [List.getElem_toArray, List.getElem_cons_succ, List.getElem_cons_zero]
              go_simp
              go_at_call 18; refine (JoinsEnds_any nn 0 v A' c' ws w4 r4.out t4.out).mono ?_; rintro e5 w5 ⟨rfl, hb5⟩; rw [HJV.out]; have k5 := keep2 hb5 k4 z4; have z5 := Nat.lt_of_lt_of_le z4 hb5.size; have r5 := Lib.hid (r4.out.later hb5); have t5 := Lib.hid (t4.out.later hb5)
              refine hK.out _ _ ?_ (fun hHeld => ?_)
              · exact k5
              clear hK K
              try simp only [Act.put, List.getElem_toArray, List.getElem_cons_succ, List.getElem_cons_zero, List.setIfInBounds_toArray, List.set_cons_zero, List.set_cons_succ]
              refine wpAnyH_take (i := 19) (v := ?_) rfl (by kernel_rfl) (by kernel_rfl) (by kernel_rfl) (fun _ _ _ h => h) (Or.inl ⟨by rfl, ?_⟩) (by assumption) ?_
              rotate_left
              · (intro w hSw; (try dsimp only at hSw); (try simp only [List.getElem_toArray, List.getElem_cons_succ, List.getElem_cons_zero]); first | (go_simp; done) | (go_simp; with_reducible rfl))
              try simp only [Act.put, List.getElem_toArray, List.getElem_cons_succ, List.getElem_cons_zero, List.setIfInBounds_toArray, List.set_cons_zero, List.set_cons_succ]
              refine wpAnyH_take (i := 20) (v := ?_) rfl (by kernel_rfl) (by kernel_rfl) (by kernel_rfl) (fun _ _ _ h => h) (Or.inl ⟨by rfl, ?_⟩) (by assumption) ?_
              rotate_left
              · (intro w hSw; (try dsimp only at hSw); (try simp only [List.getElem_toArray, List.getElem_cons_succ, List.getElem_cons_zero]); first | (go_simp; done) | (go_simp; with_reducible rfl))
              try simp only [Act.put, List.getElem_toArray, List.getElem_cons_succ, List.getElem_cons_zero, List.setIfInBounds_toArray, List.set_cons_zero, List.set_cons_succ]
              refine wpAnyH_take (i := 21) (v := ?_) rfl (by kernel_rfl) (by kernel_rfl) (by kernel_rfl) (fun _ _ _ h => h) (Or.inl ⟨by rfl, ?_⟩) (by assumption) ?_
              rotate_left
              · (intro w hSw; (try dsimp only at hSw); (try simp only [List.getElem_toArray, List.getElem_cons_succ, List.getElem_cons_zero]); first | (go_simp; done) | (go_simp; with_reducible rfl))
              try simp only [Act.put, List.getElem_toArray, List.getElem_cons_succ, List.getElem_cons_zero, List.setIfInBounds_toArray, List.set_cons_zero, List.set_cons_succ]
              refine wpAnyH_ready (rs := [22]) (by kernel_rfl) (by simp) ?_
              refine AllReadyH.cons rfl (fun K hK => ?_) AllReadyH.nil
              try simp only [List.getElem_toArray, List.getElem_cons_succ, List.getElem_cons_zero]
              go_simp
              go_at_call 18; refine (JoinsEnds_any nn 0 0 A' c' ws w5 r5.out t5.out).mono ?_; rintro e6 w6 ⟨rfl, hb6⟩; rw [HJ0.out]; have k6 := keep2 hb6 k5 z5; have z6 := Nat.lt_of_lt_of_le z5 hb6.size; have r6 := Lib.hid (r5.out.later hb6); have t6 := Lib.hid (t5.out.later hb6)
              refine hK.out _ _ ?_ (fun hHeld => ?_)
              · exact k6
              clear hK K
              try simp only [Act.put, List.getElem_toArray, List.getElem_cons_succ, List.getElem_cons_zero, List.setIfInBounds_toArray, List.set_cons_zero, List.set_cons_succ]
              refine wpAnyH_take (i := 23) (v := ?_) rfl (by kernel_rfl) (by kernel_rfl) (by kernel_rfl) (fun _ _ _ h => h) (Or.inl ⟨by rfl, ?_⟩) (by assumption) ?_
              rotate_left
              · (intro w hSw; (try dsimp only at hSw); (try simp only [List.getElem_toArray, List.getElem_cons_succ, List.getElem_cons_zero]); first | (go_simp; done) | (go_simp; with_reducible rfl))
              try simp only [Act.put, List.getElem_toArray, List.getElem_cons_succ, List.getElem_cons_zero, List.setIfInBounds_toArray, List.set_cons_zero, List.set_cons_succ]
              refine wpAnyH_take (i := 24) (v := ?_) rfl (by kernel_rfl) (by kernel_rfl) (by kernel_rfl) (fun _ _ _ h => h) (Or.inl ⟨by rfl, ?_⟩) (by assumption) ?_
              rotate_left
              · (intro w hSw; (try dsimp only at hSw); (try simp only [List.getElem_toArray, List.getElem_cons_succ, List.getElem_cons_zero]); first | (go_simp; done) | (go_simp; with_reducible rfl))
              try simp only [Act.put, List.getElem_toArray, List.getElem_cons_succ, List.getElem_cons_zero, List.setIfInBounds_toArray, List.set_cons_zero, List.set_cons_succ]
              refine wpAnyH_ready (rs := [25]) (by kernel_rfl) (by simp) ?_
              refine AllReadyH.cons rfl (fun K hK => ?_) AllReadyH.nil
              try simp only [List.getElem_toArray, List.getElem_cons_succ, List.getElem_cons_zero]
              go_simp
              go_at_call 22; refine (alive_any w6).mono ?_; rintro e7 w7 ⟨rfl, hb7⟩; have k7 := keep2 hb7 k6 z6; have z7 := Nat.lt_of_lt_of_le z6 hb7.size; have r7 := Lib.hid (r6.out.later hb7); have t7 := Lib.hid (t6.out.later hb7)
              refine hK.out _ _ ?_ (fun hHeld => ?_)
              · exact k7
              clear hK K
              try simp only [Act.put, List.getElem_toArray, List.getElem_cons_succ, List.getElem_cons_zero, List.setIfInBounds_toArray, List.set_cons_zero, List.set_cons_succ]
              refine wpAnyH_take (i := 26) (v := ?_) rfl (by kernel_rfl) (by kernel_rfl) (by kernel_rfl) (fun _ _ _ h => h) (Or.inl ⟨by rfl, ?_⟩) (by assumption) ?_
              rotate_left
              · (intro w hSw; (try dsimp only at hSw); (try simp only [List.getElem_toArray, List.getElem_cons_succ, List.getElem_cons_zero]); first | (go_simp; done) | (go_simp; with_reducible rfl))
              try simp only [Act.put, List.getElem_toArray, List.getElem_cons_succ, List.getElem_cons_zero, List.setIfInBounds_toArray, List.set_cons_zero, List.set_cons_succ]
              refine wpAnyH_take (i := 27) (v := ?_) rfl (by kernel_rfl) (by kernel_rfl) (by kernel_rfl) (fun _ _ _ h => h) (Or.inl ⟨by rfl, ?_⟩) (by assumption) ?_
              rotate_left
              · (intro w hSw; (try dsimp only at hSw); (try simp only [List.getElem_toArray, List.getElem_cons_succ, List.getElem_cons_zero]); first | (go_simp; done) | (go_simp; with_reducible rfl))
              try simp only [Act.put, List.getElem_toArray, List.getElem_cons_succ, List.getElem_cons_zero, List.setIfInBounds_toArray, List.set_cons_zero, List.set_cons_succ]
              refine wpAnyH_done (by kernel_rfl) ?_ _
              have HE := Lib.hid (bstep (bstep (bstep (bstep (B := wd.heap.size) (W := wd) HB0.out (Nat.le_of_lt hz) g4) (Nat.le_of_lt z4) hb5) (Nat.le_of_lt z5) hb6) (Nat.le_of_lt z6) hb7)
              clear hv hf1 hf2 hw1 hw2 hg1 hg2
              go_wp2_with fail
              go_ret
              exact ⟨rfl, bstep HBD.out hzd HE.out⟩
end Go.Proofs.YtadhkfebokhbcaaDoor
