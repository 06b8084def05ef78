/- FnReachOf: its walk. -/
import Derived.Test.YtadhkfebokhbcabWK
import Derived.Test.YtadhkfebokhbcabWS
import Derived.Test.YtadhkfebokhbcabReach2
import Derived.Test.YtadhkfebokhbcabLO
set_option linter.unusedSimpArgs false
set_option linter.unusedVariables false
namespace Go.Proofs.Ytadhkfebokhbcab
open Go.ChangeShapes Go.WideShapes Go.ChangeAt Go.RowKit

set_option maxHeartbeats 4000000 in
theorem FnReachOf_walk (A : Option Addr) (len cap : Nat) (w : World) (hr : RB w w.heap.size A len) (hc : len ≤ cap) (hlen : len ≤ 9223372036854775807) :
    Calls Try.prog 3 #[.slice A len cap] w fun e w' => e = .returned (.bool true) ∧ Below w.heap.size w w' := by
  have HR := Lib.hid hr
  clear hr
  by_cases hm : 1048576 < len
  · go_enter Try.func3, Try.ntmps3
    go_wp2_with fail
    go_ret
    exact ⟨rfl, Below.refl _ _⟩
  · go_enter Try.func3, Try.ntmps3
    go_wp2_with fail
    refine (DrawReachOf_any A len cap _ HR.out hc (by omega)).mono ?_
    rintro e wd ⟨nn, s, p, A', c', ws, rfl, hrw, hl10, hcc, hn0, hn7, hs0, hs1, hp0, hp1, hbd⟩
    have HRW := Lib.hid hrw
    have HBD := Lib.hid hbd
    have hzd : w.heap.size ≤ wd.heap.size := hbd.size
    clear hrw hbd
    go_wp2_with fail
    refine (ReachOf_any _ _ _ _ _ _ _ (HRW.out.later (by go_grown))).mono ?_; rintro e w1 ⟨rfl, hb1⟩
    obtain ⟨hc1, hf1⟩ := bcell hb1
    have hz1_0 : wd.heap.size < w1.heap.size := by have hq := hb1.size; (try simp at hq); omega
    have HK1 := Lib.hid hb1
    have HB1 := Lib.hid (bstep (B := wd.heap.size) (W := wd) (by (try have hp := HB0.out); go_grown) (by go_size) hb1); clear hb1
    go_wp2_with fail
    refine (sReachOf_any _ _ _ _ _ _ _ (HRW.out.later (by have := HB1.out; go_grown)) (by omega)).mono ?_; rintro e w2 ⟨rfl, hb2⟩
    obtain ⟨hc2, hf2⟩ := bcell hb2
    have hz2_0 : wd.heap.size < w2.heap.size := by have hq := hb2.size; (try simp at hq); omega
    have HK2 := Lib.hid hb2
    have HB2 := Lib.hid (bstep (B := wd.heap.size) (W := wd) (by have hp := HB1.out; go_grown) (by go_size) hb2); clear hb2
    by_cases hok : setOk nn ws s = true ∧ hasPl nn p = true
    · have hcs : reachOf nn ws s p = reach ws s p := by unfold reachOf; rw [if_pos hok]
      obtain ⟨hso, hpl⟩ := hok
      obtain ⟨hni, _, hsf, hs511⟩ := setOk_t hso
      have HSO := Lib.hid hso
      have HNI := Lib.hid hni
      have hpn := (hasPl_t hpl).2
      have hl9 := hni.len
      have hn6 := hni.hi
      have HRI := Lib.hid (reach_is (s := s) hni hp0 hpn)
      obtain ⟨r, hrr⟩ : ∃ r, reach ws s p = r := ⟨_, rfl⟩
      have HRR := Lib.hid hrr
      have hr0 := HRI.out.lo
      have hr1 := HRI.out.hi
      have hrp := HRI.out.has
      rw [hrr] at hr0 hr1 hrp
      have hp2 : (r / 2 ^ p.toNat % 2 == 1) = true := by rw [bit_mod r p hp0 hr0]; exact hrp
      have hp3 : 0 ≤ r / 2 ^ p.toNat := (div_pow_bd r p.toNat hr0).1
      rw [hcs, hrr]
      have k2 : w2.cell? ⟨wd.heap.size, 0, none⟩ = some (.int .i64 nn) ∧ w2.cell? ⟨wd.heap.size, 1, none⟩ = some (.slice A' ws.length c') := ⟨by go_simp, by go_simp⟩
      have HP2 := Lib.hid hp2
      clear hso hni hcs hrr hpl hrp hp2 hc1 hf1 hc2 hf2
      go_wp2_with fail
      go_loopw [7] (fun c wr => ∃ k : Nat, (k : Int) ≤ nn ∧ c = .int .i64 k ∧ wr.cell? ⟨wd.heap.size, 0, none⟩ = some (.int .i64 nn) ∧ wr.cell? ⟨wd.heap.size, 1, none⟩ = some (.slice A' ws.length c') ∧ Below wd.heap.size wd wr ∧ wd.heap.size < wr.heap.size) (fun c _ => nn.toNat - (intOf c).toNat)
      case atStart => exact ⟨0, by omega, rfl, k2.1, k2.2, HB2.out, hz2_0⟩
      case round =>
        clear k2
        obtain ⟨k, hk, rfl, b0, b1, hb, hz⟩ := hrel
        have HB0 := Lib.hid hb
        by_cases hlt : (k : Int) < nn
        · have hq0 : 0 ≤ r / 2 ^ k := (div_pow_bd r k hr0).1
          have hq1 : (r / 2 ^ k % 2 == 1) = bit r k := bit_mod_nat r k hr0
          clear hb
          cases hbit : bit r k
          · rw [hbit] at hq1
            clear hbit
            go_wp2_with fail
            go_roundw
            case rel => exact ⟨k + 1, by omega, by go_num, b0, b1, HB0.out, hz⟩
            case measure => simp [intOf]; omega
          · rw [hbit] at hq1
            have HK : Hid (reachOf nn ws s (k : Int) = r) := by
              show reachOf nn ws s (k : Int) = r
              have hpk : hasPl nn (k : Int) = true := by unfold hasPl; simp; omega
              unfold reachOf
              rw [if_pos ⟨HSO.out, hpk⟩, reach_back (s := s) HNI.out hp0 hpn (by omega) (by rw [HRR.out]; exact hbit), HRR.out]
            clear hbit
            go_wp2_with fail
            refine (ReachOf_any nn s (k : Int) A' c' ws _ (HRW.out.later (by have := HB0.out; go_grown))).mono ?_
            rintro e w3 ⟨rfl, hb3⟩
            rw [HK.out]
            have hz3 : wd.heap.size < w3.heap.size := by have hq := hb3.size; (try simp at hq); omega
            have hk3 := keep2 hb3 ⟨b0, b1⟩ (by simpa using hz)
            have HB3 := Lib.hid (bstep (B := wd.heap.size) (W := wd) (by have := HB0.out; go_grown) (by go_size) hb3)
            clear hb3
            go_wp2_with fail
            go_roundw
            case rel => exact ⟨k + 1, by omega, by go_num, hk3.1, hk3.2, HB3.out, hz3⟩
            case measure => simp [intOf]; omega
        · clear hb
          go_wp2_with fail
          go_loopw [8] (fun c wr => ∃ k : Nat, k ≤ ws.length ∧ c = .int .i64 k ∧ wr.cell? ⟨wd.heap.size, 0, none⟩ = some (.int .i64 nn) ∧ wr.cell? ⟨wd.heap.size, 1, none⟩ = some (.slice A' ws.length c') ∧ Below wd.heap.size wd wr ∧ wd.heap.size < wr.heap.size) (fun c _ => ws.length - (intOf c).toNat)
          case atStart => exact ⟨0, Nat.zero_le _, rfl, b0, b1, HB0.out, hz⟩
          case round =>
            clear b0 b1 hk hlt hz HB0
            obtain ⟨k, hk, rfl, b0, b1, hb, hz⟩ := hrel
            have HB0 := Lib.hid hb
            by_cases hlt : k < ws.length
            · obtain ⟨x, hx⟩ : ∃ x, ws[k]? = some x := ⟨_, List.getElem?_eq_getElem hlt⟩
              obtain ⟨b, o, rfl, hB, c0, c1, c2⟩ := HRW.out.below hb k x hx
              have hxa := HNI.out.at_ hx
              have ha0 : 0 ≤ x.a := by omega
              have ha1 : x.a ≤ 5 := by omega
              have hb0' : 0 ≤ x.b := by omega
              have hb5 : x.b ≤ 5 := by omega
              have hq0 : 0 ≤ s / 2 ^ k := (div_pow_bd s k hs0).1
              have hqa : 0 ≤ r / 2 ^ x.a.toNat := (div_pow_bd r x.a.toNat hr0).1
              have hqb : 0 ≤ r / 2 ^ x.b.toNat := (div_pow_bd r x.b.toNat hr0).1
              have hq1 : (s / 2 ^ k % 2 == 1) = bit s k := bit_mod_nat s k hs0
              have hcl : bit s k = true → bit r x.a = bit r x.b := fun hbs => by
                have := HRI.out.closed k x hx hbs
                rwa [HRR.out] at this
              clear hb hx hxa
              cases hbit : bit s k
              · rw [hbit] at hq1
                clear hbit hcl
                go_wp2_with fail
                go_quiet (fail)
                go_wp2_with fail
                go_roundw
                case rel => exact ⟨k + 1, by omega, by go_num, b0, b1, below_drewN HB0.out _, hz⟩
                case measure => simp [intOf]; omega
              · have hd := hcl hbit
                rw [hbit] at hq1
                have hsame : r / 2 ^ x.a.toNat % 2 = r / 2 ^ x.b.toNat % 2 ∧ (r / 2 ^ x.a.toNat).tmod 2 = (r / 2 ^ x.b.toNat).tmod 2 := by
                  cases h1 : bit r x.a
                  · have h1' := bit_zero ha0 hr0 h1
                    have h2' := bit_zero hb0' hr0 (hd ▸ h1)
                    exact ⟨h1'.1.trans h2'.1.symm, h1'.2.trans h2'.2.symm⟩
                  · have h1' := bit_one ha0 hr0 h1
                    have h2' := bit_one hb0' hr0 (hd ▸ h1)
                    exact ⟨h1'.1.trans h2'.1.symm, h1'.2.trans h2'.2.symm⟩
                obtain ⟨hsm, hst⟩ := hsame
                clear hbit hd hcl
                go_wp2_with fail
                go_quiet (fail)
                go_wp2_with fail
                go_roundw
                case rel => exact ⟨k + 1, by omega, by go_num, b0, b1, below_drewN HB0.out _, hz⟩
                case measure => simp [intOf]; omega
            · clear hb
              have hp2 := HP2.out
              go_wp2_with fail
              go_ret
              exact ⟨rfl, bstep HBD.out hzd HB0.out⟩
    · have hcs : reachOf nn ws s p = -1 := by unfold reachOf; rw [if_neg hok]
      rw [hcs]
      clear hcs hok
      go_wp2_with fail
      refine (alive_any _).mono ?_; rintro e w3 ⟨rfl, hb3⟩
      obtain ⟨hc3, hf3⟩ := bcell hb3
      have hz3_0 : wd.heap.size < w3.heap.size := by have hq := hb3.size; (try simp at hq); omega
      have HK3 := Lib.hid hb3
      have HB3 := Lib.hid (bstep (B := wd.heap.size) (W := wd) (by have hp := HB2.out; go_grown) (by go_size) hb3); clear hb3
      go_wp2_with fail
      go_ret
      exact ⟨rfl, bstep HBD.out hzd HB3.out⟩
end Go.Proofs.Ytadhkfebokhbcab
