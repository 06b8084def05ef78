/- The law of the least tree and cuts: it has a cheapest way of each. -/
import Derived.Test.YtiioojjjpabaeaaDoorCuI
import Derived.Test.YtiioojjjpabaeaaDoorCuL
import Derived.Test.YtiioojjjpabaeaaDoorWC
import Derived.Test.YtiioojjjpabaeaaDoorMC
import Derived.Test.YtiioojjjpabaeaaDoorWCw
import Derived.Test.YtiioojjjpabaeaaDoorST
set_option linter.unusedSimpArgs false
set_option linter.unusedVariables false
attribute [local go_sem ↓] Go.wp_at_zero Go.wp_at_succ
namespace Go.Proofs.YtiioojjjpabaeaaDoor
open Go.ChangeShapes Go.WideShapes Go.ChangeAt Go.RowKit

set_option maxRecDepth 100000 in
set_option maxHeartbeats 2000000 in
theorem FnCutSpan_walk (A : Option Addr) (len cap : Nat) (w : World) (hr : RB w w.heap.size A len) (hc : len ≤ cap) (hlen : len ≤ 9223372036854775807) (hT : Tab w) :
    Calls Tryd.prog 5 #[.slice A len cap] w fun e w' => e = .returned (.bool true) ∧ Below w.heap.size w w' := by
  have HR := Lib.hid hr
  have HT := Lib.hid hT
  clear hT
  clear hr
  by_cases hm : 1048576 < len
  · go_enter Tryd.func5, Tryd.ntmps5
    go_wp2_with fail
    go_ret
    exact ⟨rfl, Below.refl _ _⟩
  · go_enter Tryd.func5, Tryd.ntmps5
    go_wp2_with fail
    refine (DrawCutWays_any A len cap _ HR.out hc (by omega)).mono ?_
    rintro e wd ⟨nn, P, A', c', ws, rfl, hrw, hl10, hcc, hn0, hn7, hp0, hp1, hbd⟩
    have HRW := Lib.hid hrw
    have HBD := Lib.hid hbd
    have HTD := Lib.hid (HT.out.later hbd)
    have hzd : w.heap.size ≤ wd.heap.size := hbd.size
    clear hrw hbd
    have htb := spanTreeOf_bd nn ws
    have hcb0 : -1 ≤ cutWays nn ws P := by
      have := cw_bd ws P
      unfold cutWays
      split <;> omega
    by_cases hgo : 0 < cutWays nn ws P ∧ 0 ≤ spanTreeOf nn ws
    · obtain ⟨m, rfl⟩ : ∃ m : Nat, nn = m := ⟨nn.toNat, by omega⟩
      have hok : netOk (m : Int) ws = true ∧ plOk (m : Int) P = true := by
        cases h9 : netOk (m : Int) ws && plOk (m : Int) P
        · rw [cutWays_no h9] at hgo; omega
        · simpa using h9
      obtain ⟨hnt, hpl⟩ := hok
      have hni := netOk_t hnt
      have hl9 := hni.len
      have hcw := cutWays_is hnt hpl
      have htr : spanTreeOf (m : Int) ws = span ws (allPl (m : Int)) := by
        have h9 := hgo.2
        unfold spanTreeOf at h9 ⊢
        rw [hnt] at h9 ⊢
        simp only [if_true] at h9 ⊢
        split
        · rfl
        · rename_i h8; rw [if_neg h8] at h9; omega
      rw [hcw, htr] at hgo
      have hsc := span_cheapest (P := P) hnt hgo.1
      have hcb := cw_bd ws P
      have hsb := span_bd ws (allPl (m : Int))
      have hfb := full_bd ws.length hl9
      have HX : Hid (∀ (k : Nat) (x : Wy), ws[k]? = some x → 0 ≤ x.c ∧ x.c ≤ 9) := fun k x hx => by have := hni.at_ hx; omega
      obtain ⟨N, hN⟩ : ∃ N, cw ws P = N := ⟨_, rfl⟩
      obtain ⟨t, ht⟩ : ∃ t, span ws (allPl (m : Int)) = t := ⟨_, rfl⟩
      rw [hN] at hcw hsc hcb hgo
      rw [ht] at htr hsc hsb hgo
      obtain ⟨n1, t0⟩ := hgo
      have HN := Lib.hid hcw
      have HT9 := Lib.hid htr
      have HSC := Lib.hid hsc
      have hNn : ¬ N ≤ 0 := by omega
      have htn : ¬ t < 0 := by omega
      have n0 : 0 ≤ N := by omega
      clear htb hcb0 hnt hpl hni hcw htr hsc hN ht hfb
      go_wp2_with fail
      refine (CutWays_any _ _ _ _ _ _ (HRW.out.later (by go_grown))).mono ?_; rintro e w1 ⟨rfl, hb1⟩
      rw [HN.out]
      obtain ⟨hc1, hf1⟩ := bcell hb1
      have hz1_0 : wd.heap.size < w1.heap.size := by have hq := hb1.size; (try simp at hq); omega
      have HK1 := Lib.hid hb1
      have HB1 := Lib.hid (bstep (B := wd.heap.size) (W := wd) (by (try have hp := HB0.out); go_grown) (by go_size) hb1); clear hb1
      go_wp2_with fail
      refine (SpanTree_any _ _ _ _ _ (HRW.out.later (by have := HB1.out; go_grown)) (HTD.out.later (by have := HB1.out; go_grown))).mono ?_; rintro e w2 ⟨rfl, hb2⟩
      rw [HT9.out]
      obtain ⟨hc2, hf2⟩ := bcell hb2
      have hz2_0 : wd.heap.size < w2.heap.size := by have hq := hb2.size; (try simp at hq); omega
      have HK2 := Lib.hid hb2
      have HB2 := Lib.hid (bstep (B := wd.heap.size) (W := wd) (by have hp := HB1.out; go_grown) (by go_size) hb2); clear hb2
      have k2 : w2.cell? ⟨wd.heap.size, 0, none⟩ = some (.int .i64 m) ∧ w2.cell? ⟨wd.heap.size, 1, none⟩ = some (.slice A' ws.length c') := ⟨by go_simp, by go_simp⟩
      clear hc1 hf1 hc2 hf2
      obtain ⟨k20, k21⟩ := k2
      go_wp2_with fail
      go_loopw [7, 8, 9] (fun a b i wr => ∃ k : Nat, k ≤ ws.length ∧ a = .int .i64 (mnP ws (fun k => bit N k) k) ∧ b = .int .i64 (mnP ws (fun k => bit N k && bit t k) k) ∧ i = .int .i64 k ∧ wr.cell? ⟨wd.heap.size, 0, none⟩ = some (.int .i64 m) ∧ wr.cell? ⟨wd.heap.size, 1, none⟩ = some (.slice A' ws.length c') ∧ Below wd.heap.size wd wr ∧ wd.heap.size < wr.heap.size) (fun _ _ i _ => ws.length - (intOf i).toNat)
      case atStart => exact ⟨0, Nat.zero_le _, rfl, rfl, rfl, k20, k21, HB2.out, hz2_0⟩
      case round =>
        clear k20 k21 HB1 HB2 HK1 HK2
        obtain ⟨k, hk, rfl, rfl, rfl, b0, b1, hb, hz⟩ := hrel
        have HB0 := Lib.hid hb
        have hk0 : (0 : Int) ≤ (k : Int) := by omega
        have hk60 : (k : Int) ≤ 60 := by omega
        by_cases hlk : k < ws.length
        · have hk1 : (k : Int) < (ws.length : Int) := by omega
          obtain ⟨x, hx⟩ : ∃ x, ws[k]? = some x := ⟨_, List.getElem?_eq_getElem hlk⟩
          obtain ⟨b, o, rfl, hB, c0, c1, c2⟩ := (HRW.out.later hb) k x hx
          have hqn := (div_pow_bd N k n0).1
          have hqt := (div_pow_bd t k t0).1
          have hxc := HX.out k x hx
          cases hbn : bit N (k : Int)
          · have hz1 := bit_zero (i := (k : Int)) hk0 n0 hbn
            rw [Int.toNat_natCast] at hz1
            have d1 : (N / 2 ^ k % 2 == 1) = false := by rw [hz1.1]; rfl
            have d2 : ((N / 2 ^ k).tmod 2 == 1) = false := by rw [hz1.2]; rfl
            have HS1 := Lib.hid (mnP_no (p := fun k => bit N k) hx hbn)
            have HS2 : Hid (mnP ws (fun k => bit N k && bit t k) (k + 1) = mnP ws (fun k => bit N k && bit t k) k) := mnP_no hx (by show (bit N (k : Int) && bit t (k : Int)) = false; rw [hbn]; rfl)
            clear hz1 hbn hx hb hxc
            go_wp2_with fail
            go_roundw
            case rel => exact ⟨k + 1, by omega, by rw [HS1.out], by rw [HS2.out], by go_num, b0, b1, ⟨HB0.out.os, HB0.out.tape, HB0.out.output, HB0.out.size, HB0.out.block⟩, hz⟩
            case measure => (simp [intOf]) <;> omega
          · have hz1 := bit_one (i := (k : Int)) hk0 n0 hbn
            rw [Int.toNat_natCast] at hz1
            have d1 : (N / 2 ^ k % 2 == 1) = true := by rw [hz1.1]; rfl
            have d2 : ((N / 2 ^ k).tmod 2 == 1) = true := by rw [hz1.2]; rfl
            have hs1 := mnP_yes (p := fun k => bit N k) hx hbn
            obtain ⟨u, hu⟩ : ∃ u, mnP ws (fun k => bit N k) k = u := ⟨_, rfl⟩
            rw [hu] at hs1 ⊢
            have HS1 := Lib.hid hs1
            cases hbt : bit t (k : Int)
            · have hz2 := bit_zero (i := (k : Int)) hk0 t0 hbt
              rw [Int.toNat_natCast] at hz2
              have d3 : (t / 2 ^ k % 2 == 1) = false := by rw [hz2.1]; rfl
              have d4 : ((t / 2 ^ k).tmod 2 == 1) = false := by rw [hz2.2]; rfl
              have HS2 : Hid (mnP ws (fun k => bit N k && bit t k) (k + 1) = mnP ws (fun k => bit N k && bit t k) k) := mnP_no hx (by show (bit N (k : Int) && bit t (k : Int)) = false; rw [hbt, Bool.and_false])
              clear hz1 hz2 hbn hbt hx hb hs1 hu hxc
              go_wp2_with fail
              go_roundw
              case rel => exact ⟨k + 1, by omega, by rw [HS1.out], by rw [HS2.out], by go_num, b0, b1, ⟨HB0.out.os, HB0.out.tape, HB0.out.output, HB0.out.size, HB0.out.block⟩, hz⟩
              case measure => (simp [intOf]) <;> omega
            · have hz2 := bit_one (i := (k : Int)) hk0 t0 hbt
              rw [Int.toNat_natCast] at hz2
              have d3 : (t / 2 ^ k % 2 == 1) = true := by rw [hz2.1]; rfl
              have d4 : ((t / 2 ^ k).tmod 2 == 1) = true := by rw [hz2.2]; rfl
              have hs2 : mnP ws (fun k => bit N k && bit t k) (k + 1) = min (mnP ws (fun k => bit N k && bit t k) k) x.c := mnP_yes hx (by show (bit N (k : Int) && bit t (k : Int)) = true; rw [hbn, hbt]; rfl)
              obtain ⟨v, hv⟩ : ∃ v, mnP ws (fun k => bit N k && bit t k) k = v := ⟨_, rfl⟩
              rw [hv] at hs2 ⊢
              have HS2 := Lib.hid hs2
              clear hz1 hz2 hbn hbt hx hb hs1 hu hs2 hv hxc
              go_wp2_with fail
              go_roundw
              case rel => exact ⟨k + 1, by omega, by rw [HS1.out], by rw [HS2.out], by go_num, b0, b1, ⟨HB0.out.os, HB0.out.tape, HB0.out.output, HB0.out.size, HB0.out.block⟩, hz⟩
              case measure => (simp [intOf]) <;> omega
        · obtain rfl : k = ws.length := by omega
          obtain ⟨h8, h9⟩ := HSC.out
          rw [h8] at h9 ⊢
          obtain ⟨u, hu⟩ : ∃ u, mnP ws (fun k => bit N k) ws.length = u := ⟨_, rfl⟩
          rw [hu] at h9 ⊢
          have hd : decide (u ≤ 9) = true := by simpa using h9
          clear h8 hu hb
          go_wp2_with fail
          refine (alive_any _).mono ?_; rintro e5 w5 ⟨rfl, hb5⟩
          have HB5 := Lib.hid (bstep (B := wd.heap.size) (W := wd) HB0.out (Nat.le_of_lt hz) hb5)
          clear hb5
          go_wp2_with fail
          go_ret
          exact ⟨rfl, bstep HBD.out hzd HB5.out⟩
    · obtain ⟨N, hN⟩ : ∃ N, cutWays nn ws P = N := ⟨_, rfl⟩
      obtain ⟨t, ht⟩ : ∃ t, spanTreeOf nn ws = t := ⟨_, rfl⟩
      rw [hN] at hgo hcb0
      rw [ht] at hgo htb
      have HN := Lib.hid hN
      have HT9 := Lib.hid ht
      have hd1 : decide (-1 ≤ N) = true := by simpa using hcb0
      have hd2 : decide (-1 ≤ t) = true := by simpa using htb.1
      clear hN ht
      by_cases hn1 : N ≤ 0
      · have hd3 : decide (N ≤ 0) = true := by simpa using hn1
        go_wp2_with fail
        refine (CutWays_any _ _ _ _ _ _ (HRW.out.later (by go_grown))).mono ?_; rintro e w1 ⟨rfl, hb1⟩
        rw [HN.out]
        obtain ⟨hc1, hf1⟩ := bcell hb1
        have hz1_0 : wd.heap.size < w1.heap.size := by have hq := hb1.size; (try simp at hq); omega
        have HK1 := Lib.hid hb1
        have HB1 := Lib.hid (bstep (B := wd.heap.size) (W := wd) (by (try have hp := HB0.out); go_grown) (by go_size) hb1); clear hb1
        go_wp2_with fail
        refine (SpanTree_any _ _ _ _ _ (HRW.out.later (by have := HB1.out; go_grown)) (HTD.out.later (by have := HB1.out; go_grown))).mono ?_; rintro e w2 ⟨rfl, hb2⟩
        rw [HT9.out]
        obtain ⟨hc2, hf2⟩ := bcell hb2
        have hz2_0 : wd.heap.size < w2.heap.size := by have hq := hb2.size; (try simp at hq); omega
        have HK2 := Lib.hid hb2
        have HB2 := Lib.hid (bstep (B := wd.heap.size) (W := wd) (by have hp := HB1.out; go_grown) (by go_size) hb2); clear hb2
        go_wp2_with fail
        refine (alive_any _).mono ?_; rintro e w3 ⟨rfl, hb3⟩
        obtain ⟨hc3, hf3⟩ := bcell hb3
        have hz3_0 : wd.heap.size < w3.heap.size := by have hq := hb3.size; (try simp at hq); omega
        have HK3 := Lib.hid hb3
        have HB3 := Lib.hid (bstep (B := wd.heap.size) (W := wd) (by have hp := HB2.out; go_grown) (by go_size) hb3); clear hb3
        go_wp2_with fail
        go_ret
        exact ⟨rfl, bstep HBD.out hzd HB3.out⟩
      · have hd3 : decide (N ≤ 0) = false := by simpa using hn1
        have hd4 : decide (t < 0) = true := by simp; omega
        go_wp2_with fail
        refine (CutWays_any _ _ _ _ _ _ (HRW.out.later (by go_grown))).mono ?_; rintro e w1 ⟨rfl, hb1⟩
        rw [HN.out]
        obtain ⟨hc1, hf1⟩ := bcell hb1
        have hz1_0 : wd.heap.size < w1.heap.size := by have hq := hb1.size; (try simp at hq); omega
        have HK1 := Lib.hid hb1
        have HB1 := Lib.hid (bstep (B := wd.heap.size) (W := wd) (by (try have hp := HB0.out); go_grown) (by go_size) hb1); clear hb1
        go_wp2_with fail
        refine (SpanTree_any _ _ _ _ _ (HRW.out.later (by have := HB1.out; go_grown)) (HTD.out.later (by have := HB1.out; go_grown))).mono ?_; rintro e w2 ⟨rfl, hb2⟩
        rw [HT9.out]
        obtain ⟨hc2, hf2⟩ := bcell hb2
        have hz2_0 : wd.heap.size < w2.heap.size := by have hq := hb2.size; (try simp at hq); omega
        have HK2 := Lib.hid hb2
        have HB2 := Lib.hid (bstep (B := wd.heap.size) (W := wd) (by have hp := HB1.out; go_grown) (by go_size) hb2); clear hb2
        go_wp2_with fail
        refine (alive_any _).mono ?_; rintro e w3 ⟨rfl, hb3⟩
        obtain ⟨hc3, hf3⟩ := bcell hb3
        have hz3_0 : wd.heap.size < w3.heap.size := by have hq := hb3.size; (try simp at hq); omega
        have HK3 := Lib.hid hb3
        have HB3 := Lib.hid (bstep (B := wd.heap.size) (W := wd) (by have hp := HB2.out; go_grown) (by go_size) hb3); clear hb3
        go_wp2_with fail
        go_ret
        exact ⟨rfl, bstep HBD.out hzd HB3.out⟩
end Go.Proofs.YtiioojjjpabaeaaDoor
