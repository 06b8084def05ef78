/- Walks of the laws FnMustMay, FnMustWays. -/
import Derived.Test.YtcfendmhhhggeaaDoorDwI
import Derived.Test.YtcfendmhhhggeaaDoorDwL
import Derived.Test.YtcfendmhhhggeaaDoorDwD
import Derived.Test.YtcfendmhhhggeaaDoorDwE
import Derived.Test.YtcfendmhhhggeaaDoorRH
import Derived.Test.YtcfendmhhhggeaaDoorWC
import Derived.Test.YtcfendmhhhggeaaDoorMC
import Derived.Test.YtcfendmhhhggeaaDoorME
import Derived.Test.YtcfendmhhhggeaaDoorWBa
set_option linter.unusedSimpArgs false
set_option linter.unusedVariables false
attribute [local go_sem ↓] Go.wp_at_zero Go.wp_at_succ
namespace Go.Proofs.YtcfendmhhhggeaaDoor
open Go.ChangeShapes Go.WideShapes Go.ChangeAt Go.RowKit

set_option maxRecDepth 100000 in
set_option maxHeartbeats 2000000 in
theorem FnMustMay_walk (A : Option Addr) (len cap : Nat) (w : World) (hr : RB w w.heap.size A len) (hc : len ≤ cap) (hlen : len ≤ 9223372036854775807) (hT : Tab w) :
    Calls Tryd.prog 8 #[.slice A len cap] w fun e w' => e = .returned (.bool true) ∧ Below w.heap.size w w' := by
  have HR := Lib.hid hr
  have HT := Lib.hid hT
  clear hT
  clear hr
  by_cases hm : 1048576 < len
  · go_enter Tryd.func8, Tryd.ntmps8
    go_wp2_with fail
    go_ret
    exact ⟨rfl, Below.refl _ _⟩
  · go_enter Tryd.func8, Tryd.ntmps8
    go_wp2_with fail
    refine (DrawMayWays_any A len cap _ HR.out hc (by omega)).mono ?_
    rintro e wd ⟨nn, ee, A', c', ws, rfl, hrw, hl10, hcc, hn0, hn7, hs0, hs1, hbd⟩
    have HRW := Lib.hid hrw
    have HBD := Lib.hid hbd
    have HTD := Lib.hid (HT.out.later hbd)
    have hzd : w.heap.size ≤ wd.heap.size := hbd.size
    clear hrw hbd
    obtain ⟨RO, hRO⟩ : ∃ x, rootOf nn ws ee = x := ⟨_, rfl⟩
    have HRO := Lib.hid hRO
    obtain ⟨MU, hMU⟩ : ∃ x, mustWays nn ws ee = x := ⟨_, rfl⟩
    have HMU := Lib.hid hMU
    obtain ⟨MY, hMY⟩ : ∃ x, mayWays nn ws ee = x := ⟨_, rfl⟩
    have HMY := Lib.hid hMY
    by_cases hneg : RO < 0
    · obtain ⟨-, -, h2, h3⟩ := root_neg (n := nn) (ws := ws) (e := ee) (by rw [hRO]; exact hneg)
      rw [hMU] at h2
      rw [hMY] at h3
      subst h2
      subst h3
      clear hRO hMU hMY
      go_wp2_with fail
      refine (RootOf_any _ _ _ _ _ _ (HRW.out.later (by go_grown)) (HTD.out.later (by go_grown))).mono ?_; rintro e w1 ⟨rfl, hb1⟩
      rw [HRO.out]
      obtain ⟨hc1, hf1⟩ := bcell hb1
      have hz1_0 : wd.heap.size < w1.heap.size := by have hq := hb1.size; (try simp at hq); omega
      have HK1 := Lib.hid hb1
      have HB1 := Lib.hid (bstep (B := wd.heap.size) (W := wd) (by (try have hp := HB0.out); go_grown) (by go_size) hb1); clear hb1
      go_wp2_with fail
      refine (MustWays_any _ _ _ _ _ _ (HRW.out.later (by have := HB1.out; go_grown)) (HTD.out.later (by have := HB1.out; go_grown))).mono ?_; rintro e w2 ⟨rfl, hb2⟩
      rw [HMU.out]
      obtain ⟨hc2, hf2⟩ := bcell hb2
      have hz2_0 : wd.heap.size < w2.heap.size := by have hq := hb2.size; (try simp at hq); omega
      have HK2 := Lib.hid hb2
      have HB2 := Lib.hid (bstep (B := wd.heap.size) (W := wd) (by have hp := HB1.out; go_grown) (by go_size) hb2); clear hb2
      go_wp2_with fail
      refine (MayWays_any _ _ _ _ _ _ (HRW.out.later (by have := HB2.out; go_grown)) (HTD.out.later (by have := HB2.out; go_grown))).mono ?_; rintro e w3 ⟨rfl, hb3⟩
      rw [HMY.out]
      obtain ⟨hc3, hf3⟩ := bcell hb3
      have hz3_0 : wd.heap.size < w3.heap.size := by have hq := hb3.size; (try simp at hq); omega
      have HK3 := Lib.hid hb3
      have HB3 := Lib.hid (bstep (B := wd.heap.size) (W := wd) (by have hp := HB2.out; go_grown) (by go_size) hb3); clear hb3
      go_wp2_with fail
      refine (alive_any _).mono ?_; rintro e w4 ⟨rfl, hb4⟩
      obtain ⟨hc4, hf4⟩ := bcell hb4
      have hz4_0 : wd.heap.size < w4.heap.size := by have hq := hb4.size; (try simp at hq); omega
      have HK4 := Lib.hid hb4
      have HB4 := Lib.hid (bstep (B := wd.heap.size) (W := wd) (by have hp := HB3.out; go_grown) (by go_size) hb4); clear hb4
      go_wp2_with fail
      go_ret
      exact ⟨rfl, bstep HBD.out hzd HB4.out⟩
    · have ht := told_root (n := nn) (ws := ws) (e := ee) (by rw [hRO]; exact hneg)
      obtain ⟨⟨m0, m1⟩, ⟨r0, r1⟩, ⟨y0, y1⟩, d1, d2, -⟩ := ht.words
      rw [hMU] at m0 m1 d1
      rw [hRO] at r0 r1 d1 d2
      rw [hMY] at y0 y1 d2
      have HG1 : Hid ((bits .andNot .i64 MU RO == 0) = true) := by show _ = true; rw [bits_andNot _ _ (by omega) (by omega) (by omega) (by omega), d1]; rfl
      have HG2 : Hid ((bits .andNot .i64 RO MY == 0) = true) := by show _ = true; rw [bits_andNot _ _ (by omega) (by omega) (by omega) (by omega), d2]; rfl
      clear hRO hMU hMY ht d1 d2
      go_wp2_with fail
      refine (RootOf_any _ _ _ _ _ _ (HRW.out.later (by go_grown)) (HTD.out.later (by go_grown))).mono ?_; rintro e w1 ⟨rfl, hb1⟩
      rw [HRO.out]
      obtain ⟨hc1, hf1⟩ := bcell hb1
      have hz1_0 : wd.heap.size < w1.heap.size := by have hq := hb1.size; (try simp at hq); omega
      have HK1 := Lib.hid hb1
      have HB1 := Lib.hid (bstep (B := wd.heap.size) (W := wd) (by (try have hp := HB0.out); go_grown) (by go_size) hb1); clear hb1
      go_wp2_with fail
      refine (MustWays_any _ _ _ _ _ _ (HRW.out.later (by have := HB1.out; go_grown)) (HTD.out.later (by have := HB1.out; go_grown))).mono ?_; rintro e w2 ⟨rfl, hb2⟩
      rw [HMU.out]
      obtain ⟨hc2, hf2⟩ := bcell hb2
      have hz2_0 : wd.heap.size < w2.heap.size := by have hq := hb2.size; (try simp at hq); omega
      have HK2 := Lib.hid hb2
      have HB2 := Lib.hid (bstep (B := wd.heap.size) (W := wd) (by have hp := HB1.out; go_grown) (by go_size) hb2); clear hb2
      go_wp2_with fail
      refine (MayWays_any _ _ _ _ _ _ (HRW.out.later (by have := HB2.out; go_grown)) (HTD.out.later (by have := HB2.out; go_grown))).mono ?_; rintro e w3 ⟨rfl, hb3⟩
      rw [HMY.out]
      obtain ⟨hc3, hf3⟩ := bcell hb3
      have hz3_0 : wd.heap.size < w3.heap.size := by have hq := hb3.size; (try simp at hq); omega
      have HK3 := Lib.hid hb3
      have HB3 := Lib.hid (bstep (B := wd.heap.size) (W := wd) (by have hp := HB2.out; go_grown) (by go_size) hb3); clear hb3
      have g1 := HG1.out
      have g2 := HG2.out
      go_wp2_with fail
      refine (alive_any _).mono ?_; rintro e w4 ⟨rfl, hb4⟩
      obtain ⟨hc4, hf4⟩ := bcell hb4
      have hz4_0 : wd.heap.size < w4.heap.size := by have hq := hb4.size; (try simp at hq); omega
      have HK4 := Lib.hid hb4
      have HB4 := Lib.hid (bstep (B := wd.heap.size) (W := wd) (by have hp := HB3.out; go_grown) (by go_size) hb4); clear hb4
      go_wp2_with fail
      go_ret
      exact ⟨rfl, bstep HBD.out hzd HB4.out⟩
set_option maxRecDepth 100000 in
set_option maxHeartbeats 2000000 in
theorem FnMustWays_walk (A : Option Addr) (len cap : Nat) (w : World) (hr : RB w w.heap.size A len) (hc : len ≤ cap) (hlen : len ≤ 9223372036854775807) (hT : Tab w) :
    Calls Tryd.prog 5 #[.slice A len cap] w fun e w' => e = .returned (.bool true) ∧ Below w.heap.size w w' := by
  have HR := Lib.hid hr
  have HT := Lib.hid hT
  clear hT
  clear hr
  by_cases hm : 1048576 < len
  · go_enter Tryd.func5, Tryd.ntmps5
    go_wp2_with fail
    go_ret
    exact ⟨rfl, Below.refl _ _⟩
  · go_enter Tryd.func5, Tryd.ntmps5
    go_wp2_with fail
    refine (DrawMustWays_any A len cap _ HR.out hc (by omega)).mono ?_
    rintro e wd ⟨nn, ee, A', c', ws, rfl, hrw, hl10, hcc, hn0, hn7, hs0, hs1, hbd⟩
    have HRW := Lib.hid hrw
    have HBD := Lib.hid hbd
    have HTD := Lib.hid (HT.out.later hbd)
    have hzd : w.heap.size ≤ wd.heap.size := hbd.size
    clear hrw hbd
    obtain ⟨MU, hMU⟩ : ∃ x, mustWays nn ws ee = x := ⟨_, rfl⟩
    have HMU := Lib.hid hMU
    by_cases hneg : MU < 0
    · obtain ⟨h2, h3⟩ := must_minus (n := nn) (ws := ws) (e := ee) (by rw [hMU]; exact hneg)
      rw [hMU] at h2
      subst h2
      have HRC := Lib.hid h3
      clear hMU h3
      go_wp2_with fail
      refine (MustWays_any _ _ _ _ _ _ (HRW.out.later (by go_grown)) (HTD.out.later (by go_grown))).mono ?_; rintro e w1 ⟨rfl, hb1⟩
      rw [HMU.out]
      obtain ⟨hc1, hf1⟩ := bcell hb1
      have hz1_0 : wd.heap.size < w1.heap.size := by have hq := hb1.size; (try simp at hq); omega
      have HK1 := Lib.hid hb1
      have HB1 := Lib.hid (bstep (B := wd.heap.size) (W := wd) (by (try have hp := HB0.out); go_grown) (by go_size) hb1); clear hb1
      go_wp2_with fail
      refine (sMustWays_any _ _ _ _ _ _ (HRW.out.later (by have := HB1.out; go_grown)) (by omega)).mono ?_; rintro e w2 ⟨rfl, hb2⟩
      rw [HMU.out]
      obtain ⟨hc2, hf2⟩ := bcell hb2
      have hz2_0 : wd.heap.size < w2.heap.size := by have hq := hb2.size; (try simp at hq); omega
      have HK2 := Lib.hid hb2
      have HB2 := Lib.hid (bstep (B := wd.heap.size) (W := wd) (by have hp := HB1.out; go_grown) (by go_size) hb2); clear hb2
      go_wp2_with fail
      refine (RootCost_any _ _ _ _ _ _ (HRW.out.later (by have := HB2.out; go_grown)) (HTD.out.later (by have := HB2.out; go_grown))).mono ?_; rintro e w3 ⟨rfl, hb3⟩
      rw [HRC.out]
      obtain ⟨hc3, hf3⟩ := bcell hb3
      have hz3_0 : wd.heap.size < w3.heap.size := by have hq := hb3.size; (try simp at hq); omega
      have HK3 := Lib.hid hb3
      have HB3 := Lib.hid (bstep (B := wd.heap.size) (W := wd) (by have hp := HB2.out; go_grown) (by go_size) hb3); clear hb3
      go_wp2_with fail
      refine (alive_any _).mono ?_; rintro e w4 ⟨rfl, hb4⟩
      obtain ⟨hc4, hf4⟩ := bcell hb4
      have hz4_0 : wd.heap.size < w4.heap.size := by have hq := hb4.size; (try simp at hq); omega
      have HK4 := Lib.hid hb4
      have HB4 := Lib.hid (bstep (B := wd.heap.size) (W := wd) (by have hp := HB3.out; go_grown) (by go_size) hb4); clear hb4
      go_wp2_with fail
      go_ret
      exact ⟨rfl, bstep HBD.out hzd HB4.out⟩
    · have ht := must_told (n := nn) (ws := ws) (e := ee) (by rw [hMU]; exact hneg)
      obtain ⟨hL1, hL2⟩ := ht.list
      rw [hMU] at hL1
      have hl5 := rootsOf_len (n := nn) (ws := ws) (e := ee)
      have HRB := Lib.hid (fun x (hx : x ∈ rootsOf nn ws ee) => roots_bd hx)
      have hl9 := (netOk_t ht.ok).len
      have hfb := full_bd ws.length hl9
      have hpl := pow_bd (ws.length : Int) 9 (by omega)
      rw [Int.toNat_natCast] at hpl
      have HW1 : Hid (IntKind.i64.wrap (2 ^ ws.length) = 2 ^ ws.length) := IntWalk.i64_in _ ⟨by omega, by omega⟩
      have HW2 : Hid (wrap64 (2 ^ ws.length) = 2 ^ ws.length) := IntWalk.wrap64_in _ ⟨by omega, by omega⟩
      have HW3 : Hid (IntKind.i64.wrap (2 ^ ws.length - 1) = full ws.length) := IntWalk.i64_in _ ⟨by omega, by omega⟩
      have HW4 : Hid (wrap64 (2 ^ ws.length - 1) = full ws.length) := IntWalk.wrap64_in _ ⟨by omega, by omega⟩
      obtain ⟨L, hL⟩ : ∃ L, rootsOf nn ws ee = L := ⟨_, rfl⟩
      have HL := Lib.hid hL
      rw [hL] at hL1 hL2 hl5 HRB
      obtain ⟨FF, hFF⟩ : ∃ FF, full ws.length = FF := ⟨_, rfl⟩
      rw [hFF] at hL1 hfb HW3 HW4
      obtain ⟨ln, hln⟩ : ∃ ln, L.length = ln := ⟨_, rfl⟩
      have HLN := Lib.hid hln
      rw [hln] at hl5 hL2
      have hf0 := hfb.1
      have hf1 := hfb.2
      have hln0 : (0 : Int) < (ln : Int) := by omega
      have HLF := Lib.hid hL1
      have HAB := Lib.hid (fun k => andF_bd (L := L) hf0 k)
      clear hMU ht hL1 hpl hL hFF hln hfb
      go_wp2_with fail
      refine (MustWays_any _ _ _ _ _ _ (HRW.out.later (by go_grown)) (HTD.out.later (by go_grown))).mono ?_; rintro e w1 ⟨rfl, hb1⟩
      rw [HMU.out]
      obtain ⟨hc1, hf1⟩ := bcell hb1
      have hz1_0 : wd.heap.size < w1.heap.size := by have hq := hb1.size; (try simp at hq); omega
      have HK1 := Lib.hid hb1
      have HB1 := Lib.hid (bstep (B := wd.heap.size) (W := wd) (by (try have hp := HB0.out); go_grown) (by go_size) hb1); clear hb1
      go_wp2_with fail
      refine (sMustWays_any _ _ _ _ _ _ (HRW.out.later (by have := HB1.out; go_grown)) (by omega)).mono ?_; rintro e w2 ⟨rfl, hb2⟩
      rw [HMU.out]
      obtain ⟨hc2, hf2⟩ := bcell hb2
      have hz2_0 : wd.heap.size < w2.heap.size := by have hq := hb2.size; (try simp at hq); omega
      have HK2 := Lib.hid hb2
      have HB2 := Lib.hid (bstep (B := wd.heap.size) (W := wd) (by have hp := HB1.out; go_grown) (by go_size) hb2); clear hb2
      have k2 : w2.cell? ⟨wd.heap.size, 0, none⟩ = some (.int .i64 nn) ∧ w2.cell? ⟨wd.heap.size, 1, none⟩ = some (.slice A' ws.length c') := ⟨by go_simp, by go_simp⟩
      obtain ⟨k20, k21⟩ := k2
      clear hc1 hc2 hf2
      go_wp2_with fail
      refine (AllRoots_any _ _ _ _ _ _ (HRW.out.later (by have := HB2.out; go_grown)) (HTD.out.later (by have := HB2.out; go_grown))).mono ?_
      rw [HL.out]
      rintro en3 w3 ⟨A1, c1, rfl, hrow, hb3⟩
      rw [HLN.out] at hrow ⊢
      have HROW := Lib.hid hrow
      have HB3 := Lib.hid (bstep (B := wd.heap.size) (W := wd) (by have := HB2.out; go_grown) (by go_size) hb3)
      obtain ⟨k30, k31⟩ := keep2 hb3 ⟨k20, k21⟩ hz2_0
      clear hb3 hrow
      have hw1 := HW1.out
      have hw2 := HW2.out
      have hw3 := HW3.out
      have hw4 := HW4.out
      go_wp2_with fail
      clear hw1 hw2 hw3 hw4
      go_loopw [7, 8] (fun c i wr => ∃ k : Nat, k ≤ ln ∧ i = .int .i64 k ∧ c = .int .i64 ((L.take k).foldl iand FF) ∧ wr = w3) (fun _ i _ => ln - (intOf i).toNat)
      case atStart => exact ⟨0, Nat.zero_le _, rfl, rfl, rfl⟩
      case round =>
        obtain ⟨k, hk, rfl, rfl, rfl⟩ := hrel
        have hk0 : (0 : Int) ≤ (k : Int) := by omega
        have hab := HAB.out k
        by_cases hlt : k < ln
        · have hk1 : (k : Int) < (ln : Int) := by omega
          obtain ⟨x, hx⟩ : ∃ x, L[k]? = some x := ⟨_, List.getElem?_eq_getElem (by rw [HLN.out]; exact hlt)⟩
          have hxb := HRB.out x (List.mem_of_getElem? hx)
          have HTK := Lib.hid (foldF_take (f := iand) (a := FF) hx)
          obtain ⟨b, o, rfl, -, -, hc, -⟩ := HROW.out.at_ k hlt
          (try simp only at hc)
          have hgx : L.getD k 0 = x := by rw [List.getD_eq_getElem?_getD, hx]; rfl
          rw [hgx] at hc
          have HAN : Hid (bits .and .i64 ((L.take k).foldl iand FF) x = iand ((L.take k).foldl iand FF) x) := bits_and _ _ hab.1 (by omega) hxb.1 (by omega)
          obtain ⟨X, hX⟩ : ∃ X, (L.take k).foldl iand FF = X := ⟨_, rfl⟩
          rw [hX] at HTK HAN ⊢
          clear hx hxb hgx hX hab
          go_wp2_with fail
          go_roundw
          case rel => exact ⟨k + 1, by omega, by go_num, by rw [HTK.out, HAN.out], by first | rfl | trivial⟩
          case measure => (simp [intOf]) <;> omega
        · obtain rfl : k = ln := by omega
          have HTT : Hid ((L.take k).foldl iand FF = MU) := by show _ = _; rw [← HLN.out, List.take_length]; exact HLF.out
          rw [HTT.out]
          clear hab
          go_wp2_with fail
          go_ret
          exact ⟨rfl, bstep HBD.out hzd HB3.out⟩
end Go.Proofs.YtcfendmhhhggeaaDoor
