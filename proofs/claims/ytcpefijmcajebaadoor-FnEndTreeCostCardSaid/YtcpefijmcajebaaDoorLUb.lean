/- The law of EndTreeCost: at least a root, less than twice. -/
import Derived.Test.YtcpefijmcajebaaDoorEnI
import Derived.Test.YtcpefijmcajebaaDoorEnL
import Derived.Test.YtcpefijmcajebaaDoorWXe
import Derived.Test.YtcpefijmcajebaaDoorWC
import Derived.Test.YtcpefijmcajebaaDoorMC
import Derived.Test.YtcpefijmcajebaaDoorLN
set_option linter.unusedSimpArgs false
set_option linter.unusedVariables false
attribute [local go_sem ↓] Go.wp_at_zero Go.wp_at_succ
namespace Go.Proofs.YtcpefijmcajebaaDoor
open Go.ChangeShapes Go.WideShapes Go.ChangeAt Go.RowKit

set_option maxRecDepth 100000 in
set_option maxHeartbeats 16000000 in
theorem FnEndTreeCost_walk (A : Option Addr) (len cap : Nat) (w : World) (hr : RB w w.heap.size A len) (hc : len ≤ cap) (hlen : len ≤ 9223372036854775807) (hT : Tab w) :
    Calls Tryd.prog 4 #[.slice A len cap] w fun e w' => e = .returned (.bool true) ∧ Below w.heap.size w w' := by
  have HR := Lib.hid hr
  have HT := Lib.hid hT
  clear hr hT
  by_cases hm : 1048576 < len
  · go_enter Tryd.func4, Tryd.ntmps4
    go_wp2_with fail
    go_ret
    exact ⟨rfl, Below.refl _ _⟩
  · go_enter Tryd.func4, Tryd.ntmps4
    go_wp2_with fail
    refine (DrawEndTreeCost_any A len cap _ HR.out hc (by omega)).mono ?_
    rintro e wd ⟨nn, ee, A', c', ws, rfl, hrw, hl10, hcc, hn0, hn7, hs0, hs1, hbd⟩
    have HRW := Lib.hid hrw
    have HBD := Lib.hid hbd
    have HTD := Lib.hid (HT.out.later hbd)
    have hzd : w.heap.size ≤ wd.heap.size := hbd.size
    clear hrw hbd
    cases hl : endLinks nn ws ee with
    | none =>
      have HC := Lib.hid (endLinks_none hl)
      have HP : Hid (endTreeCost nn ws ee = -1) := endTreeCost_none hl
      clear hl
      go_wp2_with fail
      refine (EndTreeCost_any _ _ _ _ _ _ (HRW.out.later (by go_grown))).mono ?_; rintro e w1 ⟨rfl, hb1⟩
      rw [HP.out]
      obtain ⟨hc1, hf1⟩ := bcell hb1
      have hz1_0 : wd.heap.size < w1.heap.size := by have hq := hb1.size; (try simp at hq); omega
      have HK1 := Lib.hid hb1
      have HB1 := Lib.hid (bstep (B := wd.heap.size) (W := wd) (by (try have hp := HB0.out); go_grown) (by go_size) hb1); clear hb1
      go_wp2_with fail
      refine (sEndTreeCost_any _ _ _ _ _ _ (HRW.out.later (by have := HB1.out; go_grown)) (by omega)).mono ?_; rintro e w2 ⟨rfl, hb2⟩
      rw [HP.out]
      obtain ⟨hc2, hf2⟩ := bcell hb2
      have hz2_0 : wd.heap.size < w2.heap.size := by have hq := hb2.size; (try simp at hq); omega
      have HK2 := Lib.hid hb2
      have HB2 := Lib.hid (bstep (B := wd.heap.size) (W := wd) (by have hp := HB1.out; go_grown) (by go_size) hb2); clear hb2
      go_wp2_with fail
      refine (RootCost_any _ _ _ _ _ _ (HRW.out.later (by have := HB2.out; go_grown)) (HTD.out.later (by have := HB2.out; go_grown))).mono ?_; rintro e w3 ⟨rfl, hb3⟩
      rw [HC.out]
      obtain ⟨hc3, hf3⟩ := bcell hb3
      have hz3_0 : wd.heap.size < w3.heap.size := by have hq := hb3.size; (try simp at hq); omega
      have HK3 := Lib.hid hb3
      have HB3 := Lib.hid (bstep (B := wd.heap.size) (W := wd) (by have hp := HB2.out; go_grown) (by go_size) hb3); clear hb3
      go_wp2_with fail
      refine (alive_any _).mono ?_; rintro e w4 ⟨rfl, hb4⟩
      obtain ⟨hc4, hf4⟩ := bcell hb4
      have hz4_0 : wd.heap.size < w4.heap.size := by have hq := hb4.size; (try simp at hq); omega
      have HK4 := Lib.hid hb4
      have HB4 := Lib.hid (bstep (B := wd.heap.size) (W := wd) (by have hp := HB3.out; go_grown) (by go_size) hb4); clear hb4
      go_wp2_with fail
      go_ret
      exact ⟨rfl, bstep HBD.out hzd HB4.out⟩
    | some L =>
      obtain ⟨m, rfl⟩ : ∃ m : Nat, nn = m := ⟨nn.toNat, by omega⟩
      obtain ⟨g1, g2, g3, g4, g5, g6, g7, g8, g9, -⟩ := endLinks_some hl
      have hm6 : m ≤ 6 := by have := g1.hi; omega
      have hp6 := Nat.pow_le_pow_right (n := 2) (by omega) hm6
      have he64 : ee < 64 := by
        have e2 : ((2 : Int) ^ m) = ((2 ^ m : Nat) : Int) := by simp
        omega
      obtain ⟨P, hP⟩ : ∃ P, sumL (farF ws m) L = P := ⟨_, rfl⟩
      obtain ⟨Z, hZ⟩ : ∃ Z, rc ws ee = Z := ⟨_, rfl⟩
      obtain ⟨K, hK⟩ : ∃ K, pop ee = K := ⟨_, rfl⟩
      rw [hP] at g6 g7 g8 g9
      rw [hZ] at g4 g5 g7 g9
      rw [hK] at g9
      have hpb := pop_bd ee
      rw [hK] at hpb
      have HP := Lib.hid g6
      have HC := Lib.hid g4
      have HK := Lib.hid hK
      have hPn : ¬ P < 0 := by omega
      clear hl g1 g3 g4 g6 hp6 hP hZ hK
      go_wp2_with fail
      refine (EndTreeCost_any _ _ _ _ _ _ (HRW.out.later (by go_grown))).mono ?_; rintro e w1 ⟨rfl, hb1⟩
      rw [HP.out]
      obtain ⟨hc1, hf1⟩ := bcell hb1
      have hz1_0 : wd.heap.size < w1.heap.size := by have hq := hb1.size; (try simp at hq); omega
      have HK1 := Lib.hid hb1
      have HB1 := Lib.hid (bstep (B := wd.heap.size) (W := wd) (by (try have hp := HB0.out); go_grown) (by go_size) hb1); clear hb1
      go_wp2_with fail
      refine (sEndTreeCost_any _ _ _ _ _ _ (HRW.out.later (by have := HB1.out; go_grown)) (by omega)).mono ?_; rintro e w2 ⟨rfl, hb2⟩
      rw [HP.out]
      obtain ⟨hc2, hf2⟩ := bcell hb2
      have hz2_0 : wd.heap.size < w2.heap.size := by have hq := hb2.size; (try simp at hq); omega
      have HK2 := Lib.hid hb2
      have HB2 := Lib.hid (bstep (B := wd.heap.size) (W := wd) (by have hp := HB1.out; go_grown) (by go_size) hb2); clear hb2
      go_wp2_with fail
      refine (RootCost_any _ _ _ _ _ _ (HRW.out.later (by have := HB2.out; go_grown)) (HTD.out.later (by have := HB2.out; go_grown))).mono ?_; rintro e w3 ⟨rfl, hb3⟩
      rw [HC.out]
      obtain ⟨hc3, hf3⟩ := bcell hb3
      have hz3_0 : wd.heap.size < w3.heap.size := by have hq := hb3.size; (try simp at hq); omega
      have HK3 := Lib.hid hb3
      have HB3 := Lib.hid (bstep (B := wd.heap.size) (W := wd) (by have hp := HB2.out; go_grown) (by go_size) hb3); clear hb3
      go_wp2_with fail
      refine (lSizeOf_any ee g2 (by omega) _).mono ?_; rintro e6 w6 ⟨rfl, rfl⟩; rw [HK.out]
      rcases g9 with ⟨q1, rfl, rfl⟩ | ⟨q1, q2, q3⟩
      · skip
        go_wp2_with fail
        refine (alive_any _).mono ?_; rintro e w4 ⟨rfl, hb4⟩
        obtain ⟨hc4, hf4⟩ := bcell hb4
        have hz4_0 : wd.heap.size < w4.heap.size := by have hq := hb4.size; (try simp at hq); omega
        have HK4 := Lib.hid hb4
        have HB4 := Lib.hid (bstep (B := wd.heap.size) (W := wd) (by have hp := HB3.out; go_grown) (by go_size) hb4); clear hb4
        go_wp2_with fail
        go_ret
        exact ⟨rfl, bstep HBD.out hzd HB4.out⟩
      · have hge : decide (Z ≤ P) = true := by simpa using g7
        have hk6 : K = 2 ∨ K = 3 ∨ K = 4 ∨ K = 5 ∨ K = 6 := by omega
        rcases hk6 with rfl | rfl | rfl | rfl | rfl
        · have h1 : P * 2 ≤ 2 * Z * 1 := by omega
          obtain rfl : P = Z := by omega
          go_wp2_with fail
          go_ret
          exact ⟨rfl, bstep HBD.out hzd HB3.out⟩
        · have h1 : P * 3 ≤ 2 * Z * 2 := by omega
          have h2 : decide (P * 3 ≤ 2 * Z * 2) = true := by simpa using h1
          go_wp2_with fail
          go_ret
          exact ⟨rfl, bstep HBD.out hzd HB3.out⟩
        · have h1 : P * 4 ≤ 2 * Z * 3 := by omega
          have h2 : decide (P * 4 ≤ 2 * Z * 3) = true := by simpa using h1
          go_wp2_with fail
          go_ret
          exact ⟨rfl, bstep HBD.out hzd HB3.out⟩
        · have h1 : P * 5 ≤ 2 * Z * 4 := by omega
          have h2 : decide (P * 5 ≤ 2 * Z * 4) = true := by simpa using h1
          go_wp2_with fail
          go_ret
          exact ⟨rfl, bstep HBD.out hzd HB3.out⟩
        · have h1 : P * 6 ≤ 2 * Z * 5 := by omega
          have h2 : decide (P * 6 ≤ 2 * Z * 5) = true := by simpa using h1
          go_wp2_with fail
          go_ret
          exact ⟨rfl, bstep HBD.out hzd HB3.out⟩
end Go.Proofs.YtcpefijmcajebaaDoor
