/- The law of PartMany: parts of sets without rounds are counted by places and ways. -/
import Derived.Test.YtnnpooemdonbhaaDoorCpI
import Derived.Test.YtnnpooemdonbhaaDoorCpD
import Derived.Test.YtnnpooemdonbhaaDoorWC
import Derived.Test.YtnnpooemdonbhaaDoorMC
import Derived.Test.YtnnpooemdonbhaaDoorME
import Derived.Test.YtnnpooemdonbhaaDoorWRb
import Derived.Test.YtnnpooemdonbhaaDoorWI
import Derived.Test.YtnnpooemdonbhaaDoorWP
import Derived.Test.YtnnpooemdonbhaaDoorLN
import Derived.Test.YtnnpooemdonbhaaDoorWRc
set_option linter.unusedSimpArgs false
set_option linter.unusedVariables false
attribute [local go_sem ↓] Go.wp_at_zero Go.wp_at_succ
namespace Go.Proofs.YtnnpooemdonbhaaDoor
open Go.ChangeShapes Go.WideShapes Go.ChangeAt Go.RowKit

set_option maxRecDepth 100000 in
set_option maxHeartbeats 2000000 in
theorem FnPartMany_walk (A : Option Addr) (len cap : Nat) (w : World) (hr : RB w w.heap.size A len) (hc : len ≤ cap) (hlen : len ≤ 9223372036854775807) (hT : Tab w) :
    Calls Tryd.prog 6 #[.slice A len cap] w fun e w' => e = .returned (.bool true) ∧ Below w.heap.size w w' := by
  have HR := Lib.hid hr
  have HT := Lib.hid hT
  clear hT
  clear hr
  by_cases hm : 1048576 < len
  · go_enter Tryd.func6, Tryd.ntmps6
    go_wp2_with fail
    go_ret
    exact ⟨rfl, Below.refl _ _⟩
  · go_enter Tryd.func6, Tryd.ntmps6
    go_wp2_with fail
    refine (DrawPartMany_any A len cap _ HR.out hc (by omega)).mono ?_
    rintro e wd ⟨nn, ss, A', c', ws, rfl, hrw, hl10, hcc, hn0, hn7, hs0, hs1, hbd⟩
    have HRW := Lib.hid hrw
    have HBD := Lib.hid hbd
    have HTD := Lib.hid (HT.out.later hbd)
    have hzd : w.heap.size ≤ wd.heap.size := hbd.size
    clear hrw hbd
    obtain ⟨Q, hQ⟩ : ∃ Q, partMany nn ws ss = Q := ⟨_, rfl⟩
    have HQ := Lib.hid hQ
    cases hso : setOk nn ws ss
    · obtain rfl : Q = -1 := by rw [← hQ]; unfold partMany; rw [hso]; rfl
      clear hQ hso
      go_wp2_with fail
      refine (PartMany_any _ _ _ _ _ _ (HRW.out.later (by go_grown)) (HTD.out.later (by go_grown))).mono ?_; rintro e w1 ⟨rfl, hb1⟩
      rw [HQ.out]
      obtain ⟨hc1, hf1⟩ := bcell hb1
      have hz1_0 : wd.heap.size < w1.heap.size := by have hq := hb1.size; (try simp at hq); omega
      have HK1 := Lib.hid hb1
      have HB1 := Lib.hid (bstep (B := wd.heap.size) (W := wd) (by (try have hp := HB0.out); go_grown) (by go_size) hb1); clear hb1
      go_wp2_with fail
      refine (sPartMany_any _ _ _ _ _ _ (HRW.out.later (by have := HB1.out; go_grown)) (by omega)).mono ?_; rintro e w2 ⟨rfl, hb2⟩
      rw [HQ.out]
      obtain ⟨hc2, hf2⟩ := bcell hb2
      have hz2_0 : wd.heap.size < w2.heap.size := by have hq := hb2.size; (try simp at hq); omega
      have HK2 := Lib.hid hb2
      have HB2 := Lib.hid (bstep (B := wd.heap.size) (W := wd) (by have hp := HB1.out; go_grown) (by go_size) hb2); clear hb2
      go_wp2_with fail
      refine (alive_any _).mono ?_; rintro e w3 ⟨rfl, hb3⟩
      obtain ⟨hc3, hf3⟩ := bcell hb3
      have hz3_0 : wd.heap.size < w3.heap.size := by have hq := hb3.size; (try simp at hq); omega
      have HK3 := Lib.hid hb3
      have HB3 := Lib.hid (bstep (B := wd.heap.size) (W := wd) (by have hp := HB2.out; go_grown) (by go_size) hb3); clear hb3
      go_wp2_with fail
      go_ret
      exact ⟨rfl, bstep HBD.out hzd HB3.out⟩
    · obtain ⟨hni, hs2, hs3, hs4⟩ := setOk_t hso
      obtain ⟨m, rfl⟩ : ∃ m : Nat, nn = m := ⟨nn.toNat, by omega⟩
      have hl9 := hni.len
      have hm6 : m ≤ 6 := by have := hni.hi; omega
      have hfb := full_bd ws.length hl9
      have hs5 : ss < 512 := by omega
      have hq : Q = ptTo ws ss m := by rw [← hQ]; unfold partMany; rw [hso, if_pos rfl, Int.toNat_natCast]
      have hge := parts_ge hni hs2 hs3
      have hz := parts_zero hni hs2 hs3
      have hha := parts_half hni ss
      have hnn := ptTo_bd ws ss m
      rw [← hq] at hge hz hha hnn
      have HNO : Hid (nodesOf (m : Int) ws ss = nodesTo ws ss ws.length) := by show _ = _; unfold nodesOf; rw [hso, if_pos rfl]
      have hnb := nodesTo_bd hni ss ws.length
      have HONE : Hid (treeOk (m : Int) ws ss = true → Q ≤ 1) := fun ht => by
        unfold treeOk tree at ht
        rw [hso, Bool.true_and, Bool.or_eq_true] at ht
        rcases ht with ht | ht
        · have : ss = 0 := by simpa using ht
          have := hz.1 this
          omega
        · rw [Bool.and_eq_true] at ht
          rw [hq]
          exact parts_one hni ht.2
      obtain ⟨D, hD⟩ : ∃ D, nodesTo ws ss ws.length = D := ⟨_, rfl⟩
      rw [hD] at HNO hnb hge
      have hD0 := hnb.1
      have hD1 : D < 512 := by omega
      have hmx : max D 0 = D := by omega
      have hmx2 : (if D < 0 then 0 else D) = D := if_neg (by omega)
      obtain ⟨PD, hPD⟩ : ∃ P, pop D = P := ⟨_, rfl⟩
      obtain ⟨PS, hPS⟩ : ∃ P, pop ss = P := ⟨_, rfl⟩
      have hpd := pop_bd D
      have hps := pop_bd ss
      rw [hPD, hPS] at hge
      rw [hPD] at hpd
      rw [hPS] at hps
      have HPD := Lib.hid hPD
      have HPS := Lib.hid hPS
      have HW1 : Hid (IntKind.i64.wrap (PD - PS) = PD - PS) := IntWalk.i64_in _ ⟨by omega, by omega⟩
      have HW2 : Hid (wrap64 (PD - PS) = PD - PS) := IntWalk.wrap64_in _ ⟨by omega, by omega⟩
      have HW3 : Hid (IntKind.i64.wrap ((m : Int).tdiv 2) = (m : Int) / 2) := by show _ = _; rw [Int.tdiv_eq_ediv_of_nonneg (by omega)]; exact IntWalk.i64_in _ ⟨by omega, by omega⟩
      have HW4 : Hid (wrap64 ((m : Int).tdiv 2) = (m : Int) / 2) := by show _ = _; rw [Int.tdiv_eq_ediv_of_nonneg (by omega)]; exact IntWalk.wrap64_in _ ⟨by omega, by omega⟩
      have HW5 : Hid (wrap64 ((m : Int) / 2) = (m : Int) / 2) := IntWalk.wrap64_in _ ⟨by omega, by omega⟩
      have g1 : decide (PD - PS ≤ Q) = true := by simpa using hge
      have HG1 := Lib.hid g1
      have g2 : ((ss == 0) == (Q == 0)) = true := by
        by_cases e : ss = 0
        · have h9 := hz.1 e
          rw [e, h9]; rfl
        · have h9 : Q ≠ 0 := fun h => e (hz.2 h)
          rw [show (ss == 0) = false from by simpa using e, show (Q == 0) = false from by simpa using h9]; rfl
      have HG2 := Lib.hid g2
      have g3 : decide (Q ≤ (m : Int) / 2) = true := by rw [decide_eq_true_eq]; omega
      have HG3 := Lib.hid g3
      have hqn : ¬ Q < 0 := by omega
      obtain ⟨TR, hTR⟩ : ∃ T, treeOk (m : Int) ws ss = T := ⟨_, rfl⟩
      rw [hTR] at HONE
      have HTR9 := Lib.hid hTR
      clear hQ hso hni hs2 hs3 hs4 hq hge hz hha hnn hnb hD hPD hPS hpd hps g1 g2 g3 hTR hfb
      go_wp2_with fail
      refine (PartMany_any _ _ _ _ _ _ (HRW.out.later (by go_grown)) (HTD.out.later (by go_grown))).mono ?_; rintro e w1 ⟨rfl, hb1⟩
      rw [HQ.out]
      obtain ⟨hc1, hf1⟩ := bcell hb1
      have hz1_0 : wd.heap.size < w1.heap.size := by have hq := hb1.size; (try simp at hq); omega
      have HK1 := Lib.hid hb1
      have HB1 := Lib.hid (bstep (B := wd.heap.size) (W := wd) (by (try have hp := HB0.out); go_grown) (by go_size) hb1); clear hb1
      go_wp2_with fail
      refine (sPartMany_any _ _ _ _ _ _ (HRW.out.later (by have := HB1.out; go_grown)) (by omega)).mono ?_; rintro e w2 ⟨rfl, hb2⟩
      rw [HQ.out]
      obtain ⟨hc2, hf2⟩ := bcell hb2
      have hz2_0 : wd.heap.size < w2.heap.size := by have hq := hb2.size; (try simp at hq); omega
      have HK2 := Lib.hid hb2
      have HB2 := Lib.hid (bstep (B := wd.heap.size) (W := wd) (by have hp := HB1.out; go_grown) (by go_size) hb2); clear hb2
      have k2 : w2.cell? ⟨wd.heap.size, 0, none⟩ = some (.int .i64 m) ∧ w2.cell? ⟨wd.heap.size, 1, none⟩ = some (.slice A' ws.length c') := ⟨by go_simp, by go_simp⟩
      obtain ⟨b0, b1⟩ := k2
      cases TR
      · clear HONE
        go_wp2_with fail
        refine (NodesOf_any _ _ _ _ _ _ (HRW.out.later (by have := HB2.out; go_grown))).mono ?_; rintro e w3 ⟨rfl, hb3⟩
        rw [HNO.out]
        obtain ⟨hc3, hf3⟩ := bcell hb3
        have hz3_0 : wd.heap.size < w3.heap.size := by have hq := hb3.size; (try simp at hq); omega
        have HK3 := Lib.hid hb3
        have HB3 := Lib.hid (bstep (B := wd.heap.size) (W := wd) (by have hp := HB2.out; go_grown) (by go_size) hb3); clear hb3
        have k3 : w3.cell? ⟨wd.heap.size, 0, none⟩ = some (.int .i64 m) ∧ w3.cell? ⟨wd.heap.size, 1, none⟩ = some (.slice A' ws.length c') := ⟨by go_simp, by go_simp⟩
        go_wp2_with fail
        refine (lSizeOf_any D hD0 hD1 _).mono ?_; rintro e5 w5 ⟨rfl, rfl⟩; rw [HPD.out]
        go_wp2_with fail
        refine (lSizeOf_any ss hs0 hs5 _).mono ?_; rintro e7 w7 ⟨rfl, rfl⟩; rw [HPS.out]
        have g1 := HG1.out
        have g2 := HG2.out
        have hw1 := HW1.out
        have hw2 := HW2.out
        go_wp2_with fail
        clear hw1 hw2 g1 g2
        refine (TreeOk_any _ _ _ _ _ _ (HRW.out.later HB3.out) (HTD.out.later HB3.out)).mono ?_; rintro e8 w8 ⟨rfl, hb8⟩; rw [HTR9.out]
        have HB8 := Lib.hid (bstep (B := wd.heap.size) (W := wd) HB3.out HB3.out.size hb8)
        have k8 := keep2 hb8 k3 hz3_0
        obtain ⟨k80, k81⟩ := k8
        clear hb8
        have g3 := HG3.out
        have hw3 := HW3.out
        have hw4 := HW4.out
        have hw5 := HW5.out
        go_wp2_with fail
        go_ret
        exact ⟨rfl, bstep HBD.out hzd HB8.out⟩
      · have g4 : decide (Q ≤ 1) = true := by rw [decide_eq_true_eq]; exact HONE.out rfl
        go_wp2_with fail
        refine (NodesOf_any _ _ _ _ _ _ (HRW.out.later (by have := HB2.out; go_grown))).mono ?_; rintro e w3 ⟨rfl, hb3⟩
        rw [HNO.out]
        obtain ⟨hc3, hf3⟩ := bcell hb3
        have hz3_0 : wd.heap.size < w3.heap.size := by have hq := hb3.size; (try simp at hq); omega
        have HK3 := Lib.hid hb3
        have HB3 := Lib.hid (bstep (B := wd.heap.size) (W := wd) (by have hp := HB2.out; go_grown) (by go_size) hb3); clear hb3
        have k3 : w3.cell? ⟨wd.heap.size, 0, none⟩ = some (.int .i64 m) ∧ w3.cell? ⟨wd.heap.size, 1, none⟩ = some (.slice A' ws.length c') := ⟨by go_simp, by go_simp⟩
        go_wp2_with fail
        refine (lSizeOf_any D hD0 hD1 _).mono ?_; rintro e5 w5 ⟨rfl, rfl⟩; rw [HPD.out]
        go_wp2_with fail
        refine (lSizeOf_any ss hs0 hs5 _).mono ?_; rintro e7 w7 ⟨rfl, rfl⟩; rw [HPS.out]
        have g1 := HG1.out
        have g2 := HG2.out
        have hw1 := HW1.out
        have hw2 := HW2.out
        go_wp2_with fail
        clear hw1 hw2 g1 g2
        refine (TreeOk_any _ _ _ _ _ _ (HRW.out.later HB3.out) (HTD.out.later HB3.out)).mono ?_; rintro e8 w8 ⟨rfl, hb8⟩; rw [HTR9.out]
        have HB8 := Lib.hid (bstep (B := wd.heap.size) (W := wd) HB3.out HB3.out.size hb8)
        have k8 := keep2 hb8 k3 hz3_0
        obtain ⟨k80, k81⟩ := k8
        clear hb8
        have g3 := HG3.out
        have hw3 := HW3.out
        have hw4 := HW4.out
        have hw5 := HW5.out
        go_wp2_with fail
        go_ret
        exact ⟨rfl, bstep HBD.out hzd HB8.out⟩
end Go.Proofs.YtnnpooemdonbhaaDoor
