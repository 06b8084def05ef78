/- The law of MiddleOf. -/
import Derived.Test.YtgnjjiljipgbnaaPoI
import Derived.Test.YtgnjjiljipgbnaaPoD
import Derived.Test.YtgnjjiljipgbnaaWC
import Derived.Test.YtgnjjiljipgbnaaWSb
set_option linter.unusedSimpArgs false
set_option linter.unusedVariables false
attribute [local go_sem ↓] Go.wp_at_zero Go.wp_at_succ
namespace Go.Proofs.Ytgnjjiljipgbnaa
open Go.ChangeShapes Go.WideShapes Go.ChangeAt Go.RowKit

theorem mid_cost {ps : List (Int × Int)} (h : middleOk ps = true) : meetCost ps (middleOf ps) = halfRound ps ∧ halfRound ps = boxOf ps ∧ 0 ≤ boxOf ps ∧ boxOf ps ≤ 40 ∧ ∀ p, p ∈ ps → boxOf ps ≤ meetCost ps p := by
  obtain ⟨h1, h3, e1, e2⟩ := middle_t h
  have hin := ptIn_mk (mid_in h)
  have hb := box_bd h1
  have hall := (pointsOk_t h1).2.2
  have eh : halfRound ps = boxOf ps := by unfold halfRound; rw [if_pos h1]
  refine ⟨?_, eh, hb.1, hb.2, fun p hp => ?_⟩
  · rw [e1, eh]
    unfold meetCost
    rw [h1, hin]
    exact (if_pos rfl).trans e2
  · have hpi := ptIn_mk (hall p hp)
    unfold meetCost
    rw [h1, hpi]
    rw [show (if (true && true) = true then sumA p ps else (-1 : Int)) = sumA p ps from if_pos rfl]
    exact (box_meet (by omega) p).1
theorem mid_none {ps : List (Int × Int)} (h : middleOk ps = false) : middleOf ps = (0, 0) := by unfold middleOf; rw [h]; rfl
set_option maxRecDepth 100000 in
set_option maxHeartbeats 4000000 in
theorem FnMiddleOf_walk (A : Option Addr) (len cap : Nat) (w : World) (hr : RB w w.heap.size A len) (hc : len ≤ cap) (hlen : len ≤ 9223372036854775807) :
    Calls Try.prog 6 #[.slice A len cap] w fun e w' => e = .returned (.bool true) ∧ Below w.heap.size w w' := by
  have HR := Lib.hid hr
  clear hr
  by_cases hm : 1048576 < len
  · go_enter Try.func6, Try.ntmps6
    go_wp2_with fail
    go_ret
    exact ⟨rfl, Below.refl _ _⟩
  · go_enter Try.func6, Try.ntmps6
    go_wp2_with fail
    refine (DrawMiddleOf_any A len cap _ HR.out hc (by omega)).mono ?_
    rintro e wd ⟨bc, cc, ps, rfl, hri, hl12, hcc, hbd⟩
    have HRI := Lib.hid hri
    have HBD := Lib.hid hbd
    have hzd : w.heap.size ≤ wd.heap.size := hbd.size
    have hpm : ps.length ≤ 1073741824 := by omega
    clear hri hbd
    have HMI : Hid (∀ W : World, RC W W.heap.size (some ⟨bc, 0, none⟩) ps → Calls Try.prog 25 #[.slice (some ⟨bc, 0, none⟩) ps.length cc] W fun e w' => e = .returned (.tuple #[.agg #[.int .i64 (middleOf ps).1, .int .i64 (middleOf ps).2], .bool (middleOk ps)]) ∧ Below W.heap.size W w') := fun W h => MiddleOf_any _ _ _ W h hpm
    have HMS : Hid (∀ W : World, RC W W.heap.size (some ⟨bc, 0, none⟩) ps → Calls Try.prog 26 #[.slice (some ⟨bc, 0, none⟩) ps.length cc] W fun e w' => e = .returned (.tuple #[.agg #[.int .i64 (middleOf ps).1, .int .i64 (middleOf ps).2], .bool (middleOk ps)]) ∧ Below W.heap.size W w') := fun W h => sMiddleOf_any _ _ _ W h hpm
    have HMC : Hid (middleOk ps = true → ∀ W : World, RC W W.heap.size (some ⟨bc, 0, none⟩) ps → Calls Try.prog 27 #[.slice (some ⟨bc, 0, none⟩) ps.length cc, .agg #[.int .i64 (middleOf ps).1, .int .i64 (middleOf ps).2]] W fun e w' => e = .returned (.int .i64 (boxOf ps)) ∧ Below W.heap.size W w') := fun ho W h => by
      have h9 := MeetCost_any (middleOf ps).1 (middleOf ps).2 (some ⟨bc, 0, none⟩) cc ps W h hpm
      have e9 : meetCost ps ((middleOf ps).1, (middleOf ps).2) = boxOf ps := (mid_cost ho).1.trans (mid_cost ho).2.1
      rw [e9] at h9
      exact h9
    have HM0 : Hid (middleOk ps = false → (middleOf ps).1 = 0 ∧ (middleOf ps).2 = 0) := fun ho => by rw [mid_none ho]; exact ⟨rfl, rfl⟩
    obtain ⟨m1, hm1⟩ : ∃ m, (middleOf ps).1 = m := ⟨_, rfl⟩
    obtain ⟨m2, hm2⟩ : ∃ m, (middleOf ps).2 = m := ⟨_, rfl⟩
    rw [hm1, hm2] at HMI HMS HMC HM0
    clear hm1 hm2
    cases ho : middleOk ps
    · rw [ho] at HMI HMS
      obtain ⟨e1, e2⟩ := HM0.out ho
      subst e1; subst e2
      obtain ⟨O, hO⟩ : ∃ O, pointsOk ps = O := ⟨_, rfl⟩
      have HO := Lib.hid hO
      have hor : O = false ∨ (ps.length : Int) ≠ 3 := by
        cases hq : O
        · exact .inl rfl
        · right
          intro h3
          unfold middleOk at ho
          rw [hO, hq] at ho
          simp at ho
          omega
      clear ho hO HMC HM0
      go_wp2_with fail
      refine (HMI.out _ (HRI.out.later (by go_grown))).mono ?_; rintro e w1 ⟨rfl, hb1⟩
      obtain ⟨hc1, hf1⟩ := bcell hb1
      have HK1 := Lib.hid hb1
      have HB1 := Lib.hid (bstep (B := wd.heap.size) (W := wd) (by (try have hp := HB0.out); go_grown) (by go_size) hb1); clear hb1
      have hs1 : wd.heap.size ≤ w1.heap.size := HB1.out.size
      go_wp2_with fail
      refine (HMS.out _ (HRI.out.later (by have := HB1.out; go_grown))).mono ?_; rintro e w2 ⟨rfl, hb2⟩
      obtain ⟨hc2, hf2⟩ := bcell hb2
      have hz2_0 : w1.heap.size < w2.heap.size := by have hq := hb2.size; (try simp at hq); omega
      have HK2 := Lib.hid hb2
      have HB2 := Lib.hid (bstep (B := wd.heap.size) (W := wd) (by have hp := HB1.out; go_grown) (by go_size) hb2); clear hb2
      have hs2 : wd.heap.size ≤ w2.heap.size := HB2.out.size
      go_wp2_with fail
      refine (PointsOk_any _ _ _ _ (HRI.out.later (by have := HB2.out; go_grown)) hpm).mono ?_; rintro e w3 ⟨rfl, hb3⟩
      rw [HO.out]
      have HB3 := Lib.hid (bstep (B := wd.heap.size) (W := wd) (by have hp := HB2.out; go_grown) (by have := HB2.out.size; simp; omega) hb3); clear hb3
      rcases hor with h | h
      · subst h
        go_wp2_with fail
        refine (alive_any _).mono ?_; rintro e w4 ⟨rfl, hb4⟩
        have HB4 := Lib.hid (bstep (B := wd.heap.size) (W := wd) HB3.out HB3.out.size hb4); clear hb4
        go_wp2_with fail
        go_ret
        exact ⟨rfl, bstep HBD.out hzd HB4.out⟩
      · cases O
        · go_wp2_with fail
          refine (alive_any _).mono ?_; rintro e w4 ⟨rfl, hb4⟩
          have HB4 := Lib.hid (bstep (B := wd.heap.size) (W := wd) HB3.out HB3.out.size hb4); clear hb4
          go_wp2_with fail
          go_ret
          exact ⟨rfl, bstep HBD.out hzd HB4.out⟩
        · have d3 : ((ps.length : Int) != 3) = true := bne_iff_ne.2 h
          go_wp2_with fail
          refine (alive_any _).mono ?_; rintro e w4 ⟨rfl, hb4⟩
          have HB4 := Lib.hid (bstep (B := wd.heap.size) (W := wd) HB3.out HB3.out.size hb4); clear hb4
          go_wp2_with fail
          go_ret
          exact ⟨rfl, bstep HBD.out hzd HB4.out⟩
    · rw [ho] at HMI HMS
      obtain ⟨_, hh, hb0, hb1, hal⟩ := mid_cost ho
      have HC := Lib.hid (HMC.out ho)
      have HH := Lib.hid hh
      have HAL := Lib.hid hal
      obtain ⟨H, hH⟩ : ∃ H, boxOf ps = H := ⟨_, rfl⟩
      rw [hH] at HH HAL HC hb0 hb1
      clear hh hal ho HMC HM0 hH
      go_wp2_with fail
      refine (HMI.out _ (HRI.out.later (by go_grown))).mono ?_; rintro e w1 ⟨rfl, hb1⟩
      obtain ⟨hc1, hf1⟩ := bcell hb1
      have HK1 := Lib.hid hb1
      have HB1 := Lib.hid (bstep (B := wd.heap.size) (W := wd) (by (try have hp := HB0.out); go_grown) (by go_size) hb1); clear hb1
      have hs1 : wd.heap.size ≤ w1.heap.size := HB1.out.size
      go_wp2_with fail
      refine (HMS.out _ (HRI.out.later (by have := HB1.out; go_grown))).mono ?_; rintro e w2 ⟨rfl, hb2⟩
      obtain ⟨hc2, hf2⟩ := bcell hb2
      have hz2_0 : w1.heap.size < w2.heap.size := by have hq := hb2.size; (try simp at hq); omega
      have HK2 := Lib.hid hb2
      have HB2 := Lib.hid (bstep (B := wd.heap.size) (W := wd) (by have hp := HB1.out; go_grown) (by go_size) hb2); clear hb2
      have hs2 : wd.heap.size ≤ w2.heap.size := HB2.out.size
      go_wp2_with fail
      refine (HalfRound_any _ _ _ _ (HRI.out.later (by have := HB2.out; go_grown)) hpm).mono ?_; rintro e w3 ⟨rfl, hb3⟩
      rw [HH.out]
      obtain ⟨hc3, hf3⟩ := bcell hb3
      have hz3_0 : w1.heap.size < w3.heap.size := by have hq := hb3.size; (try simp at hq); omega
      have HK3 := Lib.hid hb3
      have HB3 := Lib.hid (bstep (B := wd.heap.size) (W := wd) (by have hp := HB2.out; go_grown) (by go_size) hb3); clear hb3
      have k3 : w3.cell? ⟨w1.heap.size, 0, none⟩ = some (.int .i64 m1) ∧ w3.cell? ⟨w1.heap.size, 1, none⟩ = some (.int .i64 m2) := ⟨by go_simp, by go_simp⟩
      obtain ⟨k30, k31⟩ := k3
      have hz13 : w1.heap.size < w3.heap.size := by omega
      clear hc1 hf1 hc2 hf2 hc3 hf3 HB1 HB2 HK1 HK2 HK3
      go_wp2_with fail
      go_loopw [9] (fun i wr => ∃ k : Nat, k ≤ ps.length ∧ i = .int .i64 k ∧ wr.cell? ⟨w1.heap.size, 0, none⟩ = some (.int .i64 m1) ∧ wr.cell? ⟨w1.heap.size, 1, none⟩ = some (.int .i64 m2) ∧ Below wd.heap.size wd wr ∧ w1.heap.size < wr.heap.size) (fun i _ => ps.length - (intOf i).toNat)
      case atStart => exact ⟨0, Nat.zero_le _, rfl, k30, k31, HB3.out, hz13⟩
      case round =>
        clear k30 k31 HB3 hz13
        obtain ⟨k, hk, rfl, b0, b1, hb, hz⟩ := hrel
        have HB0 := Lib.hid hb
        clear hb
        have hzr : wd.heap.size ≤ wr.heap.size := HB0.out.size
        by_cases hlk : k < ps.length
        · obtain ⟨⟨pa, pb⟩, hx⟩ : ∃ x, ps[k]? = some x := ⟨_, List.getElem?_eq_getElem hlk⟩
          obtain ⟨b, o, e9, hB9, c0, c1'⟩ := (HRI.out.below HB0.out) k _ hx
          injection e9 with e9; injection e9 with e91 e92; subst e91; subst e92
          simp only [Nat.zero_add] at c0 c1'
          have k0 : (0 : Int) ≤ (k : Int) := by omega
          have k1 : (k : Int) < (ps.length : Int) := by omega
          have hle := HAL.out (pa, pb) (List.mem_of_getElem? hx)
          obtain ⟨X, hX⟩ : ∃ X, meetCost ps (pa, pb) = X := ⟨_, rfl⟩
          rw [hX] at hle
          have HX := Lib.hid hX
          have d1 : decide (X < H) = false := decide_eq_false (by omega)
          clear hx hX
          go_wp2_with fail
          refine (MeetCost_any pa pb _ _ _ _ (HRI.out.later (by have := HB0.out; go_grown)) hpm).mono ?_; rintro e w4 ⟨rfl, hb4⟩
          rw [HX.out]
          have hb4' : Below wr.heap.size wr w4 := hb4
          have q0 := (hb4'.cell (p := ⟨w1.heap.size, 0, none⟩) hz).trans b0
          have q1 := (hb4'.cell (p := ⟨w1.heap.size, 1, none⟩) hz).trans b1
          have hz4 : w1.heap.size < w4.heap.size := Nat.lt_of_lt_of_le hz hb4'.size
          have HB4 := Lib.hid (bstep (B := wd.heap.size) (W := wd) HB0.out hzr hb4'); clear hb4 hb4' b0 b1 c0 c1'
          go_wp2_with fail
          go_roundw
          case rel => exact ⟨k + 1, by omega, by go_num, q0, q1, HB4.out, hz4⟩
          case measure => (simp [intOf]) <;> omega
        · obtain rfl : k = ps.length := by omega
          go_wp2_with fail
          refine (HC.out wr (HRI.out.later HB0.out)).mono ?_; rintro e w4 ⟨rfl, hb4⟩
          have HB4 := Lib.hid (bstep (B := wd.heap.size) (W := wd) HB0.out HB0.out.size hb4); clear hb4
          go_wp2_with fail
          go_ret
          exact ⟨rfl, bstep HBD.out hzd HB4.out⟩
end Go.Proofs.Ytgnjjiljipgbnaa
