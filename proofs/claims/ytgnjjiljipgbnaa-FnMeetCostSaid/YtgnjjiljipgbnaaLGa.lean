/- The law of MeetCost. -/
import Derived.Test.YtgnjjiljipgbnaaPoI
import Derived.Test.YtgnjjiljipgbnaaPoD
import Derived.Test.YtgnjjiljipgbnaaWC
import Derived.Test.YtgnjjiljipgbnaaWSb
set_option linter.unusedSimpArgs false
set_option linter.unusedVariables false
attribute [local go_sem ↓] Go.wp_at_zero Go.wp_at_succ
namespace Go.Proofs.Ytgnjjiljipgbnaa
open Go.ChangeShapes Go.WideShapes Go.ChangeAt Go.RowKit

/-- what the law of MeetCost says of points and a point -/
theorem meet_facts {ps : List (Int × Int)} {qa qb : Int} (h : (pointsOk ps && ptIn (qa, qb)) = true) : ∃ n H X : Int, meetCost ps (qa, qb) = n ∧ 0 ≤ n ∧ n ≤ 240 ∧ halfRound ps = H ∧ H ≤ n ∧ meetCost ps (qa, qb + 1) = X ∧ (X < 0 ∨ (X ≤ n + ps.length ∧ n - ps.length ≤ X)) ∧ ps.length ≤ 6 ∧ (middleOk ps = true → meetCost ps (middleOf ps) = H) := by
  have h' := h
  rw [Bool.and_eq_true] at h
  obtain ⟨h1, h2, h3⟩ := pointsOk_t h.1
  have hb := box_meet (ps := ps) (by omega) (qa, qb)
  have hbd := sumA_bd (ptIn_t h.2) h3
  refine ⟨sumA (qa, qb) ps, boxOf ps, meetCost ps (qa, qb + 1), by unfold meetCost; rw [if_pos h'], hb.2, by omega, by unfold halfRound; rw [if_pos h.1], hb.1, rfl, ?_, h2, fun hm => ?_⟩
  · unfold meetCost
    split
    · right
      exact sumA_next (qa, qb) ps
    · left; decide
  · obtain ⟨_, _, e1, e2⟩ := middle_t hm
    have hin := ptIn_mk (mid_in hm)
    rw [e1]
    unfold meetCost
    rw [h.1, hin]
    exact (if_pos rfl).trans e2
theorem meet_none {ps : List (Int × Int)} {q : Int × Int} (h : (pointsOk ps && ptIn q) = false) : meetCost ps q = -1 := by unfold meetCost; rw [h]; rfl
set_option maxRecDepth 100000 in
set_option maxHeartbeats 4000000 in
theorem FnMeetCost_walk (A : Option Addr) (len cap : Nat) (w : World) (hr : RB w w.heap.size A len) (hc : len ≤ cap) (hlen : len ≤ 9223372036854775807) :
    Calls Try.prog 7 #[.slice A len cap] w fun e w' => e = .returned (.bool true) ∧ Below w.heap.size w w' := by
  have HR := Lib.hid hr
  clear hr
  by_cases hm : 1048576 < len
  · go_enter Try.func7, Try.ntmps7
    go_wp2_with fail
    go_ret
    exact ⟨rfl, Below.refl _ _⟩
  · go_enter Try.func7, Try.ntmps7
    go_wp2_with fail
    refine (DrawMeetCost_any A len cap _ HR.out hc (by omega)).mono ?_
    rintro e wd ⟨bc, cc, ps, qa, qb, rfl, hri, hl12, hcc, hqa0, hqa1, hqb0, hqb1, hbd⟩
    have HRI := Lib.hid hri
    have HBD := Lib.hid hbd
    have hzd : w.heap.size ≤ wd.heap.size := hbd.size
    have hpm : ps.length ≤ 1073741824 := by omega
    clear hri hbd
    cases hX : (pointsOk ps && ptIn (qa, qb))
    · have HN := Lib.hid (meet_none hX)
      clear hX
      go_wp2_with fail
      refine (MeetCost_any qa qb _ _ _ _ (HRI.out.later (by go_grown)) hpm).mono ?_; rintro e w1 ⟨rfl, hb1⟩
      rw [HN.out]
      obtain ⟨hc1, hf1⟩ := bcell hb1
      have hz1_0 : wd.heap.size < w1.heap.size := by have hq := hb1.size; (try simp at hq); omega
      have HK1 := Lib.hid hb1
      have HB1 := Lib.hid (bstep (B := wd.heap.size) (W := wd) (by (try have hp := HB0.out); go_grown) (by go_size) hb1); clear hb1
      go_wp2_with fail
      refine (sMeetCost_any qa qb _ _ _ _ (HRI.out.later (by have := HB1.out; go_grown)) hpm).mono ?_; rintro e w2 ⟨rfl, hb2⟩
      rw [HN.out]
      obtain ⟨hc2, hf2⟩ := bcell hb2
      have hz2_0 : wd.heap.size < w2.heap.size := by have hq := hb2.size; (try simp at hq); omega
      have HK2 := Lib.hid hb2
      have HB2 := Lib.hid (bstep (B := wd.heap.size) (W := wd) (by have hp := HB1.out; go_grown) (by go_size) hb2); clear hb2
      go_wp2_with fail
      refine (alive_any _).mono ?_; rintro e w3 ⟨rfl, hb3⟩
      obtain ⟨hc3, hf3⟩ := bcell hb3
      have hz3_0 : wd.heap.size < w3.heap.size := by have hq := hb3.size; (try simp at hq); omega
      have HK3 := Lib.hid hb3
      have HB3 := Lib.hid (bstep (B := wd.heap.size) (W := wd) (by have hp := HB2.out; go_grown) (by go_size) hb3); clear hb3
      go_wp2_with fail
      go_ret
      exact ⟨rfl, bstep HBD.out hzd HB3.out⟩
    · obtain ⟨n, H, X, hn, hn0, hn1, hh, hHn, hx, hxc, hl6, hM⟩ := meet_facts hX
      have HN := Lib.hid hn
      have HH := Lib.hid hh
      have HX := Lib.hid hx
      clear hX hn hh hx
      have v0 : IntKind.i64.wrap (qb + 1) = qb + 1 := IntWalk.i64_in _ ⟨by omega, by omega⟩
      have v1 : wrap64 (qb + 1) = qb + 1 := IntWalk.wrap64_in _ ⟨by omega, by omega⟩
      have d1 : decide (H ≤ n) = true := decide_eq_true hHn
      go_wp2_with fail
      refine (MeetCost_any qa qb _ _ _ _ (HRI.out.later (by go_grown)) hpm).mono ?_; rintro e w1 ⟨rfl, hb1⟩
      rw [HN.out]
      obtain ⟨hc1, hf1⟩ := bcell hb1
      have hz1_0 : wd.heap.size < w1.heap.size := by have hq := hb1.size; (try simp at hq); omega
      have HK1 := Lib.hid hb1
      have HB1 := Lib.hid (bstep (B := wd.heap.size) (W := wd) (by (try have hp := HB0.out); go_grown) (by go_size) hb1); clear hb1
      go_wp2_with fail
      refine (sMeetCost_any qa qb _ _ _ _ (HRI.out.later (by have := HB1.out; go_grown)) hpm).mono ?_; rintro e w2 ⟨rfl, hb2⟩
      rw [HN.out]
      obtain ⟨hc2, hf2⟩ := bcell hb2
      have hz2_0 : wd.heap.size < w2.heap.size := by have hq := hb2.size; (try simp at hq); omega
      have HK2 := Lib.hid hb2
      have HB2 := Lib.hid (bstep (B := wd.heap.size) (W := wd) (by have hp := HB1.out; go_grown) (by go_size) hb2); clear hb2
      go_wp2_with fail
      refine (MeetCost_any qa (qb + 1) _ _ _ _ (HRI.out.later (by have := HB2.out; go_grown)) hpm).mono ?_; rintro e w3 ⟨rfl, hb3⟩
      rw [HX.out]
      obtain ⟨hc3, hf3⟩ := bcell hb3
      have hz3_0 : wd.heap.size < w3.heap.size := by have hq := hb3.size; (try simp at hq); omega
      have HK3 := Lib.hid hb3
      have HB3 := Lib.hid (bstep (B := wd.heap.size) (W := wd) (by have hp := HB2.out; go_grown) (by go_size) hb3); clear hb3
      go_wp2_with fail
      refine (MiddleOf_any _ _ _ _ (HRI.out.later (by have := HB3.out; go_grown)) hpm).mono ?_; rintro e w4 ⟨rfl, hb4⟩
      obtain ⟨hc4, hf4⟩ := bcell hb4
      have hz4_0 : wd.heap.size < w4.heap.size := by have hq := hb4.size; (try simp at hq); omega
      have HK4 := Lib.hid hb4
      have HB4 := Lib.hid (bstep (B := wd.heap.size) (W := wd) (by have hp := HB3.out; go_grown) (by go_size) hb4); clear hb4
      cases ho : middleOk ps
      · have HO : Hid (middleOk ps = false) := ho
        clear ho hM
        by_cases hx0 : X < 0
        · clear hxc
          go_wp2_with fail
          refine (HalfRound_any _ _ _ _ (HRI.out.later (by have := HB4.out; go_grown)) hpm).mono ?_; rintro e w5 ⟨rfl, hb5⟩
          rw [HH.out]
          obtain ⟨hc5, hf5⟩ := bcell hb5
          have hz5_0 : wd.heap.size < w5.heap.size := by have hq := hb5.size; (try simp at hq); omega
          have hz5_1 : w4.heap.size < w5.heap.size := by have hq := hb5.size; (try simp at hq); omega
          have HK5 := Lib.hid hb5
          have HB5 := Lib.hid (bstep (B := wd.heap.size) (W := wd) (by have hp := HB4.out; go_grown) (by go_size) hb5); clear hb5
          go_wp2_with fail
          go_ret
          exact ⟨rfl, bstep HBD.out hzd HB5.out⟩
        · have hx1 : X ≤ n + ps.length ∧ n - ps.length ≤ X := by omega
          have d2 : decide (X ≤ n + (ps.length : Int)) = true := decide_eq_true hx1.1
          have d3 : decide (n - (ps.length : Int) ≤ X) = true := decide_eq_true hx1.2
          have v2 : IntKind.i64.wrap (n + (ps.length : Int)) = n + ps.length := IntWalk.i64_in _ ⟨by omega, by omega⟩
          have v3 : wrap64 (n + (ps.length : Int)) = n + ps.length := IntWalk.wrap64_in _ ⟨by omega, by omega⟩
          have v4 : IntKind.i64.wrap (n - (ps.length : Int)) = n - ps.length := IntWalk.i64_in _ ⟨by omega, by omega⟩
          have v5 : wrap64 (n - (ps.length : Int)) = n - ps.length := IntWalk.wrap64_in _ ⟨by omega, by omega⟩
          go_wp2_with fail
          refine (HalfRound_any _ _ _ _ (HRI.out.later (by have := HB4.out; go_grown)) hpm).mono ?_; rintro e w5 ⟨rfl, hb5⟩
          rw [HH.out]
          obtain ⟨hc5, hf5⟩ := bcell hb5
          have hz5_0 : wd.heap.size < w5.heap.size := by have hq := hb5.size; (try simp at hq); omega
          have hz5_1 : w4.heap.size < w5.heap.size := by have hq := hb5.size; (try simp at hq); omega
          have HK5 := Lib.hid hb5
          have HB5 := Lib.hid (bstep (B := wd.heap.size) (W := wd) (by have hp := HB4.out; go_grown) (by go_size) hb5); clear hb5
          go_wp2_with fail
          go_ret
          exact ⟨rfl, bstep HBD.out hzd HB5.out⟩
      · have HO : Hid (middleOk ps = true) := ho
        have HMM := Lib.hid (hM ho)
        clear ho hM
        by_cases hx0 : X < 0
        · clear hxc
          go_wp2_with fail
          refine (HalfRound_any _ _ _ _ (HRI.out.later (by have := HB4.out; go_grown)) hpm).mono ?_; rintro e w5 ⟨rfl, hb5⟩
          rw [HH.out]
          obtain ⟨hc5, hf5⟩ := bcell hb5
          have hz5_0 : wd.heap.size < w5.heap.size := by have hq := hb5.size; (try simp at hq); omega
          have hz5_1 : w4.heap.size < w5.heap.size := by have hq := hb5.size; (try simp at hq); omega
          have HK5 := Lib.hid hb5
          have HB5 := Lib.hid (bstep (B := wd.heap.size) (W := wd) (by have hp := HB4.out; go_grown) (by go_size) hb5); clear hb5
          go_wp2_with fail
          refine (MeetCost_any (middleOf ps).1 (middleOf ps).2 _ _ _ _ (HRI.out.later (by have := HB5.out; go_grown)) hpm).mono ?_; rintro e w6 ⟨rfl, hb6⟩
          rw [HMM.out]
          obtain ⟨hc6, hf6⟩ := bcell hb6
          have hz6_0 : wd.heap.size < w6.heap.size := by have hq := hb6.size; (try simp at hq); omega
          have HK6 := Lib.hid hb6
          have HB6 := Lib.hid (bstep (B := wd.heap.size) (W := wd) (by have hp := HB5.out; go_grown) (by go_size) hb6); clear hb6
          go_wp2_with fail
          go_ret
          exact ⟨rfl, bstep HBD.out hzd HB6.out⟩
        · have hx1 : X ≤ n + ps.length ∧ n - ps.length ≤ X := by omega
          have d2 : decide (X ≤ n + (ps.length : Int)) = true := decide_eq_true hx1.1
          have d3 : decide (n - (ps.length : Int) ≤ X) = true := decide_eq_true hx1.2
          have v2 : IntKind.i64.wrap (n + (ps.length : Int)) = n + ps.length := IntWalk.i64_in _ ⟨by omega, by omega⟩
          have v3 : wrap64 (n + (ps.length : Int)) = n + ps.length := IntWalk.wrap64_in _ ⟨by omega, by omega⟩
          have v4 : IntKind.i64.wrap (n - (ps.length : Int)) = n - ps.length := IntWalk.i64_in _ ⟨by omega, by omega⟩
          have v5 : wrap64 (n - (ps.length : Int)) = n - ps.length := IntWalk.wrap64_in _ ⟨by omega, by omega⟩
          go_wp2_with fail
          refine (HalfRound_any _ _ _ _ (HRI.out.later (by have := HB4.out; go_grown)) hpm).mono ?_; rintro e w5 ⟨rfl, hb5⟩
          rw [HH.out]
          obtain ⟨hc5, hf5⟩ := bcell hb5
          have hz5_0 : wd.heap.size < w5.heap.size := by have hq := hb5.size; (try simp at hq); omega
          have hz5_1 : w4.heap.size < w5.heap.size := by have hq := hb5.size; (try simp at hq); omega
          have HK5 := Lib.hid hb5
          have HB5 := Lib.hid (bstep (B := wd.heap.size) (W := wd) (by have hp := HB4.out; go_grown) (by go_size) hb5); clear hb5
          go_wp2_with fail
          refine (MeetCost_any (middleOf ps).1 (middleOf ps).2 _ _ _ _ (HRI.out.later (by have := HB5.out; go_grown)) hpm).mono ?_; rintro e w6 ⟨rfl, hb6⟩
          rw [HMM.out]
          obtain ⟨hc6, hf6⟩ := bcell hb6
          have hz6_0 : wd.heap.size < w6.heap.size := by have hq := hb6.size; (try simp at hq); omega
          have HK6 := Lib.hid hb6
          have HB6 := Lib.hid (bstep (B := wd.heap.size) (W := wd) (by have hp := HB5.out; go_grown) (by go_size) hb6); clear hb6
          go_wp2_with fail
          go_ret
          exact ⟨rfl, bstep HBD.out hzd HB6.out⟩

end Go.Proofs.Ytgnjjiljipgbnaa
