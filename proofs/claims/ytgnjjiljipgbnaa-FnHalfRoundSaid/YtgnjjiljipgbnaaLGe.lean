/- The law of HalfRound: a point more makes no box smaller. -/
import Derived.Test.YtgnjjiljipgbnaaPoI
import Derived.Test.YtgnjjiljipgbnaaPoD
import Derived.Test.YtgnjjiljipgbnaaWC
import Derived.Test.YtgnjjiljipgbnaaWSb
import Derived.Test.YtgnjjiljipgbnaaCuA
set_option linter.unusedSimpArgs false
set_option linter.unusedVariables false
attribute [local go_sem ↓] Go.wp_at_zero Go.wp_at_succ
namespace Go.Proofs.Ytgnjjiljipgbnaa
open Go.ChangeShapes Go.WideShapes Go.ChangeAt Go.RowKit

theorem half_no {ps : List (Int × Int)} (h : pointsOk ps = false) : halfRound ps = -1 := by unfold halfRound; rw [h]; rfl
theorem half_is {ps : List (Int × Int)} (h : pointsOk ps = true) : halfRound ps = boxOf ps := by unfold halfRound; rw [if_pos h]
theorem far_two {ps : List (Int × Int)} {i j : Nat} (h : pointsOk ps = true) (hi : i < ps.length) (hj : j < ps.length) : pointsFar ps i j = apart (ptAt ps i) (ptAt ps j) := by
  have e1 : inB (i : Int) 0 ((ps.length : Int) - 1) = true := by unfold inB; simp; omega
  have e2 : inB (j : Int) 0 ((ps.length : Int) - 1) = true := by unfold inB; simp; omega
  unfold pointsFar
  rw [h, e1, e2]
  exact (if_pos rfl).trans rfl
theorem pts_sub {ps qs : List (Int × Int)} (h : pointsOk ps = true) (h1 : 1 ≤ qs.length) (h2 : qs.length ≤ 6) (hs : ∀ p, p ∈ qs → p ∈ ps) : pointsOk qs = true :=
  pointsOk_mk h1 h2 fun p hp => (pointsOk_t h).2.2 p (hs p hp)
set_option maxRecDepth 100000 in
set_option maxHeartbeats 4000000 in
theorem FnHalfRound_walk (A : Option Addr) (len cap : Nat) (w : World) (hr : RB w w.heap.size A len) (hc : len ≤ cap) (hlen : len ≤ 9223372036854775807) :
    Calls Try.prog 5 #[.slice A len cap] w fun e w' => e = .returned (.bool true) ∧ Below w.heap.size w w' := by
  have HR := Lib.hid hr
  clear hr
  by_cases hm : 1048576 < len
  · go_enter Try.func5, Try.ntmps5
    go_wp2_with fail
    go_ret
    exact ⟨rfl, Below.refl _ _⟩
  · go_enter Try.func5, Try.ntmps5
    go_wp2_with fail
    refine (DrawHalfRound_any A len cap _ HR.out hc (by omega)).mono ?_
    rintro e wd ⟨bc, cc, ps, rfl, hri, hl12, hcc, hbd⟩
    have HRI := Lib.hid hri
    have HBD := Lib.hid hbd
    have hzd : w.heap.size ≤ wd.heap.size := hbd.size
    have hpm : ps.length ≤ 1073741824 := by omega
    clear hri hbd
    cases hok : pointsOk ps
    · have HN := Lib.hid (half_no hok)
      have HOK := Lib.hid hok
      clear hok
      go_wp2_with fail
      refine (HalfRound_any _ _ _ _ (HRI.out.later (by go_grown)) hpm).mono ?_; rintro e w1 ⟨rfl, hb1⟩
      rw [HN.out]
      obtain ⟨hc1, hf1⟩ := bcell hb1
      have HK1 := Lib.hid hb1
      have HB1 := Lib.hid (bstep (B := wd.heap.size) (W := wd) (by (try have hp := HB0.out); go_grown) (by go_size) hb1); clear hb1
      have hs1 : wd.heap.size ≤ w1.heap.size := HB1.out.size
      go_wp2_with fail
      refine (sHalfRound_any _ _ _ _ (HRI.out.later (by have := HB1.out; go_grown)) hpm).mono ?_; rintro e w2 ⟨rfl, hb2⟩
      rw [HN.out]
      obtain ⟨hc2, hf2⟩ := bcell hb2
      have HK2 := Lib.hid hb2
      have HB2 := Lib.hid (bstep (B := wd.heap.size) (W := wd) (by have hp := HB1.out; go_grown) (by go_size) hb2); clear hb2
      have hs2 : wd.heap.size ≤ w2.heap.size := HB2.out.size
      go_wp2_with fail
      refine (PointsOk_any _ _ _ _ (HRI.out.later (by have := HB2.out; go_grown)) hpm).mono ?_; rintro e w3 ⟨rfl, hb3⟩
      rw [HOK.out]
      obtain ⟨hc3, hf3⟩ := bcell hb3
      have HK3 := Lib.hid hb3
      have HB3 := Lib.hid (bstep (B := wd.heap.size) (W := wd) (by have hp := HB2.out; go_grown) (by go_size) hb3); clear hb3
      have hs3 : wd.heap.size ≤ w3.heap.size := HB3.out.size
      go_wp2_with fail
      refine (alive_any _).mono ?_; rintro e w4 ⟨rfl, hb4⟩
      obtain ⟨hc4, hf4⟩ := bcell hb4
      have HK4 := Lib.hid hb4
      have HB4 := Lib.hid (bstep (B := wd.heap.size) (W := wd) (by have hp := HB3.out; go_grown) (by go_size) hb4); clear hb4
      have hs4 : wd.heap.size ≤ w4.heap.size := HB4.out.size
      go_wp2_with fail
      go_ret
      exact ⟨rfl, bstep HBD.out hzd HB4.out⟩
    · obtain ⟨hl1, hl6, hall⟩ := pointsOk_t hok
      have hbb := box_bd hok
      have hhr := half_is hok
      obtain ⟨H, hH⟩ : ∃ H, boxOf ps = H := ⟨_, rfl⟩
      obtain ⟨L, hL⟩ : ∃ L, ps.length = L := ⟨_, rfl⟩
      rw [hH] at hhr hbb
      have hnn : ¬ H < 0 := by omega
      have HHC : Hid (∀ (W : World), RC W W.heap.size (some ⟨bc, 0, none⟩) ps → Calls Try.prog 21 #[.slice (some ⟨bc, 0, none⟩) L cc] W fun e w' => e = .returned (.int .i64 H) ∧ Below W.heap.size W w') := fun W h => by
        have h9 := HalfRound_any (some ⟨bc, 0, none⟩) cc ps W h hpm
        rw [hhr, hL] at h9; exact h9
      have HHS : Hid (∀ (W : World), RC W W.heap.size (some ⟨bc, 0, none⟩) ps → Calls Try.prog 23 #[.slice (some ⟨bc, 0, none⟩) L cc] W fun e w' => e = .returned (.int .i64 H) ∧ Below W.heap.size W w') := fun W h => by
        have h9 := sHalfRound_any (some ⟨bc, 0, none⟩) cc ps W h hpm
        rw [hhr, hL] at h9; exact h9
      have HFF : Hid (∀ (i j : Nat), i < L → j < L → ∀ (W : World), RC W W.heap.size (some ⟨bc, 0, none⟩) ps → Calls Try.prog 18 #[.slice (some ⟨bc, 0, none⟩) L cc, .int .i64 i, .int .i64 j] W fun e w' => e = .returned (.int .i64 (pointsFar ps i j)) ∧ Below W.heap.size W w') := fun i j hi hj W h => by
        have h9 := PointsFar_any i j (some ⟨bc, 0, none⟩) cc ps W h hpm
        rw [hL] at h9; exact h9
      have HFL : Hid (∀ (i j : Nat), i < L → j < L → pointsFar ps i j ≤ H) := fun i j hi hj => by
        rw [far_two hok (by omega) (by omega), ← hH]
        exact box_far (ptAt_mem (by omega)) (ptAt_mem (by omega))
      by_cases hL1 : L = 1
      · have hH0 : H = 0 := by
          match ps, hL, hH with
          | [p], _, hH => rw [← hH]; exact box_one
          | [], hL, _ => simp at hL; omega
          | _ :: _ :: _, hL, _ => simp at hL; omega
        subst hL1
        subst hH0
        rw [hL]
        clear hok hl1 hl6 hall hhr hH hL HFF HFL hbb
        go_wp2_with fail
        refine (HHC.out _ (HRI.out.later (by go_grown))).mono ?_; rintro e w1 ⟨rfl, hb1⟩
        skip
        obtain ⟨hc1, hf1⟩ := bcell hb1
        have HK1 := Lib.hid hb1
        have HB1 := Lib.hid (bstep (B := wd.heap.size) (W := wd) (by (try have hp := HB0.out); go_grown) (by go_size) hb1); clear hb1
        have hs1 : wd.heap.size ≤ w1.heap.size := HB1.out.size
        go_wp2_with fail
        refine (HHS.out _ (HRI.out.later (by have := HB1.out; go_grown))).mono ?_; rintro e w2 ⟨rfl, hb2⟩
        skip
        obtain ⟨hc2, hf2⟩ := bcell hb2
        have HK2 := Lib.hid hb2
        have HB2 := Lib.hid (bstep (B := wd.heap.size) (W := wd) (by have hp := HB1.out; go_grown) (by go_size) hb2); clear hb2
        have hs2 : wd.heap.size ≤ w2.heap.size := HB2.out.size
        go_wp2_with fail
        refine (alive_any _).mono ?_; rintro e w3 ⟨rfl, hb3⟩
        obtain ⟨hc3, hf3⟩ := bcell hb3
        have HK3 := Lib.hid hb3
        have HB3 := Lib.hid (bstep (B := wd.heap.size) (W := wd) (by have hp := HB2.out; go_grown) (by go_size) hb3); clear hb3
        have hs3 : wd.heap.size ≤ w3.heap.size := HB3.out.size
        go_wp2_with fail
        go_ret
        exact ⟨rfl, bstep HBD.out hzd HB3.out⟩
      · obtain ⟨q, hq⟩ : ∃ q, L = q + 1 := ⟨L - 1, by omega⟩
        have hlt6 : (ps.take q).length = q := by rw [List.length_take]; omega
        have hls : boxOf (ps.take q) ≤ H := by rw [← hH]; exact box_sub (by omega) (fun p hp => List.mem_of_mem_take hp)
        have hpl : pointsOk (ps.take q) = true := pts_sub hok (by omega) (by omega) (fun p hp => List.mem_of_mem_take hp)
        have hhl := half_is hpl
        have hbl := box_bd hpl
        obtain ⟨G, hG⟩ : ∃ G, boxOf (ps.take q) = G := ⟨_, rfl⟩
        rw [hG] at hls hhl hbl
        have HHL : Hid (∀ (W : World) (Ap : Option Addr) (cp : Nat), RC W W.heap.size Ap (ps.take q) → Calls Try.prog 21 #[.slice Ap q cp] W fun e w' => e = .returned (.int .i64 G) ∧ Below W.heap.size W w') := fun W Ap cp h => by
          have h9 := HalfRound_any Ap cp (ps.take q) W h (by omega)
          rw [hhl, hlt6] at h9; exact h9
        have HRO6 : Hid (∀ (W : World) (Ap : Option Addr) (cp : Nat) {base : Nat}, W.ownsRow base 27 2 (.slice Ap q cp) q (ctCells (ps.take q)) → RC W W.heap.size Ap (ps.take q)) := fun W Ap cp base h => by
          have h9 : W.ownsRow base 27 2 (.slice Ap (ps.take q).length cp) (ps.take q).length (ctCells (ps.take q)) := by rw [hlt6]; exact h
          exact rc_of_own h9
        have HLN : Hid ((ctCells (ps.take q)).length = q * 2) := by show _ = _; rw [ctCells_len, hlt6]
        have HF01 : Hid (L = 2 → pointsFar ps 0 1 = H) := fun h2 => by
          have h9 := far_two (i := 0) (j := 1) hok (by omega) (by omega)
          rw [← hH]
          match ps, hL, h9 with
          | [p, r], _, h9 => rw [box_two]; exact h9
          | [], hL, _ => simp at hL; omega
          | [_], hL, _ => simp at hL; omega
          | _ :: _ :: _ :: _, hL, _ => simp at hL; omega
        have HW1 : Hid (IntKind.i64.wrap ((L : Int) - 1) = (q : Int)) := by show _ = _; rw [show (L : Int) - 1 = (q : Int) from by omega]; exact IntWalk.i64_in _ ⟨by omega, by omega⟩
        have HW2 : Hid (wrap64 ((L : Int) - 1) = (q : Int)) := by show _ = _; rw [show (L : Int) - 1 = (q : Int) from by omega]; exact IntWalk.wrap64_in _ ⟨by omega, by omega⟩
        have hmx6 : q ≤ maxLen := by unfold maxLen; omega
        have hby6 : q * 16 ≤ 140737488355328 := by omega
        have q0 : (0 : Int) ≤ (q : Int) := by omega
        have q2 : (q : Int) ≤ (cc : Int) := by omega
        have q3 : q ≤ cc := by omega
        have hLz : ((L : Int) == 1) = false := by rw [beq_eq_false_iff_ne]; omega
        have d1 : decide (G ≤ H) = true := decide_eq_true hls
        have hL2 : L = 2 ∨ 2 < L := by omega
        have hL7 : L ≤ 6 := by omega
        have HQL : Hid (L = q + 1) := hq
        rw [hL]
        obtain ⟨i0, hi0, hz0, hz1', hz2⟩ := info_parts infoPointD
        have hbs := noPoints
        clear hok hl1 hl6 hall hhr hH hL hhl hpl hG hlt6 hls hq hL1 hbl
        go_wp2_with fail
        refine (HHC.out _ (HRI.out.later (by go_grown))).mono ?_; rintro e w1 ⟨rfl, hb1⟩
        skip
        obtain ⟨hc1, hf1⟩ := bcell hb1
        have HK1 := Lib.hid hb1
        have HB1 := Lib.hid (bstep (B := wd.heap.size) (W := wd) (by (try have hp := HB0.out); go_grown) (by go_size) hb1); clear hb1
        have hs1 : wd.heap.size ≤ w1.heap.size := HB1.out.size
        go_wp2_with fail
        refine (HHS.out _ (HRI.out.later (by have := HB1.out; go_grown))).mono ?_; rintro e w2 ⟨rfl, hb2⟩
        skip
        obtain ⟨hc2, hf2⟩ := bcell hb2
        have HK2 := Lib.hid hb2
        have HB2 := Lib.hid (bstep (B := wd.heap.size) (W := wd) (by have hp := HB1.out; go_grown) (by go_size) hb2); clear hb2
        have hs2 : wd.heap.size ≤ w2.heap.size := HB2.out.size
        clear hc1 hf1 hc2 hf2 HB1 HK1 HK2 hs1
        go_wp2_with fail
        go_loopw [5] (fun v wr => ∃ k : Nat, k ≤ L ∧ v = .int .i64 k ∧ Below wd.heap.size wd wr) (fun v _ => L - (intOf v).toNat)
        case atStart => exact ⟨0, Nat.zero_le _, rfl, HB2.out⟩
        case round =>
          clear HB2 hs2
          obtain ⟨k, hk, rfl, hb⟩ := hrel
          have HB0 := Lib.hid hb
          clear hb
          have k0 : (0 : Int) ≤ (k : Int) := by omega
          by_cases hlk : k < L
          · have k1 : (k : Int) < (L : Int) := by omega
            clear q2 q3 hLz d1 hbs
            go_wp2_with fail
            go_loopw [6] (fun u wr => ∃ j : Nat, j ≤ k ∧ u = .int .i64 j ∧ Below wd.heap.size wd wr) (fun u _ => k - (intOf u).toNat)
            case atStart => exact ⟨0, Nat.zero_le _, rfl, HB0.out⟩
            case round =>
              clear HB0
              obtain ⟨j, hj, rfl, hb⟩ := hrel
              have HB0 := Lib.hid hb
              clear hb
              have j0 : (0 : Int) ≤ (j : Int) := by omega
              by_cases hlj : j < k
              · have j1 : (j : Int) < (k : Int) := by omega
                have hle := HFL.out k j hlk (by omega)
                obtain ⟨f, hf⟩ : ∃ f, pointsFar ps k j = f := ⟨_, rfl⟩
                have HF := Lib.hid hf
                rw [hf] at hle
                have d9 : ¬ H < f := by omega
                clear hf hle
                go_wp2_with fail
                refine (HFF.out k j hlk (by omega) _ (HRI.out.later HB0.out)).mono ?_; rintro e w4 ⟨rfl, hb4⟩
                rw [HF.out]
                have HB4 := Lib.hid (bstep (B := wd.heap.size) (W := wd) HB0.out HB0.out.size hb4); clear hb4
                go_wp2_with fail
                go_roundw
                case rel => exact ⟨j + 1, by omega, by go_num, HB4.out⟩
                case measure => (simp [intOf]) <;> omega
              · obtain rfl : j = k := by omega
                go_wp2_with fail
                go_roundw
                case rel => exact ⟨j + 1, by omega, by go_num, HB0.out⟩
                case measure => (simp [intOf]) <;> omega
          · obtain rfl : k = L := by omega
            have hsp : wd.heap.size ≤ wr.heap.size := HB0.out.size
            have HBP := HB0
            have hon6 : Hid ((wr.alloc (.cells #[] 27)).ownsRow wr.heap.size 27 2 (.slice (some ⟨wr.heap.size, 0, none⟩) 0 0) 0 []) := ⟨rfl, .inr ⟨wr.heap.size, 0, #[], rfl, Nat.le_refl _, heap_alloc_new _ _, Nat.le_refl _, Nat.zero_le _, rfl, rfl⟩⟩
            have hnw6 := Lib.hid (RC.news (RC.later ((HRI.out.later HB0.out).take q) ((Below.refl wr.heap.size wr).alloc (Nat.le_refl _) (.cells #[] 27))))
            have hwa := HW1.out
            have hwb := HW2.out
            go_wp2_with (at_builtin; clear hwa hwb; refine wpList_append_copy rfl _ _ _ rfl wr.heap.size 27 i0 _ 2 16 Try.underlying23 hi0 hz0 hz1' hz2 rfl (by decide) (.slice (some ⟨wr.heap.size, 0, none⟩) 0 0) rfl hon6.out ⟨bc, 0, none⟩ q cc (ctCells (ps.take q)) rfl HLN.out hnw6.out (ctCells_one _) hmx6 hby6 (by simp) ?_; intro A6 c6 w6 hown6 hg6; have hb6 := below_grow ((Below.refl wr.heap.size wr).alloc (Nat.le_refl _) _) hg6 (Nat.le_refl _); have HB6 := Lib.hid (bstep (B := wd.heap.size) (W := wd) HBP.out hsp hb6); have hs6 : wd.heap.size ≤ w6.heap.size := HB6.out.size; have HLE6 := Lib.hid (HRO6.out w6 A6 c6 hown6); clear hown6 hg6 hb6)
            (try go_wp2_with fail)
            refine (HHL.out _ _ _ HLE6.out).mono ?_; rintro e w5 ⟨rfl, hb5⟩
            have HB5 := Lib.hid (bstep (B := wd.heap.size) (W := wd) HB6.out hs6 hb5); clear hb5
            rcases hL2 with hL2 | hL2
            · subst hL2
              have HF2 := Lib.hid (HF01.out rfl)
              clear HF01
              go_wp2_with fail
              refine (HFF.out 0 1 (by omega) (by omega) _ (HRI.out.later HB5.out)).mono ?_; rintro e w7 ⟨rfl, hb7⟩
              rw [show ((0 : Nat) : Int) = 0 from rfl, show ((1 : Nat) : Int) = 1 from rfl, HF2.out]
              have HB7 := Lib.hid (bstep (B := wd.heap.size) (W := wd) HB5.out HB5.out.size hb7); clear hb7
              go_wp2_with fail
              go_ret
              exact ⟨rfl, bstep HBD.out hzd HB7.out⟩
            · have d2 : (2 : Int) < (k : Int) := by omega
              go_wp2_with fail
              go_ret
              exact ⟨rfl, bstep HBD.out hzd HB5.out⟩
end Go.Proofs.Ytgnjjiljipgbnaa
