/- SpanMany of the model. -/
import Derived.Test.YtkjheobeogkhlaaDoorDU
set_option linter.unusedSimpArgs false
set_option linter.unusedVariables false
namespace Go.Proofs.YtkjheobeogkhlaaDoor
open Go.ChangeShapes Go.WideShapes Go.ChangeAt Go.RowKit

set_option maxHeartbeats 2000000 in
theorem sSpanMany_any (n : Int) (A : Option Addr) (cap : Nat) (ws : List Wy) (w : World) (hr : RW w w.heap.size A ws) (hm : ws.length ≤ 1073741824) :
    Calls Tryd.prog 35 #[.agg #[.int .i64 n, .slice A ws.length cap]] w fun e w' => e = .returned (.int .i64 (manyOf n ws)) ∧ Below w.heap.size w w' := by
  have HR := Lib.hid hr
  clear hr
  unfold manyOf
  cases hn : netOk n ws
  · have HN := Lib.hid hn
    rw [if_neg (by simp)]
    clear hn
    go_enter Tryd.func35, Tryd.ntmps35
    go_wp2_with fail
    refine (sNetOk_any _ _ _ _ _ (HR.out.later (by go_grown)) hm).mono ?_; rintro e w1 ⟨rfl, hb1⟩
    rw [HN.out]
    obtain ⟨hc1, hf1⟩ := bcell hb1
    have hz1_0 : w.heap.size < w1.heap.size := by have hq := hb1.size; (try simp at hq); omega
    have HK1 := Lib.hid hb1
    have HB1 := Lib.hid (bstep (B := w.heap.size) (W := w) (by (try have hp := HB0.out); go_grown) (by go_size) hb1); clear hb1
    go_wp2_with fail
    go_ret
    exact ⟨rfl, HB1.out⟩
  · have HN := Lib.hid hn
    have HS := Lib.hid (netOk_t hn)
    have hl9 := (netOk_t hn).len
    have hn2 := (netOk_t hn).lo
    have hn6 := (netOk_t hn).hi
    have hpl := pow_bd (ws.length : Int) 9 (by omega)
    rw [Int.toNat_natCast] at hpl
    have hpw : ((2 : Int) ^ ws.length) = ((2 ^ ws.length : Nat) : Int) := by simp
    obtain ⟨N, hN⟩ : ∃ N : Nat, 2 ^ ws.length = N := ⟨_, rfl⟩
    rw [hN] at hpw
    have hN9 : N ≤ 512 := by omega
    have HPW := Lib.hid hpw
    have hal := allPl_bd (netOk_t hn)
    have hal0 : 0 ≤ allPl n := by omega
    have HAL := Lib.hid hal.2.2
    have hpn := pow_bd n 6 (by omega)
    have HW1 : Hid (IntKind.i64.wrap (2 ^ n.toNat) = 2 ^ n.toNat) := IntWalk.i64_in _ ⟨by omega, by omega⟩
    have HW2 : Hid (wrap64 (2 ^ n.toNat) = 2 ^ n.toNat) := IntWalk.wrap64_in _ ⟨by omega, by omega⟩
    have HW3 : Hid (IntKind.i64.wrap (2 ^ n.toNat - 1) = allPl n) := IntWalk.i64_in _ ⟨by omega, by omega⟩
    have HW4 : Hid (wrap64 (2 ^ n.toNat - 1) = allPl n) := IntWalk.wrap64_in _ ⟨by omega, by omega⟩
    have HW5 : Hid (IntKind.i64.wrap (n - 1) = n - 1) := IntWalk.i64_in _ ⟨by omega, by omega⟩
    rw [if_pos rfl, hN]
    clear hn hpw hN hal hpn
    go_enter Tryd.func35, Tryd.ntmps35
    go_wp2_with fail
    refine (sNetOk_any _ _ _ _ _ (HR.out.later (by go_grown)) hm).mono ?_; rintro e w1 ⟨rfl, hb1⟩
    rw [HN.out]
    obtain ⟨hc1, hf1⟩ := bcell hb1
    have hz1_0 : w.heap.size < w1.heap.size := by have hq := hb1.size; (try simp at hq); omega
    have HK1 := Lib.hid hb1
    have HB1 := Lib.hid (bstep (B := w.heap.size) (W := w) (by (try have hp := HB0.out); go_grown) (by go_size) hb1); clear hb1
    have k1 : w1.cell? ⟨w.heap.size, 0, none⟩ = some (.int .i64 n) ∧ w1.cell? ⟨w.heap.size, 1, none⟩ = some (.slice A ws.length cap) := ⟨by go_simp, by go_simp⟩
    go_wp2_with fail
    clear hc1 hf1
    go_loopw [3, 4] (fun c i wr => ∃ k : Nat, k ≤ N ∧ i = .int .i64 k ∧ c = .int .i64 (manyTo n ws k) ∧ wr.cell? ⟨w.heap.size, 0, none⟩ = some (.int .i64 n) ∧ wr.cell? ⟨w.heap.size, 1, none⟩ = some (.slice A ws.length cap) ∧ Below w.heap.size w wr ∧ w.heap.size < wr.heap.size) (fun _ i _ => N - (intOf i).toNat)
    case atStart => exact ⟨0, Nat.zero_le _, rfl, rfl, k1.1, k1.2, HB1.out, hz1_0⟩
    case round =>
      clear k1
      obtain ⟨k, hk, rfl, rfl, b0, b1, hb, hz⟩ := hrel
      have HB0 := Lib.hid hb
      have hbd := manyTo_bd n ws k
      have hbd0 := hbd.1
      have hbd1 := hbd.2
      by_cases hlt : k < N
      · have hltP : (k : Int) < 2 ^ ws.length := by have := HPW.out; omega
        have HRR := Lib.hid (HR.out.later hb)
        have HK : Hid (manyTo n ws (k + 1) = manyTo n ws k + if (pop (k : Int) == n - 1 && joins ws k (allPl n)) = true then 1 else 0) := rfl
        clear hb hbd
        cases hq : pop (k : Int) == n - 1
        · have HY : Hid (manyTo n ws (k + 1) = manyTo n ws k) := by
            show manyTo n ws (k + 1) = _
            rw [HK.out, hq]; simp
          have hw5 := HW5.out
          go_wp2_with fail
          first
            | (go_region_with (first
                  | (go_at_call 78; refine (l1Size_any k (by omega) (by omega) _).mono ?_; rintro e3 w3 ⟨rfl, rfl⟩)))
            | fail "with"
          all_goals
            go_wp2_with fail
            go_roundw
            case rel => exact ⟨k + 1, by omega, by go_num, by rw [HY.out], b0, b1, by have := HB0.out; first | exact this | exact this.drew | exact below_drewN this _, hz⟩
            case measure => simp [intOf]; omega
        · cases hj : joins ws (k : Int) (allPl n)
          · have HJ := Lib.hid hj
            have HY : Hid (manyTo n ws (k + 1) = manyTo n ws k) := by
              show manyTo n ws (k + 1) = _
              rw [HK.out, hj]; simp
            have hw1 := HW1.out
            have hw2 := HW2.out
            have hw3 := HW3.out
            have hw4 := HW4.out
            have hw5 := HW5.out
            clear hj
            go_wp2_with fail
            go_region_held3 (fun w' => w'.cell? ⟨w.heap.size, 0, none⟩ = some (.int .i64 n) ∧ w'.cell? ⟨w.heap.size, 1, none⟩ = some (.slice A ws.length cap))
              (first | exact k4 | exact ⟨b0, b1⟩)
              (first
                | (go_at_call 78; refine (l1Size_any k (by omega) (by omega) _).mono ?_; rintro e3 w3 ⟨rfl, rfl⟩)
                | (go_at_call 68; refine (l1Joins_any n k (allPl n) A cap ws _ (HRR.out.drewNR _) HS.out (by omega) (by omega) hal0 HAL.out).mono ?_; rintro e4 w4 ⟨rfl, hb4⟩; rw [HJ.out]; have g4 : Below wr.heap.size wr w4 := und hb4; have k4 := keep2 g4 ⟨b0, b1⟩ hz; have z4 := Nat.lt_of_lt_of_le hz g4.size))
            have HB4 := Lib.hid (bstep (B := w.heap.size) (W := w) HB0.out (by omega) g4)
            clear g4 hb4 hw1 hw2 hw3 hw4 hw5
            go_wp2_with fail
            go_roundw
            case rel => exact ⟨k + 1, by omega, by go_num, by rw [HY.out], k4.1, k4.2, HB4.out, z4⟩
            case measure => simp [intOf]; omega
          · have HJ := Lib.hid hj
            have HY : Hid (manyTo n ws (k + 1) = manyTo n ws k + 1) := by
              show manyTo n ws (k + 1) = _
              rw [HK.out, hq, hj]; simp
            have hw1 := HW1.out
            have hw2 := HW2.out
            have hw3 := HW3.out
            have hw4 := HW4.out
            have hw5 := HW5.out
            clear hj
            go_wp2_with fail
            go_region_held3 (fun w' => w'.cell? ⟨w.heap.size, 0, none⟩ = some (.int .i64 n) ∧ w'.cell? ⟨w.heap.size, 1, none⟩ = some (.slice A ws.length cap))
              (first | exact k4 | exact ⟨b0, b1⟩)
              (first
                | (go_at_call 78; refine (l1Size_any k (by omega) (by omega) _).mono ?_; rintro e3 w3 ⟨rfl, rfl⟩)
                | (go_at_call 68; refine (l1Joins_any n k (allPl n) A cap ws _ (HRR.out.drewNR _) HS.out (by omega) (by omega) hal0 HAL.out).mono ?_; rintro e4 w4 ⟨rfl, hb4⟩; rw [HJ.out]; have g4 : Below wr.heap.size wr w4 := und hb4; have k4 := keep2 g4 ⟨b0, b1⟩ hz; have z4 := Nat.lt_of_lt_of_le hz g4.size))
            have HB4 := Lib.hid (bstep (B := w.heap.size) (W := w) HB0.out (by omega) g4)
            clear g4 hb4 hw1 hw2 hw3 hw4 hw5
            go_wp2_with fail
            go_roundw
            case rel => exact ⟨k + 1, by omega, by go_num, by rw [HY.out], k4.1, k4.2, HB4.out, z4⟩
            case measure => simp [intOf]; omega
      · have hkN : k = N := by omega
        subst hkN
        have hge : ¬ (k : Int) < 2 ^ ws.length := by have := HPW.out; omega
        clear hb hbd
        go_wp2_with fail
        go_ret
        exact ⟨rfl, HB0.out⟩
end Go.Proofs.YtkjheobeogkhlaaDoor
