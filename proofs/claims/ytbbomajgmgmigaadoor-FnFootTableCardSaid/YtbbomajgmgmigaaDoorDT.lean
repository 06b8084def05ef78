/- PathOf, of the program and of its model: the end. -/
import Derived.Test.YtbbomajgmgmigaaDoorDS
set_option linter.unusedSimpArgs false
set_option linter.unusedVariables false
namespace Go.Proofs.YtbbomajgmgmigaaDoor
open Go.ChangeShapes Go.WideShapes Go.ChangeAt Go.RowKit

set_option maxHeartbeats 2000000 in
theorem l1Best_any (n e : Int) (A : Option Addr) (cap : Nat) (ws : List Wy) (w : World) (hr : RW w w.heap.size A ws) (hn : NetIs n ws) (he0 : 0 ≤ e) (he1 : e < 2 ^ n.toNat) :
    Calls Tryd.prog 36 #[.agg #[.int .i64 n, .slice A ws.length cap], .int .i64 e] w fun en w' => en = .returned (.int .i64 (best ws e)) ∧ Below w.heap.size w w' := by
  have HR := Lib.hid hr
  have HN := Lib.hid hn
  have HE := Lib.hid he1
  have hl9 := hn.len
  have hpl := pow_bd (ws.length : Int) 9 (by omega)
  rw [Int.toNat_natCast] at hpl
  have hpw : ((2 : Int) ^ ws.length) = ((2 ^ ws.length : Nat) : Int) := by simp
  obtain ⟨N, hN⟩ : ∃ N : Nat, 2 ^ ws.length = N := ⟨_, rfl⟩
  rw [hN] at hpw
  have hN9 : N ≤ 512 := by omega
  have HB : Hid (best ws e = bestTo ws e N) := by show best ws e = _; unfold best; rw [hN]
  have HPW := Lib.hid hpw
  clear hr hn he1 hN hpw
  go_enter Tryd.func36, Tryd.ntmps36
  go_wp2_with fail
  go_loopw [5, 6] (fun c i wr => ∃ k : Nat, k ≤ N ∧ i = .int .i64 k ∧ c = .int .i64 (bestTo ws e k) ∧ wr.cell? ⟨w.heap.size, 0, none⟩ = some (.int .i64 n) ∧ wr.cell? ⟨w.heap.size, 1, none⟩ = some (.slice A ws.length cap) ∧ Below w.heap.size w wr ∧ w.heap.size < wr.heap.size) (fun _ i _ => N - (intOf i).toNat)
  case atStart => exact ⟨0, Nat.zero_le _, rfl, rfl, cell_of_row _ _ 0 _ _ (0, 0) (heap_alloc_new w _), cell_of_row _ _ 1 _ _ (0, 0) (heap_alloc_new w _), by go_grown, by simp⟩
  case round =>
    obtain ⟨k, hk, rfl, rfl, b0, b1, hb, hz⟩ := hrel
    have HB0 := Lib.hid hb
    have hbd := bestTo_bd ws e k
    have hbd0 := hbd.1
    have hbd1 := hbd.2
    clear hb hbd
    by_cases hlt : k < N
    · have hltP : (k : Int) < 2 ^ ws.length := by have := HPW.out; omega
      cases hj : joins ws (k : Int) e
      · have HY := Lib.hid (bestTo_no (ws := ws) (e := e) (k := k) (.inl hj))
        have HJ := Lib.hid hj
        clear hj
        go_wp2_with fail
        refine (l1Joins_any n k e A cap ws _ (HR.out.later (by have := HB0.out; go_grown)) HN.out (by omega) (by omega) he0 HE.out).mono ?_; rintro e3 w3 ⟨rfl, hb3⟩; rw [HJ.out]
        have k3 := keep2 hb3 ⟨b0, b1⟩ hz
        have z3 := Nat.lt_of_lt_of_le hz hb3.size
        have HB3 := Lib.hid (bstep (B := w.heap.size) (W := w) HB0.out (by omega) hb3)
        clear hb3
        go_wp2_with fail
        go_roundw
        case rel => exact ⟨k + 1, by omega, by go_num, by rw [HY.out], k3.1, k3.2, HB3.out, z3⟩
        case measure => simp [intOf]; omega
      · by_cases hneg : bestTo ws e k < 0
        · have HY := Lib.hid (bestTo_yes (ws := ws) (e := e) (k := k) (.inl hneg) hj)
          have HJ := Lib.hid hj
          clear hj
          go_wp2_with fail
          refine (l1Joins_any n k e A cap ws _ (HR.out.later (by have := HB0.out; go_grown)) HN.out (by omega) (by omega) he0 HE.out).mono ?_; rintro e3 w3 ⟨rfl, hb3⟩; rw [HJ.out]
          have k3 := keep2 hb3 ⟨b0, b1⟩ hz
          have z3 := Nat.lt_of_lt_of_le hz hb3.size
          have HB3 := Lib.hid (bstep (B := w.heap.size) (W := w) HB0.out (by omega) hb3)
          clear hb3
          go_wp2_with fail
          go_roundw
          case rel => exact ⟨k + 1, by omega, by go_num, by rw [HY.out], k3.1, k3.2, HB3.out, z3⟩
          case measure => simp [intOf]; omega
        · have hge : 0 ≤ bestTo ws e k := by omega
          cases hc : chp ws (k : Int) (bestTo ws e k)
          · have HY := Lib.hid (bestTo_no (ws := ws) (e := e) (k := k) (.inr ⟨hneg, hc⟩))
            have HC := Lib.hid hc
            have HJ := Lib.hid hj
            clear hc hj
            go_wp2_with fail
            refine (l1Joins_any n k e A cap ws _ (HR.out.later (by have := HB0.out; go_grown)) HN.out (by omega) (by omega) he0 HE.out).mono ?_; rintro e3 w3 ⟨rfl, hb3⟩; rw [HJ.out]
            have k3 := keep2 hb3 ⟨b0, b1⟩ hz
            have z3 := Nat.lt_of_lt_of_le hz hb3.size
            have HB3 := Lib.hid (bstep (B := w.heap.size) (W := w) HB0.out (by omega) hb3)
            clear hb3
            obtain ⟨l0, l1⟩ := k3
            go_wp2_with fail
            refine (l1Better_any n k (bestTo ws e k) A cap ws _ (HR.out.later (by have := HB3.out; go_grown)) HN.out (by omega) (by omega) hge hbd1).mono ?_; rintro e4 w4 ⟨rfl, hb4⟩; rw [HC.out]
            have k4 := keep2 hb4 ⟨l0, l1⟩ z3
            have z4 := Nat.lt_of_lt_of_le z3 hb4.size
            have HB4 := Lib.hid (bstep (B := w.heap.size) (W := w) HB3.out (by omega) hb4)
            clear hb4
            go_wp2_with fail
            go_roundw
            case rel => exact ⟨k + 1, by omega, by go_num, by rw [HY.out], k4.1, k4.2, HB4.out, z4⟩
            case measure => simp [intOf]; omega
          · have HY := Lib.hid (bestTo_yes (ws := ws) (e := e) (k := k) (.inr hc) hj)
            have HC := Lib.hid hc
            have HJ := Lib.hid hj
            clear hc hj
            go_wp2_with fail
            refine (l1Joins_any n k e A cap ws _ (HR.out.later (by have := HB0.out; go_grown)) HN.out (by omega) (by omega) he0 HE.out).mono ?_; rintro e3 w3 ⟨rfl, hb3⟩; rw [HJ.out]
            have k3 := keep2 hb3 ⟨b0, b1⟩ hz
            have z3 := Nat.lt_of_lt_of_le hz hb3.size
            have HB3 := Lib.hid (bstep (B := w.heap.size) (W := w) HB0.out (by omega) hb3)
            clear hb3
            obtain ⟨l0, l1⟩ := k3
            go_wp2_with fail
            refine (l1Better_any n k (bestTo ws e k) A cap ws _ (HR.out.later (by have := HB3.out; go_grown)) HN.out (by omega) (by omega) hge hbd1).mono ?_; rintro e4 w4 ⟨rfl, hb4⟩; rw [HC.out]
            have k4 := keep2 hb4 ⟨l0, l1⟩ z3
            have z4 := Nat.lt_of_lt_of_le z3 hb4.size
            have HB4 := Lib.hid (bstep (B := w.heap.size) (W := w) HB3.out (by omega) hb4)
            clear hb4
            go_wp2_with fail
            go_roundw
            case rel => exact ⟨k + 1, by omega, by go_num, by rw [HY.out], k4.1, k4.2, HB4.out, z4⟩
            case measure => simp [intOf]; omega
    · have hkN : k = N := by omega
      subst hkN
      have hge : ¬ (k : Int) < 2 ^ ws.length := by have := HPW.out; omega
      go_wp2_with fail
      go_ret
      exact ⟨ret_int HB.out.symm, HB0.out⟩

def both (a b : Int) : Int := ior (2 ^ a.toNat) (2 ^ b.toNat)
noncomputable def pathOf (n : Int) (ws : List Wy) (a b : Int) : Int := if (netOk n ws && (hasPl n a && hasPl n b)) = true then best ws (both a b) else -1


end Go.Proofs.YtbbomajgmgmigaaDoor
