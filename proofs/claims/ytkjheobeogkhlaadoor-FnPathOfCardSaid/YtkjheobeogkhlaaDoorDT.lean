/- PathOf, of the program and of its model: the end. -/
import Derived.Test.YtkjheobeogkhlaaDoorDS
set_option linter.unusedSimpArgs false
set_option linter.unusedVariables false
namespace Go.Proofs.YtkjheobeogkhlaaDoor
open Go.ChangeShapes Go.WideShapes Go.ChangeAt Go.RowKit

set_option maxHeartbeats 2000000 in
theorem l1Best_any (n e : Int) (A : Option Addr) (cap : Nat) (ws : List Wy) (w : World) (hr : RW w w.heap.size A ws) (hn : NetIs n ws) (he0 : 0 ≤ e) (he1 : e < 2 ^ n.toNat) :
    Calls Tryd.prog 86 #[.agg #[.int .i64 n, .slice A ws.length cap], .int .i64 e] w fun en w' => en = .returned (.int .i64 (best ws e)) ∧ Below w.heap.size w w' := by
  have HR := Lib.hid hr
  have HN := Lib.hid hn
  have HE := Lib.hid he1
  have hl9 := hn.len
  have hpl := pow_bd (ws.length : Int) 9 (by omega)
  rw [Int.toNat_natCast] at hpl
  have hpw : ((2 : Int) ^ ws.length) = ((2 ^ ws.length : Nat) : Int) := by simp
  obtain ⟨N, hN⟩ : ∃ N : Nat, 2 ^ ws.length = N := ⟨_, rfl⟩
  rw [hN] at hpw
  have hN9 : N ≤ 512 := by omega
  have HB : Hid (best ws e = bestTo ws e N) := by show best ws e = _; unfold best; rw [hN]
  have HPW := Lib.hid hpw
  clear hr hn he1 hN hpw
  go_enter Tryd.func86, Tryd.ntmps86
  go_wp2_with fail
  go_loopw [5, 6] (fun c i wr => ∃ k : Nat, k ≤ N ∧ i = .int .i64 k ∧ c = .int .i64 (bestTo ws e k) ∧ wr.cell? ⟨w.heap.size, 0, none⟩ = some (.int .i64 n) ∧ wr.cell? ⟨w.heap.size, 1, none⟩ = some (.slice A ws.length cap) ∧ Below w.heap.size w wr ∧ w.heap.size < wr.heap.size) (fun _ i _ => N - (intOf i).toNat)
  case atStart => exact ⟨0, Nat.zero_le _, rfl, rfl, cell_of_row _ _ 0 _ _ (0, 0) (heap_alloc_new w _), cell_of_row _ _ 1 _ _ (0, 0) (heap_alloc_new w _), by go_grown, by simp⟩
  case round =>
    obtain ⟨k, hk, rfl, rfl, b0, b1, hb, hz⟩ := hrel
    have HB0 := Lib.hid hb
    have hbd := bestTo_bd ws e k
    have hbd0 := hbd.1
    have hbd1 := hbd.2
    clear hb hbd
    by_cases hlt : k < N
    · have hltP : (k : Int) < 2 ^ ws.length := by have := HPW.out; omega
      cases hj : joins ws (k : Int) e
      · have HY := Lib.hid (bestTo_no (ws := ws) (e := e) (k := k) (.inl hj))
        have HJ := Lib.hid hj
        clear hj
        go_wp2_with fail
        refine (l1Joins_any n k e A cap ws _ (HR.out.later (by have := HB0.out; go_grown)) HN.out (by omega) (by omega) he0 HE.out).mono ?_; rintro e3 w3 ⟨rfl, hb3⟩; rw [HJ.out]
        have k3 := keep2 hb3 ⟨b0, b1⟩ hz
        have z3 := Nat.lt_of_lt_of_le hz hb3.size
        have HB3 := Lib.hid (bstep (B := w.heap.size) (W := w) HB0.out (by omega) hb3)
        clear hb3
        go_wp2_with fail
        go_roundw
        case rel => exact ⟨k + 1, by omega, by go_num, by rw [HY.out], k3.1, k3.2, HB3.out, z3⟩
        case measure => simp [intOf]; omega
      · by_cases hneg : bestTo ws e k < 0
        · have HY := Lib.hid (bestTo_yes (ws := ws) (e := e) (k := k) (.inl hneg) hj)
          have HJ := Lib.hid hj
          clear hj
          go_wp2_with fail
          refine (l1Joins_any n k e A cap ws _ (HR.out.later (by have := HB0.out; go_grown)) HN.out (by omega) (by omega) he0 HE.out).mono ?_; rintro e3 w3 ⟨rfl, hb3⟩; rw [HJ.out]
          have k3 := keep2 hb3 ⟨b0, b1⟩ hz
          have z3 := Nat.lt_of_lt_of_le hz hb3.size
          have HB3 := Lib.hid (bstep (B := w.heap.size) (W := w) HB0.out (by omega) hb3)
          clear hb3
          go_wp2_with fail
          go_roundw
          case rel => exact ⟨k + 1, by omega, by go_num, by rw [HY.out], k3.1, k3.2, HB3.out, z3⟩
          case measure => simp [intOf]; omega
        · have hge : 0 ≤ bestTo ws e k := by omega
          cases hc : chp ws (k : Int) (bestTo ws e k)
          · have HY := Lib.hid (bestTo_no (ws := ws) (e := e) (k := k) (.inr ⟨hneg, hc⟩))
            have HC := Lib.hid hc
            have HJ := Lib.hid hj
            clear hc hj
            go_wp2_with fail
            refine (l1Joins_any n k e A cap ws _ (HR.out.later (by have := HB0.out; go_grown)) HN.out (by omega) (by omega) he0 HE.out).mono ?_; rintro e3 w3 ⟨rfl, hb3⟩; rw [HJ.out]
            have k3 := keep2 hb3 ⟨b0, b1⟩ hz
            have z3 := Nat.lt_of_lt_of_le hz hb3.size
            have HB3 := Lib.hid (bstep (B := w.heap.size) (W := w) HB0.out (by omega) hb3)
            clear hb3
            obtain ⟨l0, l1⟩ := k3
            go_wp2_with fail
            refine (l1Better_any n k (bestTo ws e k) A cap ws _ (HR.out.later (by have := HB3.out; go_grown)) HN.out (by omega) (by omega) hge hbd1).mono ?_; rintro e4 w4 ⟨rfl, hb4⟩; rw [HC.out]
            have k4 := keep2 hb4 ⟨l0, l1⟩ z3
            have z4 := Nat.lt_of_lt_of_le z3 hb4.size
            have HB4 := Lib.hid (bstep (B := w.heap.size) (W := w) HB3.out (by omega) hb4)
            clear hb4
            go_wp2_with fail
            go_roundw
            case rel => exact ⟨k + 1, by omega, by go_num, by rw [HY.out], k4.1, k4.2, HB4.out, z4⟩
            case measure => simp [intOf]; omega
          · have HY := Lib.hid (bestTo_yes (ws := ws) (e := e) (k := k) (.inr hc) hj)
            have HC := Lib.hid hc
            have HJ := Lib.hid hj
            clear hc hj
            go_wp2_with fail
            refine (l1Joins_any n k e A cap ws _ (HR.out.later (by have := HB0.out; go_grown)) HN.out (by omega) (by omega) he0 HE.out).mono ?_; rintro e3 w3 ⟨rfl, hb3⟩; rw [HJ.out]
            have k3 := keep2 hb3 ⟨b0, b1⟩ hz
            have z3 := Nat.lt_of_lt_of_le hz hb3.size
            have HB3 := Lib.hid (bstep (B := w.heap.size) (W := w) HB0.out (by omega) hb3)
            clear hb3
            obtain ⟨l0, l1⟩ := k3
            go_wp2_with fail
            refine (l1Better_any n k (bestTo ws e k) A cap ws _ (HR.out.later (by have := HB3.out; go_grown)) HN.out (by omega) (by omega) hge hbd1).mono ?_; rintro e4 w4 ⟨rfl, hb4⟩; rw [HC.out]
            have k4 := keep2 hb4 ⟨l0, l1⟩ z3
            have z4 := Nat.lt_of_lt_of_le z3 hb4.size
            have HB4 := Lib.hid (bstep (B := w.heap.size) (W := w) HB3.out (by omega) hb4)
            clear hb4
            go_wp2_with fail
            go_roundw
            case rel => exact ⟨k + 1, by omega, by go_num, by rw [HY.out], k4.1, k4.2, HB4.out, z4⟩
            case measure => simp [intOf]; omega
    · have hkN : k = N := by omega
      subst hkN
      have hge : ¬ (k : Int) < 2 ^ ws.length := by have := HPW.out; omega
      go_wp2_with fail
      go_ret
      exact ⟨ret_int HB.out.symm, HB0.out⟩

def both (a b : Int) : Int := ior (2 ^ a.toNat) (2 ^ b.toNat)
noncomputable def pathOf (n : Int) (ws : List Wy) (a b : Int) : Int := if (netOk n ws && (hasPl n a && hasPl n b)) = true then best ws (both a b) else -1

set_option maxHeartbeats 1000000 in
theorem PathOf_any (n a b : Int) (A : Option Addr) (cap : Nat) (ws : List Wy) (w : World) (hr : RW w w.heap.size A ws) (hT : Tab w) :
    Calls Tryd.prog 49 #[.agg #[.int .i64 n, .slice A ws.length cap], .int .i64 a, .int .i64 b] w fun en w' => en = .returned (.int .i64 (pathOf n ws a b)) ∧ Below w.heap.size w w' := by
  have HR := Lib.hid hr
  have HT := Lib.hid hT
  clear hr hT
  unfold pathOf
  cases hn : netOk n ws
  · have HN := Lib.hid hn
    rw [Bool.false_and, if_neg (by simp)]
    clear hn
    go_enter Tryd.func49, Tryd.ntmps49
    go_wp2_with fail
    refine (NetOk_any _ _ _ _ _ (HR.out.later (by go_grown))).mono ?_; rintro e w1 ⟨rfl, hb1⟩
    rw [HN.out]
    obtain ⟨hc1, hf1⟩ := bcell hb1
    have hz1_0 : w.heap.size < w1.heap.size := by have hq := hb1.size; (try simp at hq); omega
    have HK1 := Lib.hid hb1
    have HB1 := Lib.hid (bstep (B := w.heap.size) (W := w) (by (try have hp := HB0.out); go_grown) (by go_size) hb1); clear hb1
    go_wp2_with fail
    go_ret
    exact ⟨rfl, HB1.out⟩
  · have HN := Lib.hid hn
    have HS := Lib.hid (netOk_t hn)
    rw [Bool.true_and]
    clear hn
    cases ha : hasPl n a
    · have HA := Lib.hid ha
      rw [Bool.false_and, if_neg (by simp)]
      clear ha
      go_enter Tryd.func49, Tryd.ntmps49
      go_wp2_with fail
      refine (NetOk_any _ _ _ _ _ (HR.out.later (by go_grown))).mono ?_; rintro e w1 ⟨rfl, hb1⟩
      rw [HN.out]
      obtain ⟨hc1, hf1⟩ := bcell hb1
      have hz1_0 : w.heap.size < w1.heap.size := by have hq := hb1.size; (try simp at hq); omega
      have HK1 := Lib.hid hb1
      have HB1 := Lib.hid (bstep (B := w.heap.size) (W := w) (by (try have hp := HB0.out); go_grown) (by go_size) hb1); clear hb1
      go_wp2_with fail
      refine (hasPlace_any _ _ _ _).mono ?_; rintro e w2 ⟨rfl, hb2⟩
      rw [HA.out]
      obtain ⟨hc2, hf2⟩ := bcell hb2
      have hz2_0 : w.heap.size < w2.heap.size := by have hq := hb2.size; (try simp at hq); omega
      have HK2 := Lib.hid hb2
      have HB2 := Lib.hid (bstep (B := w.heap.size) (W := w) (by have hp := HB1.out; go_grown) (by go_size) hb2); clear hb2
      go_wp2_with fail
      go_ret
      exact ⟨rfl, HB2.out⟩
    · have HA := Lib.hid ha
      obtain ⟨a0, a1⟩ := hasPl_t ha
      rw [Bool.true_and]
      clear ha
      cases hb : hasPl n b
      · have HB := Lib.hid hb
        rw [if_neg (by simp)]
        clear hb
        go_enter Tryd.func49, Tryd.ntmps49
        go_wp2_with fail
        refine (NetOk_any _ _ _ _ _ (HR.out.later (by go_grown))).mono ?_; rintro e w1 ⟨rfl, hb1⟩
        rw [HN.out]
        obtain ⟨hc1, hf1⟩ := bcell hb1
        have hz1_0 : w.heap.size < w1.heap.size := by have hq := hb1.size; (try simp at hq); omega
        have HK1 := Lib.hid hb1
        have HB1 := Lib.hid (bstep (B := w.heap.size) (W := w) (by (try have hp := HB0.out); go_grown) (by go_size) hb1); clear hb1
        go_wp2_with fail
        refine (hasPlace_any _ _ _ _).mono ?_; rintro e w2 ⟨rfl, hb2⟩
        rw [HA.out]
        obtain ⟨hc2, hf2⟩ := bcell hb2
        have hz2_0 : w.heap.size < w2.heap.size := by have hq := hb2.size; (try simp at hq); omega
        have HK2 := Lib.hid hb2
        have HB2 := Lib.hid (bstep (B := w.heap.size) (W := w) (by have hp := HB1.out; go_grown) (by go_size) hb2); clear hb2
        go_wp2_with fail
        refine (hasPlace_any _ _ _ _).mono ?_; rintro e w3 ⟨rfl, hb3⟩
        rw [HB.out]
        obtain ⟨hc3, hf3⟩ := bcell hb3
        have hz3_0 : w.heap.size < w3.heap.size := by have hq := hb3.size; (try simp at hq); omega
        have HK3 := Lib.hid hb3
        have HB3 := Lib.hid (bstep (B := w.heap.size) (W := w) (by have hp := HB2.out; go_grown) (by go_size) hb3); clear hb3
        go_wp2_with fail
        go_ret
        exact ⟨rfl, HB3.out⟩
      · have HB := Lib.hid hb
        obtain ⟨b0, b1⟩ := hasPl_t hb
        have hn6 := HS.out.hi
        have pa := pow_bd a 5 (by omega)
        have pb := pow_bd b 5 (by omega)
        have hbd := ior_bd (2 ^ a.toNat) (2 ^ b.toNat) 6 (by omega) (by omega)
        have HLT : Hid (both a b < 2 ^ n.toNat) := ior_lt (shl_lt a0 a1) (shl_lt b0 b1)
        obtain ⟨p, hp⟩ : ∃ p : Int, both a b = p := ⟨_, rfl⟩
        have hor : bits .or .i64 (2 ^ a.toNat) (2 ^ b.toNat) = p := by rw [← hp]; exact bits_or _ _ (by omega) (by omega) (by omega) (by omega)
        have hp0 : 0 ≤ p := by rw [← hp]; exact hbd.1
        rw [hp] at HLT
        have hwa : IntKind.i64.wrap (2 ^ a.toNat) = 2 ^ a.toNat := IntWalk.i64_in _ ⟨by omega, by omega⟩
        have hwb : IntKind.i64.wrap (2 ^ b.toNat) = 2 ^ b.toNat := IntWalk.i64_in _ ⟨by omega, by omega⟩
        have hwa' : wrap64 (2 ^ a.toNat) = 2 ^ a.toNat := IntWalk.wrap64_in _ ⟨by omega, by omega⟩
        have hwb' : wrap64 (2 ^ b.toNat) = 2 ^ b.toNat := IntWalk.wrap64_in _ ⟨by omega, by omega⟩
        rw [if_pos rfl, hp]
        clear hb hbd hp
        go_enter Tryd.func49, Tryd.ntmps49
        go_wp2_with fail
        refine (NetOk_any _ _ _ _ _ (HR.out.later (by go_grown))).mono ?_; rintro e w1 ⟨rfl, hb1⟩
        rw [HN.out]
        obtain ⟨hc1, hf1⟩ := bcell hb1
        have hz1_0 : w.heap.size < w1.heap.size := by have hq := hb1.size; (try simp at hq); omega
        have HK1 := Lib.hid hb1
        have HB1 := Lib.hid (bstep (B := w.heap.size) (W := w) (by (try have hp := HB0.out); go_grown) (by go_size) hb1); clear hb1
        go_wp2_with fail
        refine (hasPlace_any _ _ _ _).mono ?_; rintro e w2 ⟨rfl, hb2⟩
        rw [HA.out]
        obtain ⟨hc2, hf2⟩ := bcell hb2
        have hz2_0 : w.heap.size < w2.heap.size := by have hq := hb2.size; (try simp at hq); omega
        have HK2 := Lib.hid hb2
        have HB2 := Lib.hid (bstep (B := w.heap.size) (W := w) (by have hp := HB1.out; go_grown) (by go_size) hb2); clear hb2
        go_wp2_with fail
        refine (hasPlace_any _ _ _ _).mono ?_; rintro e w3 ⟨rfl, hb3⟩
        rw [HB.out]
        obtain ⟨hc3, hf3⟩ := bcell hb3
        have hz3_0 : w.heap.size < w3.heap.size := by have hq := hb3.size; (try simp at hq); omega
        have HK3 := Lib.hid hb3
        have HB3 := Lib.hid (bstep (B := w.heap.size) (W := w) (by have hp := HB2.out; go_grown) (by go_size) hb3); clear hb3
        have k3 : w3.cell? ⟨w.heap.size, 0, none⟩ = some (.int .i64 n) ∧ w3.cell? ⟨w.heap.size, 1, none⟩ = some (.slice A ws.length cap) := ⟨by go_simp, by go_simp⟩
        have HR3 := Lib.hid (HR.out.later HB3.out)
        have HT3 := Lib.hid (HT.out.later HB3.out)
        clear hc1 hf1 hc2 hf2 hc3 hf3
        go_wp2_with fail
        go_region_held3 (fun w' => w'.cell? ⟨w.heap.size, 0, none⟩ = some (.int .i64 n) ∧ w'.cell? ⟨w.heap.size, 1, none⟩ = some (.slice A ws.length cap))
          (first | exact k4 | exact k3)
          (first
            | (go_at_call 85; refine (leastJoining_any n p A cap ws _ (HR3.out.drewNR _) HS.out hp0 HLT.out (HT3.out.drewNR _)).mono ?_; rintro e4 w4 ⟨rfl, hb4⟩; have g4 : Below w3.heap.size w3 w4 := und hb4; have k4 := keep2 g4 k3 hz3_0))
        have HB4 := Lib.hid (bstep (B := w.heap.size) (W := w) HB3.out (by omega) g4)
        clear g4 hb4
        go_wp2_with fail
        go_ret
        exact ⟨rfl, HB4.out⟩

set_option maxHeartbeats 1000000 in
theorem sPathOf_any (n a b : Int) (A : Option Addr) (cap : Nat) (ws : List Wy) (w : World) (hr : RW w w.heap.size A ws) (hm : ws.length ≤ 1073741824) :
    Calls Tryd.prog 50 #[.agg #[.int .i64 n, .slice A ws.length cap], .int .i64 a, .int .i64 b] w fun en w' => en = .returned (.int .i64 (pathOf n ws a b)) ∧ Below w.heap.size w w' := by
  have HR := Lib.hid hr
  clear hr
  unfold pathOf
  cases hn : netOk n ws
  · have HN := Lib.hid hn
    rw [Bool.false_and, if_neg (by simp)]
    clear hn
    go_enter Tryd.func50, Tryd.ntmps50
    go_wp2_with fail
    refine (sNetOk_any _ _ _ _ _ (HR.out.later (by go_grown)) hm).mono ?_; rintro e w1 ⟨rfl, hb1⟩
    rw [HN.out]
    obtain ⟨hc1, hf1⟩ := bcell hb1
    have hz1_0 : w.heap.size < w1.heap.size := by have hq := hb1.size; (try simp at hq); omega
    have HK1 := Lib.hid hb1
    have HB1 := Lib.hid (bstep (B := w.heap.size) (W := w) (by (try have hp := HB0.out); go_grown) (by go_size) hb1); clear hb1
    go_wp2_with fail
    go_ret
    exact ⟨rfl, HB1.out⟩
  · have HN := Lib.hid hn
    have HS := Lib.hid (netOk_t hn)
    have hn2 := (netOk_t hn).lo
    have hn6 := (netOk_t hn).hi
    have hpl : ∀ q, hasPl n q = inB q 0 (n - 1) := fun q => by
      unfold hasPl inB
      rw [Bool.eq_iff_iff]; simp; omega
    rw [Bool.true_and, hpl a, hpl b]
    clear hn hpl
    cases ha : inB a 0 (n - 1)
    · have HA := Lib.hid ha
      rw [Bool.false_and, if_neg (by simp)]
      clear ha
      go_enter Tryd.func50, Tryd.ntmps50
      go_wp2_with fail
      refine (sNetOk_any _ _ _ _ _ (HR.out.later (by go_grown)) hm).mono ?_; rintro e w1 ⟨rfl, hb1⟩
      rw [HN.out]
      obtain ⟨hc1, hf1⟩ := bcell hb1
      have hz1_0 : w.heap.size < w1.heap.size := by have hq := hb1.size; (try simp at hq); omega
      have HK1 := Lib.hid hb1
      have HB1 := Lib.hid (bstep (B := w.heap.size) (W := w) (by (try have hp := HB0.out); go_grown) (by go_size) hb1); clear hb1
      go_wp2_with fail
      refine (l1In_any _ _ _ _).mono ?_; rintro e w' ⟨rfl, rfl⟩; rw [HA.out]
      go_wp2_with fail
      go_ret
      exact ⟨rfl, HB1.out⟩
    · have HA := Lib.hid ha
      obtain ⟨a0, a1⟩ := inB_t ha
      rw [Bool.true_and]
      clear ha
      cases hb : inB b 0 (n - 1)
      · have HB := Lib.hid hb
        rw [if_neg (by simp)]
        clear hb
        go_enter Tryd.func50, Tryd.ntmps50
        go_wp2_with fail
        refine (sNetOk_any _ _ _ _ _ (HR.out.later (by go_grown)) hm).mono ?_; rintro e w1 ⟨rfl, hb1⟩
        rw [HN.out]
        obtain ⟨hc1, hf1⟩ := bcell hb1
        have hz1_0 : w.heap.size < w1.heap.size := by have hq := hb1.size; (try simp at hq); omega
        have HK1 := Lib.hid hb1
        have HB1 := Lib.hid (bstep (B := w.heap.size) (W := w) (by (try have hp := HB0.out); go_grown) (by go_size) hb1); clear hb1
        go_wp2_with fail
        refine (l1In_any _ _ _ _).mono ?_; rintro e w' ⟨rfl, rfl⟩; rw [HA.out]
        go_wp2_with fail
        refine (l1In_any _ _ _ _).mono ?_; rintro e w' ⟨rfl, rfl⟩; rw [HB.out]
        go_wp2_with fail
        go_ret
        exact ⟨rfl, HB1.out⟩
      · have HB := Lib.hid hb
        obtain ⟨b0, b1⟩ := inB_t hb
        have pa := pow_bd a 5 (by omega)
        have pb := pow_bd b 5 (by omega)
        have hbd := ior_bd (2 ^ a.toNat) (2 ^ b.toNat) 6 (by omega) (by omega)
        have HLT : Hid (both a b < 2 ^ n.toNat) := ior_lt (shl_lt a0 (by omega)) (shl_lt b0 (by omega))
        obtain ⟨p, hp⟩ : ∃ p : Int, both a b = p := ⟨_, rfl⟩
        have hor : bits .or .i64 (2 ^ a.toNat) (2 ^ b.toNat) = p := by rw [← hp]; exact bits_or _ _ (by omega) (by omega) (by omega) (by omega)
        have hp0 : 0 ≤ p := by rw [← hp]; exact hbd.1
        rw [hp] at HLT
        have hwa : IntKind.i64.wrap (2 ^ a.toNat) = 2 ^ a.toNat := IntWalk.i64_in _ ⟨by omega, by omega⟩
        have hwb : IntKind.i64.wrap (2 ^ b.toNat) = 2 ^ b.toNat := IntWalk.i64_in _ ⟨by omega, by omega⟩
        have hwa' : wrap64 (2 ^ a.toNat) = 2 ^ a.toNat := IntWalk.wrap64_in _ ⟨by omega, by omega⟩
        have hwb' : wrap64 (2 ^ b.toNat) = 2 ^ b.toNat := IntWalk.wrap64_in _ ⟨by omega, by omega⟩
        rw [if_pos rfl, hp]
        clear hb hbd hp
        go_enter Tryd.func50, Tryd.ntmps50
        go_wp2_with fail
        refine (sNetOk_any _ _ _ _ _ (HR.out.later (by go_grown)) hm).mono ?_; rintro e w1 ⟨rfl, hb1⟩
        rw [HN.out]
        obtain ⟨hc1, hf1⟩ := bcell hb1
        have hz1_0 : w.heap.size < w1.heap.size := by have hq := hb1.size; (try simp at hq); omega
        have HK1 := Lib.hid hb1
        have HB1 := Lib.hid (bstep (B := w.heap.size) (W := w) (by (try have hp := HB0.out); go_grown) (by go_size) hb1); clear hb1
        go_wp2_with fail
        refine (l1In_any _ _ _ _).mono ?_; rintro e w' ⟨rfl, rfl⟩; rw [HA.out]
        go_wp2_with fail
        refine (l1In_any _ _ _ _).mono ?_; rintro e w' ⟨rfl, rfl⟩; rw [HB.out]
        have k3 : w1.cell? ⟨w.heap.size, 0, none⟩ = some (.int .i64 n) ∧ w1.cell? ⟨w.heap.size, 1, none⟩ = some (.slice A ws.length cap) := ⟨by go_simp, by go_simp⟩
        have HR3 := Lib.hid (HR.out.later HB1.out)
        clear hc1 hf1
        go_wp2_with fail
        go_region_held3 (fun w' => w'.cell? ⟨w.heap.size, 0, none⟩ = some (.int .i64 n) ∧ w'.cell? ⟨w.heap.size, 1, none⟩ = some (.slice A ws.length cap))
          (first | exact k4 | exact k3)
          (first
            | (go_at_call 86; refine (l1Best_any n p A cap ws _ (HR3.out.drewNR _) HS.out hp0 HLT.out).mono ?_; rintro e4 w4 ⟨rfl, hb4⟩; have g4 : Below w1.heap.size w1 w4 := und hb4; have k4 := keep2 g4 k3 hz1_0))
        have HB4 := Lib.hid (bstep (B := w.heap.size) (W := w) HB1.out (by omega) g4)
        clear g4 hb4
        go_wp2_with fail
        go_ret
        exact ⟨rfl, HB4.out⟩
end Go.Proofs.YtkjheobeogkhlaaDoor
