/- PathOf, of the program and of its model. -/
import Derived.Test.YtbbomajgmgmigaaDoorDR
set_option linter.unusedSimpArgs false
set_option linter.unusedVariables false
namespace Go.Proofs.YtbbomajgmgmigaaDoor
open Go.ChangeShapes Go.WideShapes Go.ChangeAt Go.RowKit

/-- the one set comes before the other one: cheaper, or as cheap with fewer ways -/
def chp (ws : List Wy) (a b : Int) : Bool := if cost ws a = cost ws b then decide (pop a < pop b) else decide (cost ws a < cost ws b)
/-- the best set below k that joins the places e -/
noncomputable def bestTo (ws : List Wy) (e : Int) : Nat → Int
  | 0 => -1
  | k + 1 => if (decide (bestTo ws e k < 0) || chp ws k (bestTo ws e k)) && joins ws k e then k else bestTo ws e k
theorem bestTo_bd (ws : List Wy) (e : Int) : ∀ k, -1 ≤ bestTo ws e k ∧ bestTo ws e k < k
  | 0 => by simp [bestTo]
  | k + 1 => by
    have ih := bestTo_bd ws e k
    rw [bestTo]
    split <;> omega
noncomputable def best (ws : List Wy) (e : Int) : Int := bestTo ws e (2 ^ ws.length)
theorem cost_bds {n : Int} {ws : List Wy} (hn : NetIs n ws) (s : Int) : 0 ≤ cost ws s ∧ cost ws s ≤ 81 := by
  have := cost_bd hn s ws.length
  rwa [List.take_of_length_le (Nat.le_refl _)] at this

set_option maxHeartbeats 1000000 in
theorem cheaper_any (n a b : Int) (A : Option Addr) (cap : Nat) (ws : List Wy) (w : World) (hr : RW w w.heap.size A ws) (hn : NetIs n ws) (ha0 : 0 ≤ a) (ha1 : a < 512) (hb0 : 0 ≤ b) (hb1 : b < 512) :
    Calls Tryd.prog 68 #[.agg #[.int .i64 n, .slice A ws.length cap], .int .i64 a, .int .i64 b] w fun e w' => e = .returned (.bool (chp ws a b)) ∧ Below w.heap.size w w' := by
  have HR := Lib.hid hr
  have HN := Lib.hid hn
  have ca := cost_bds hn a
  have cb := cost_bds hn b
  have pa := pop_bd a
  have pb := pop_bd b
  have hua : IntKind.u64.wrap a = a := by rw [IntKind.wrap_u64]; omega
  have hub : IntKind.u64.wrap b = b := by rw [IntKind.wrap_u64]; omega
  have HRA := Lib.hid (HR.out.later ((Below.refl _ _).alloc (Nat.le_refl _) (.cells #[.int .i64 n, .slice A ws.length cap] 25)))
  have k0 : (w.alloc (.cells #[.int .i64 n, .slice A ws.length cap] 25)).cell? ⟨w.heap.size, 0, none⟩ = some (.int .i64 n) ∧ (w.alloc (.cells #[.int .i64 n, .slice A ws.length cap] 25)).cell? ⟨w.heap.size, 1, none⟩ = some (.slice A ws.length cap) :=
    ⟨cell_of_row _ _ 0 _ _ (0, 0) (heap_alloc_new w _), cell_of_row _ _ 1 _ _ (0, 0) (heap_alloc_new w _)⟩
  have z0 : w.heap.size < (w.alloc (.cells #[.int .i64 n, .slice A ws.length cap] 25)).heap.size := by simp
  unfold chp
  clear hr hn
  by_cases hc : cost ws a = cost ws b
  · rw [if_pos hc]
    have hne : (cost ws a != cost ws b) = false := by rw [hc]; simp
    clear hc
    go_enter Tryd.func68, Tryd.ntmps68
    go_wp2_with fail
    go_region_held3 (fun w' => w'.cell? ⟨w.heap.size, 0, none⟩ = some (.int .i64 n) ∧ w'.cell? ⟨w.heap.size, 1, none⟩ = some (.slice A ws.length cap))
      (first | exact k4 | exact k3 | exact k0)
      (first
        | (go_at_call_of 45 (Value.int IntKind.i64 b); refine (setCost_any n b A cap ws w3 r3.out HN.out hb0 (by omega)).mono ?_; rintro e4 w4 ⟨rfl, hb4⟩; have k4 := keep2 hb4 k3 z3)
        | (go_at_call_of 45 (Value.int IntKind.i64 a); refine (setCost_any n a A cap ws _ (HRA.out.drewNR _) HN.out ha0 (by omega)).mono ?_; rintro e3 w3 ⟨rfl, hb3⟩; have g3 : Below (w.alloc (.cells #[.int .i64 n, .slice A ws.length cap] 25)).heap.size (w.alloc (.cells #[.int .i64 n, .slice A ws.length cap] 25)) w3 := und hb3; have k3 := keep2 g3 k0 z0; have r3 := Lib.hid (HRA.out.later g3); have z3 := Nat.lt_of_lt_of_le z0 g3.size))
    have HB4 := Lib.hid (bstep (B := w.heap.size) (W := w) (bstep ((Below.refl _ _).alloc (Nat.le_refl _) (.cells #[.int .i64 n, .slice A ws.length cap] 25)) (by simp) g3) (by omega) hb4)
    clear g3 hb3 hb4
    go_wp2_with fail
    refine (OC_any a ha0 ha1 _).mono ?_; rintro e w5 ⟨rfl, rfl⟩
    go_wp2_with fail
    refine (OC_any b hb0 hb1 _).mono ?_; rintro e w5 ⟨rfl, rfl⟩
    go_wp2_with fail
    go_ret
    exact ⟨rfl, HB4.out⟩
  · rw [if_neg hc]
    have hne : (cost ws a != cost ws b) = true := by simp [hc]
    clear hc
    go_enter Tryd.func68, Tryd.ntmps68
    go_wp2_with fail
    go_region_held3 (fun w' => w'.cell? ⟨w.heap.size, 0, none⟩ = some (.int .i64 n) ∧ w'.cell? ⟨w.heap.size, 1, none⟩ = some (.slice A ws.length cap))
      (first | exact k4 | exact k3 | exact k0)
      (first
        | (go_at_call_of 45 (Value.int IntKind.i64 b); refine (setCost_any n b A cap ws w3 r3.out HN.out hb0 (by omega)).mono ?_; rintro e4 w4 ⟨rfl, hb4⟩; have k4 := keep2 hb4 k3 z3)
        | (go_at_call_of 45 (Value.int IntKind.i64 a); refine (setCost_any n a A cap ws _ (HRA.out.drewNR _) HN.out ha0 (by omega)).mono ?_; rintro e3 w3 ⟨rfl, hb3⟩; have g3 : Below (w.alloc (.cells #[.int .i64 n, .slice A ws.length cap] 25)).heap.size (w.alloc (.cells #[.int .i64 n, .slice A ws.length cap] 25)) w3 := und hb3; have k3 := keep2 g3 k0 z0; have r3 := Lib.hid (HRA.out.later g3); have z3 := Nat.lt_of_lt_of_le z0 g3.size))
    have HB4 := Lib.hid (bstep (B := w.heap.size) (W := w) (bstep ((Below.refl _ _).alloc (Nat.le_refl _) (.cells #[.int .i64 n, .slice A ws.length cap] 25)) (by simp) g3) (by omega) hb4)
    clear g3 hb3 hb4
    go_wp2_with fail
    go_ret
    exact ⟨rfl, HB4.out⟩

set_option maxHeartbeats 1000000 in
theorem l1Better_any (n a b : Int) (A : Option Addr) (cap : Nat) (ws : List Wy) (w : World) (hr : RW w w.heap.size A ws) (hn : NetIs n ws) (ha0 : 0 ≤ a) (ha1 : a < 512) (hb0 : 0 ≤ b) (hba : b < a) :
    Calls Tryd.prog 60 #[.agg #[.int .i64 n, .slice A ws.length cap], .int .i64 a, .int .i64 b] w fun e w' => e = .returned (.bool (chp ws a b)) ∧ Below w.heap.size w w' := by
  have HR := Lib.hid hr
  have HN := Lib.hid hn
  have ca := cost_bds hn a
  have cb := cost_bds hn b
  have pa := pop_bd a
  have pb := pop_bd b
  have hb1 : b < 512 := by omega
  unfold chp
  clear hr hn
  by_cases hc : cost ws a = cost ws b
  · rw [if_pos hc]
    have hne : (cost ws a != cost ws b) = false := by rw [hc]; simp
    clear hc
    by_cases hp : pop a = pop b
    · have hpe : (pop a != pop b) = false := by rw [hp]; simp
      have HRET : Hid (decide (pop a < pop b) = false) := by show decide (pop a < pop b) = false; rw [hp]; simp
      clear hp
      go_enter Tryd.func60, Tryd.ntmps60
      go_wp2_with fail
      refine (l1Cost_any n a A cap ws _ (HR.out.later (by go_grown)) HN.out ha0 (by omega)).mono ?_; rintro e w1 ⟨rfl, hb1⟩
      obtain ⟨hc1, hf1⟩ := bcell hb1
      have hz1_0 : w.heap.size < w1.heap.size := by have hq := hb1.size; (try simp at hq); omega
      have HK1 := Lib.hid hb1
      have HB1 := Lib.hid (bstep (B := w.heap.size) (W := w) (by (try have hp := HB0.out); go_grown) (by go_size) hb1); clear hb1
      go_wp2_with fail
      refine (l1Cost_any n b A cap ws _ (HR.out.later (by have := HB1.out; go_grown)) HN.out hb0 (by omega)).mono ?_; rintro e w2 ⟨rfl, hb2⟩
      obtain ⟨hc2, hf2⟩ := bcell hb2
      have hz2_0 : w.heap.size < w2.heap.size := by have hq := hb2.size; (try simp at hq); omega
      have HK2 := Lib.hid hb2
      have HB2 := Lib.hid (bstep (B := w.heap.size) (W := w) (by have hp := HB1.out; go_grown) (by go_size) hb2); clear hb2
      go_wp2_with fail
      refine (l1Size_any a ha0 ha1 _).mono ?_; rintro e w5 ⟨rfl, rfl⟩
      go_wp2_with fail
      refine (l1Size_any b hb0 hb1 _).mono ?_; rintro e w5 ⟨rfl, rfl⟩
      go_wp2_with fail
      go_ret
      exact ⟨ret_bool (by rw [HRET.out]; simp; omega), HB2.out⟩
    · have hpe : (pop a != pop b) = true := by simp [hp]
      clear hp
      go_enter Tryd.func60, Tryd.ntmps60
      go_wp2_with fail
      refine (l1Cost_any n a A cap ws _ (HR.out.later (by go_grown)) HN.out ha0 (by omega)).mono ?_; rintro e w1 ⟨rfl, hb1⟩
      obtain ⟨hc1, hf1⟩ := bcell hb1
      have hz1_0 : w.heap.size < w1.heap.size := by have hq := hb1.size; (try simp at hq); omega
      have HK1 := Lib.hid hb1
      have HB1 := Lib.hid (bstep (B := w.heap.size) (W := w) (by (try have hp := HB0.out); go_grown) (by go_size) hb1); clear hb1
      go_wp2_with fail
      refine (l1Cost_any n b A cap ws _ (HR.out.later (by have := HB1.out; go_grown)) HN.out hb0 (by omega)).mono ?_; rintro e w2 ⟨rfl, hb2⟩
      obtain ⟨hc2, hf2⟩ := bcell hb2
      have hz2_0 : w.heap.size < w2.heap.size := by have hq := hb2.size; (try simp at hq); omega
      have HK2 := Lib.hid hb2
      have HB2 := Lib.hid (bstep (B := w.heap.size) (W := w) (by have hp := HB1.out; go_grown) (by go_size) hb2); clear hb2
      go_wp2_with fail
      refine (l1Size_any a ha0 ha1 _).mono ?_; rintro e w5 ⟨rfl, rfl⟩
      go_wp2_with fail
      refine (l1Size_any b hb0 hb1 _).mono ?_; rintro e w5 ⟨rfl, rfl⟩
      go_wp2_with fail
      refine (l1Size_any a ha0 ha1 _).mono ?_; rintro e w5 ⟨rfl, rfl⟩
      go_wp2_with fail
      refine (l1Size_any b hb0 hb1 _).mono ?_; rintro e w5 ⟨rfl, rfl⟩
      go_wp2_with fail
      go_ret
      exact ⟨rfl, HB2.out⟩
  · rw [if_neg hc]
    have hne : (cost ws a != cost ws b) = true := by simp [hc]
    clear hc
    go_enter Tryd.func60, Tryd.ntmps60
    go_wp2_with fail
    refine (l1Cost_any n a A cap ws _ (HR.out.later (by go_grown)) HN.out ha0 (by omega)).mono ?_; rintro e w1 ⟨rfl, hb1⟩
    obtain ⟨hc1, hf1⟩ := bcell hb1
    have hz1_0 : w.heap.size < w1.heap.size := by have hq := hb1.size; (try simp at hq); omega
    have HK1 := Lib.hid hb1
    have HB1 := Lib.hid (bstep (B := w.heap.size) (W := w) (by (try have hp := HB0.out); go_grown) (by go_size) hb1); clear hb1
    go_wp2_with fail
    refine (l1Cost_any n b A cap ws _ (HR.out.later (by have := HB1.out; go_grown)) HN.out hb0 (by omega)).mono ?_; rintro e w2 ⟨rfl, hb2⟩
    obtain ⟨hc2, hf2⟩ := bcell hb2
    have hz2_0 : w.heap.size < w2.heap.size := by have hq := hb2.size; (try simp at hq); omega
    have HK2 := Lib.hid hb2
    have HB2 := Lib.hid (bstep (B := w.heap.size) (W := w) (by have hp := HB1.out; go_grown) (by go_size) hb2); clear hb2
    go_wp2_with fail
    go_ret
    exact ⟨rfl, HB2.out⟩

theorem bestTo_yes {ws : List Wy} {e : Int} {k : Nat} (h : bestTo ws e k < 0 ∨ chp ws k (bestTo ws e k) = true) (hj : joins ws k e = true) : bestTo ws e (k + 1) = k := by
  rw [bestTo, if_pos]
  rw [hj, Bool.and_true, Bool.or_eq_true]
  rcases h with h | h
  · left; simpa using h
  · right; exact h
theorem bestTo_no {ws : List Wy} {e : Int} {k : Nat} (h : joins ws k e = false ∨ (¬ bestTo ws e k < 0 ∧ chp ws k (bestTo ws e k) = false)) : bestTo ws e (k + 1) = bestTo ws e k := by
  rw [bestTo, if_neg]
  rcases h with h | ⟨h1, h2⟩
  · rw [h]; simp
  · rw [h2]; simp only [Bool.or_false, Bool.and_eq_true, decide_eq_true_eq]; omega

set_option maxHeartbeats 2000000 in
theorem leastJoining_any (n e : Int) (A : Option Addr) (cap : Nat) (ws : List Wy) (w : World) (hr : RW w w.heap.size A ws) (hn : NetIs n ws) (he0 : 0 ≤ e) (he1 : e < 2 ^ n.toNat) (hT : Tab w) :
    Calls Tryd.prog 50 #[.agg #[.int .i64 n, .slice A ws.length cap], .int .i64 e] w fun en w' => en = .returned (.int .i64 (best ws e)) ∧ Below w.heap.size w w' := by
  have HR := Lib.hid hr
  have HN := Lib.hid hn
  have HT := Lib.hid hT
  have HE := Lib.hid he1
  have hl9 := hn.len
  have hfb := full_bd ws.length hl9
  have hpl := pow_bd (ws.length : Int) 9 (by omega)
  rw [Int.toNat_natCast] at hpl
  have hpw : ((2 : Int) ^ ws.length) = ((2 ^ ws.length : Nat) : Int) := by simp
  obtain ⟨N, hN⟩ : ∃ N : Nat, 2 ^ ws.length = N := ⟨_, rfl⟩
  have hfN : full ws.length + 1 = (N : Int) := by unfold full; rw [hpw, hN]; omega
  have hN9 : N ≤ 512 := by rw [hN] at hpw; omega
  have HB : Hid (best ws e = bestTo ws e N) := by show best ws e = _; unfold best; rw [hN]
  have HFN := Lib.hid hfN
  obtain ⟨F, hF⟩ : ∃ F : Int, full ws.length = F := ⟨_, rfl⟩
  rw [hF] at hfN hfb
  have HF := Lib.hid hF
  clear hr hn hT he1 hpw hN hpl hF
  go_enter Tryd.func50, Tryd.ntmps50
  go_wp2_with fail
  refine (allWays_any n A ws.length cap (by omega) _).mono ?_; rintro e1 w1 ⟨rfl, hb1⟩; rw [HF.out]
  have hz1_0 : w.heap.size < w1.heap.size := by have hq := hb1.size; simp at hq; omega
  obtain ⟨hc1, hf1⟩ := bcell hb1
  have HB1 := Lib.hid (bstep (B := w.heap.size) (W := w) (by go_grown) (by go_size) hb1)
  have k1 : w1.cell? ⟨w.heap.size, 0, none⟩ = some (.int .i64 n) ∧ w1.cell? ⟨w.heap.size, 1, none⟩ = some (.slice A ws.length cap) := ⟨by go_simp, by go_simp⟩
  clear hb1
  go_wp2_with fail
  clear hc1 hf1
  go_loopw [5, 10] (fun c i wr => ∃ k : Nat, k ≤ N ∧ i = .int .i64 k ∧ c = .int .i64 (bestTo ws e k) ∧ wr.cell? ⟨w.heap.size, 0, none⟩ = some (.int .i64 n) ∧ wr.cell? ⟨w.heap.size, 1, none⟩ = some (.slice A ws.length cap) ∧ Below w.heap.size w wr ∧ w.heap.size < wr.heap.size) (fun _ i _ => N - (intOf i).toNat)
  case atStart => exact ⟨0, Nat.zero_le _, rfl, rfl, k1.1, k1.2, HB1.out, hz1_0⟩
  case round =>
    clear k1
    obtain ⟨k, hk, rfl, rfl, b0, b1, hb, hz⟩ := hrel
    have HB0 := Lib.hid hb
    have hbd := bestTo_bd ws e k
    have hbd0 := hbd.1
    have hbd1 := hbd.2
    clear hb hbd
    by_cases hlt : k < N
    · have hltF : (k : Int) < F + 1 := by omega
      by_cases hneg : bestTo ws e k < 0
      · cases hj : joins ws (k : Int) e
        · have HY := Lib.hid (bestTo_no (ws := ws) (e := e) (k := k) (.inl hj))
          have HJ := Lib.hid hj
          clear hj
          go_wp2_with fail
          refine (setJoins_any n k e A cap ws _ (HR.out.later (by have := HB0.out; go_grown)) HN.out (by omega) (by omega) he0 HE.out (HT.out.later (by have := HB0.out; go_grown))).mono ?_; rintro e3 w3 ⟨rfl, hb3⟩; rw [HJ.out]
          have k3 := keep2 hb3 ⟨b0, b1⟩ hz
          have z3 := Nat.lt_of_lt_of_le hz hb3.size
          have HB3 := Lib.hid (bstep (B := w.heap.size) (W := w) HB0.out (by omega) hb3)
          clear hb3
          go_wp2_with fail
          go_roundw
          case rel => exact ⟨k + 1, by omega, by go_num, by rw [HY.out], k3.1, k3.2, HB3.out, z3⟩
          case measure => simp [intOf]; omega
        · have HY := Lib.hid (bestTo_yes (ws := ws) (e := e) (k := k) (.inl hneg) hj)
          have HJ := Lib.hid hj
          clear hj
          go_wp2_with fail
          refine (setJoins_any n k e A cap ws _ (HR.out.later (by have := HB0.out; go_grown)) HN.out (by omega) (by omega) he0 HE.out (HT.out.later (by have := HB0.out; go_grown))).mono ?_; rintro e3 w3 ⟨rfl, hb3⟩; rw [HJ.out]
          have k3 := keep2 hb3 ⟨b0, b1⟩ hz
          have z3 := Nat.lt_of_lt_of_le hz hb3.size
          have HB3 := Lib.hid (bstep (B := w.heap.size) (W := w) HB0.out (by omega) hb3)
          clear hb3
          go_wp2_with fail
          go_roundw
          case rel => exact ⟨k + 1, by omega, by go_num, by rw [HY.out], k3.1, k3.2, HB3.out, z3⟩
          case measure => simp [intOf]; omega
      · have hge : 0 ≤ bestTo ws e k := by omega
        cases hc : chp ws (k : Int) (bestTo ws e k)
        · have HY := Lib.hid (bestTo_no (ws := ws) (e := e) (k := k) (.inr ⟨hneg, hc⟩))
          have HC := Lib.hid hc
          clear hc
          go_wp2_with fail
          refine (cheaper_any n k (bestTo ws e k) A cap ws _ (HR.out.later (by have := HB0.out; go_grown)) HN.out (by omega) (by omega) hge (by omega)).mono ?_; rintro e3 w3 ⟨rfl, hb3⟩; rw [HC.out]
          have k3 := keep2 hb3 ⟨b0, b1⟩ hz
          have z3 := Nat.lt_of_lt_of_le hz hb3.size
          have HB3 := Lib.hid (bstep (B := w.heap.size) (W := w) HB0.out (by omega) hb3)
          clear hb3
          go_wp2_with fail
          go_roundw
          case rel => exact ⟨k + 1, by omega, by go_num, by rw [HY.out], k3.1, k3.2, HB3.out, z3⟩
          case measure => simp [intOf]; omega
        · cases hj : joins ws (k : Int) e
          · have HY := Lib.hid (bestTo_no (ws := ws) (e := e) (k := k) (.inl hj))
            have HC := Lib.hid hc
            have HJ := Lib.hid hj
            clear hj hc
            go_wp2_with fail
            refine (cheaper_any n k (bestTo ws e k) A cap ws _ (HR.out.later (by have := HB0.out; go_grown)) HN.out (by omega) (by omega) hge (by omega)).mono ?_; rintro e3 w3 ⟨rfl, hb3⟩; rw [HC.out]
            have k3 := keep2 hb3 ⟨b0, b1⟩ hz
            have z3 := Nat.lt_of_lt_of_le hz hb3.size
            have HB3 := Lib.hid (bstep (B := w.heap.size) (W := w) HB0.out (by omega) hb3)
            clear hb3
            obtain ⟨l0, l1⟩ := k3
            go_wp2_with fail
            refine (setJoins_any n k e A cap ws _ (HR.out.later (by have := HB3.out; go_grown)) HN.out (by omega) (by omega) he0 HE.out (HT.out.later (by have := HB3.out; go_grown))).mono ?_; rintro e4 w4 ⟨rfl, hb4⟩; rw [HJ.out]
            have k4 := keep2 hb4 ⟨l0, l1⟩ z3
            have z4 := Nat.lt_of_lt_of_le z3 hb4.size
            have HB4 := Lib.hid (bstep (B := w.heap.size) (W := w) HB3.out (by omega) hb4)
            clear hb4
            go_wp2_with fail
            go_roundw
            case rel => exact ⟨k + 1, by omega, by go_num, by rw [HY.out], k4.1, k4.2, HB4.out, z4⟩
            case measure => simp [intOf]; omega
          · have HY := Lib.hid (bestTo_yes (ws := ws) (e := e) (k := k) (.inr hc) hj)
            have HC := Lib.hid hc
            have HJ := Lib.hid hj
            clear hj hc
            go_wp2_with fail
            refine (cheaper_any n k (bestTo ws e k) A cap ws _ (HR.out.later (by have := HB0.out; go_grown)) HN.out (by omega) (by omega) hge (by omega)).mono ?_; rintro e3 w3 ⟨rfl, hb3⟩; rw [HC.out]
            have k3 := keep2 hb3 ⟨b0, b1⟩ hz
            have z3 := Nat.lt_of_lt_of_le hz hb3.size
            have HB3 := Lib.hid (bstep (B := w.heap.size) (W := w) HB0.out (by omega) hb3)
            clear hb3
            obtain ⟨l0, l1⟩ := k3
            go_wp2_with fail
            refine (setJoins_any n k e A cap ws _ (HR.out.later (by have := HB3.out; go_grown)) HN.out (by omega) (by omega) he0 HE.out (HT.out.later (by have := HB3.out; go_grown))).mono ?_; rintro e4 w4 ⟨rfl, hb4⟩; rw [HJ.out]
            have k4 := keep2 hb4 ⟨l0, l1⟩ z3
            have z4 := Nat.lt_of_lt_of_le z3 hb4.size
            have HB4 := Lib.hid (bstep (B := w.heap.size) (W := w) HB3.out (by omega) hb4)
            clear hb4
            go_wp2_with fail
            go_roundw
            case rel => exact ⟨k + 1, by omega, by go_num, by rw [HY.out], k4.1, k4.2, HB4.out, z4⟩
            case measure => simp [intOf]; omega
    · have hkN : k = N := by omega
      subst hkN
      have hge : ¬ (k : Int) < F + 1 := by omega
      go_wp2_with fail
      go_ret
      exact ⟨ret_int HB.out.symm, HB0.out⟩
end Go.Proofs.YtbbomajgmgmigaaDoor
