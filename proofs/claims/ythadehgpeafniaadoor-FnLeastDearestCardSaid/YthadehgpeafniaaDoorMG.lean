/- PathOf, of the program and of its model. SpanMany, of the program and of its model. PathOf, of the program and of its model: the end. RootOf and RootCost, of the program and of its model. LeastIn, of the program and of its model: ways are taken away from behind. -/
import Derived.Test.YthadehgpeafniaaDoorMF
import Derived.Deep.RegionWith
set_option linter.unusedSimpArgs false
set_option linter.unusedVariables false
namespace Go.Proofs.YthadehgpeafniaaDoor
open Go.ChangeShapes Go.WideShapes Go.ChangeAt Go.RowKit

/-- the one set comes before the other one: cheaper, or as cheap with fewer ways -/
def chp (ws : List Wy) (a b : Int) : Bool := if cost ws a = cost ws b then decide (pop a < pop b) else decide (cost ws a < cost ws b)
/-- the best set below k that joins the places e -/
noncomputable def bestTo (ws : List Wy) (e : Int) : Nat → Int
  | 0 => -1
  | k + 1 => if (decide (bestTo ws e k < 0) || chp ws k (bestTo ws e k)) && joins ws k e then k else bestTo ws e k
theorem bestTo_bd (ws : List Wy) (e : Int) : ∀ k, -1 ≤ bestTo ws e k ∧ bestTo ws e k < k
  | 0 => by simp [bestTo]
  | k + 1 => by
    have ih := bestTo_bd ws e k
    rw [bestTo]
    split <;> omega
noncomputable def best (ws : List Wy) (e : Int) : Int := bestTo ws e (2 ^ ws.length)
theorem cost_bds {n : Int} {ws : List Wy} (hn : NetIs n ws) (s : Int) : 0 ≤ cost ws s ∧ cost ws s ≤ 81 := by
  have := cost_bd hn s ws.length
  rwa [List.take_of_length_le (Nat.le_refl _)] at this

set_option maxHeartbeats 1000000 in
theorem cheaper_any (n a b : Int) (A : Option Addr) (cap : Nat) (ws : List Wy) (w : World) (hr : RW w w.heap.size A ws) (hn : NetIs n ws) (ha0 : 0 ≤ a) (ha1 : a < 512) (hb0 : 0 ≤ b) (hb1 : b < 512) :
    Calls Tryd.prog 74 #[.agg #[.int .i64 n, .slice A ws.length cap], .int .i64 a, .int .i64 b] w fun e w' => e = .returned (.bool (chp ws a b)) ∧ Below w.heap.size w w' := by
  have HR := Lib.hid hr
  have HN := Lib.hid hn
  have ca := cost_bds hn a
  have cb := cost_bds hn b
  have pa := pop_bd a
  have pb := pop_bd b
  have hua : IntKind.u64.wrap a = a := by rw [IntKind.wrap_u64]; omega
  have hub : IntKind.u64.wrap b = b := by rw [IntKind.wrap_u64]; omega
  have HRA := Lib.hid (HR.out.later ((Below.refl _ _).alloc (Nat.le_refl _) (.cells #[.int .i64 n, .slice A ws.length cap] 25)))
  have k0 : (w.alloc (.cells #[.int .i64 n, .slice A ws.length cap] 25)).cell? ⟨w.heap.size, 0, none⟩ = some (.int .i64 n) ∧ (w.alloc (.cells #[.int .i64 n, .slice A ws.length cap] 25)).cell? ⟨w.heap.size, 1, none⟩ = some (.slice A ws.length cap) :=
    ⟨cell_of_row _ _ 0 _ _ (0, 0) (heap_alloc_new w _), cell_of_row _ _ 1 _ _ (0, 0) (heap_alloc_new w _)⟩
  have z0 : w.heap.size < (w.alloc (.cells #[.int .i64 n, .slice A ws.length cap] 25)).heap.size := by simp
  unfold chp
  clear hr hn
  by_cases hc : cost ws a = cost ws b
  · rw [if_pos hc]
    have hne : (cost ws a != cost ws b) = false := by rw [hc]; simp
    clear hc
    go_enter Tryd.func74, Tryd.ntmps74
    go_wp2_with fail
    go_region_held3 (fun w' => w'.cell? ⟨w.heap.size, 0, none⟩ = some (.int .i64 n) ∧ w'.cell? ⟨w.heap.size, 1, none⟩ = some (.slice A ws.length cap))
      (first | exact k4 | exact k3 | exact k0)
      (first
        | (go_at_call_of 68 (Value.int IntKind.i64 b); refine (setCost_any n b A cap ws w3 r3.out HN.out hb0 (by omega)).mono ?_; rintro e4 w4 ⟨rfl, hb4⟩; have k4 := keep2 hb4 k3 z3)
        | (go_at_call_of 68 (Value.int IntKind.i64 a); refine (setCost_any n a A cap ws _ (HRA.out.drewNR _) HN.out ha0 (by omega)).mono ?_; rintro e3 w3 ⟨rfl, hb3⟩; have g3 : Below (w.alloc (.cells #[.int .i64 n, .slice A ws.length cap] 25)).heap.size (w.alloc (.cells #[.int .i64 n, .slice A ws.length cap] 25)) w3 := und hb3; have k3 := keep2 g3 k0 z0; have r3 := Lib.hid (HRA.out.later g3); have z3 := Nat.lt_of_lt_of_le z0 g3.size))
    have HB4 := Lib.hid (bstep (B := w.heap.size) (W := w) (bstep ((Below.refl _ _).alloc (Nat.le_refl _) (.cells #[.int .i64 n, .slice A ws.length cap] 25)) (by simp) g3) (by omega) hb4)
    clear g3 hb3 hb4
    go_wp2_with fail
    refine (OC_any a ha0 ha1 _).mono ?_; rintro e w5 ⟨rfl, rfl⟩
    go_wp2_with fail
    refine (OC_any b hb0 hb1 _).mono ?_; rintro e w5 ⟨rfl, rfl⟩
    go_wp2_with fail
    go_ret
    exact ⟨rfl, HB4.out⟩
  · rw [if_neg hc]
    have hne : (cost ws a != cost ws b) = true := by simp [hc]
    clear hc
    go_enter Tryd.func74, Tryd.ntmps74
    go_wp2_with fail
    go_region_held3 (fun w' => w'.cell? ⟨w.heap.size, 0, none⟩ = some (.int .i64 n) ∧ w'.cell? ⟨w.heap.size, 1, none⟩ = some (.slice A ws.length cap))
      (first | exact k4 | exact k3 | exact k0)
      (first
        | (go_at_call_of 68 (Value.int IntKind.i64 b); refine (setCost_any n b A cap ws w3 r3.out HN.out hb0 (by omega)).mono ?_; rintro e4 w4 ⟨rfl, hb4⟩; have k4 := keep2 hb4 k3 z3)
        | (go_at_call_of 68 (Value.int IntKind.i64 a); refine (setCost_any n a A cap ws _ (HRA.out.drewNR _) HN.out ha0 (by omega)).mono ?_; rintro e3 w3 ⟨rfl, hb3⟩; have g3 : Below (w.alloc (.cells #[.int .i64 n, .slice A ws.length cap] 25)).heap.size (w.alloc (.cells #[.int .i64 n, .slice A ws.length cap] 25)) w3 := und hb3; have k3 := keep2 g3 k0 z0; have r3 := Lib.hid (HRA.out.later g3); have z3 := Nat.lt_of_lt_of_le z0 g3.size))
    have HB4 := Lib.hid (bstep (B := w.heap.size) (W := w) (bstep ((Below.refl _ _).alloc (Nat.le_refl _) (.cells #[.int .i64 n, .slice A ws.length cap] 25)) (by simp) g3) (by omega) hb4)
    clear g3 hb3 hb4
    go_wp2_with fail
    go_ret
    exact ⟨rfl, HB4.out⟩


theorem bestTo_yes {ws : List Wy} {e : Int} {k : Nat} (h : bestTo ws e k < 0 ∨ chp ws k (bestTo ws e k) = true) (hj : joins ws k e = true) : bestTo ws e (k + 1) = k := by
  rw [bestTo, if_pos]
  rw [hj, Bool.and_true, Bool.or_eq_true]
  rcases h with h | h
  · left; simpa using h
  · right; exact h
theorem bestTo_no {ws : List Wy} {e : Int} {k : Nat} (h : joins ws k e = false ∨ (¬ bestTo ws e k < 0 ∧ chp ws k (bestTo ws e k) = false)) : bestTo ws e (k + 1) = bestTo ws e k := by
  rw [bestTo, if_neg]
  rcases h with h | ⟨h1, h2⟩
  · rw [h]; simp
  · rw [h2]; simp only [Bool.or_false, Bool.and_eq_true, decide_eq_true_eq]; omega

set_option maxHeartbeats 2000000 in
theorem leastJoining_any (n e : Int) (A : Option Addr) (cap : Nat) (ws : List Wy) (w : World) (hr : RW w w.heap.size A ws) (hn : NetIs n ws) (he0 : 0 ≤ e) (he1 : e < 2 ^ n.toNat) (hT : Tab w) :
    Calls Tryd.prog 49 #[.agg #[.int .i64 n, .slice A ws.length cap], .int .i64 e] w fun en w' => en = .returned (.int .i64 (best ws e)) ∧ Below w.heap.size w w' := by
  have HR := Lib.hid hr
  have HN := Lib.hid hn
  have HT := Lib.hid hT
  have HE := Lib.hid he1
  have hl9 := hn.len
  have hfb := full_bd ws.length hl9
  have hpl := pow_bd (ws.length : Int) 9 (by omega)
  rw [Int.toNat_natCast] at hpl
  have hpw : ((2 : Int) ^ ws.length) = ((2 ^ ws.length : Nat) : Int) := by simp
  obtain ⟨N, hN⟩ : ∃ N : Nat, 2 ^ ws.length = N := ⟨_, rfl⟩
  have hfN : full ws.length + 1 = (N : Int) := by unfold full; rw [hpw, hN]; omega
  have hN9 : N ≤ 512 := by rw [hN] at hpw; omega
  have HB : Hid (best ws e = bestTo ws e N) := by show best ws e = _; unfold best; rw [hN]
  have HFN := Lib.hid hfN
  obtain ⟨F, hF⟩ : ∃ F : Int, full ws.length = F := ⟨_, rfl⟩
  rw [hF] at hfN hfb
  have HF := Lib.hid hF
  clear hr hn hT he1 hpw hN hpl hF
  go_enter Tryd.func49, Tryd.ntmps49
  go_wp2_with fail
  refine (allWays_any n A ws.length cap (by omega) _).mono ?_; rintro e1 w1 ⟨rfl, hb1⟩; rw [HF.out]
  have hz1_0 : w.heap.size < w1.heap.size := by have hq := hb1.size; simp at hq; omega
  obtain ⟨hc1, hf1⟩ := bcell hb1
  have HB1 := Lib.hid (bstep (B := w.heap.size) (W := w) (by go_grown) (by go_size) hb1)
  have k1 : w1.cell? ⟨w.heap.size, 0, none⟩ = some (.int .i64 n) ∧ w1.cell? ⟨w.heap.size, 1, none⟩ = some (.slice A ws.length cap) := ⟨by go_simp, by go_simp⟩
  clear hb1
  go_wp2_with fail
  clear hc1 hf1
  go_loopw [5, 10] (fun c i wr => ∃ k : Nat, k ≤ N ∧ i = .int .i64 k ∧ c = .int .i64 (bestTo ws e k) ∧ wr.cell? ⟨w.heap.size, 0, none⟩ = some (.int .i64 n) ∧ wr.cell? ⟨w.heap.size, 1, none⟩ = some (.slice A ws.length cap) ∧ Below w.heap.size w wr ∧ w.heap.size < wr.heap.size) (fun _ i _ => N - (intOf i).toNat)
  case atStart => exact ⟨0, Nat.zero_le _, rfl, rfl, k1.1, k1.2, HB1.out, hz1_0⟩
  case round =>
    clear k1
    obtain ⟨k, hk, rfl, rfl, b0, b1, hb, hz⟩ := hrel
    have HB0 := Lib.hid hb
    have hbd := bestTo_bd ws e k
    have hbd0 := hbd.1
    have hbd1 := hbd.2
    clear hb hbd
    by_cases hlt : k < N
    · have hltF : (k : Int) < F + 1 := by omega
      by_cases hneg : bestTo ws e k < 0
      · cases hj : joins ws (k : Int) e
        · have HY := Lib.hid (bestTo_no (ws := ws) (e := e) (k := k) (.inl hj))
          have HJ := Lib.hid hj
          clear hj
          go_wp2_with fail
          refine (setJoins_any n k e A cap ws _ (HR.out.later (by have := HB0.out; go_grown)) HN.out (by omega) (by omega) he0 HE.out (HT.out.later (by have := HB0.out; go_grown))).mono ?_; rintro e3 w3 ⟨rfl, hb3⟩; rw [HJ.out]
          have k3 := keep2 hb3 ⟨b0, b1⟩ hz
          have z3 := Nat.lt_of_lt_of_le hz hb3.size
          have HB3 := Lib.hid (bstep (B := w.heap.size) (W := w) HB0.out (by omega) hb3)
          clear hb3
          go_wp2_with fail
          go_roundw
          case rel => exact ⟨k + 1, by omega, by go_num, by rw [HY.out], k3.1, k3.2, HB3.out, z3⟩
          case measure => simp [intOf]; omega
        · have HY := Lib.hid (bestTo_yes (ws := ws) (e := e) (k := k) (.inl hneg) hj)
          have HJ := Lib.hid hj
          clear hj
          go_wp2_with fail
          refine (setJoins_any n k e A cap ws _ (HR.out.later (by have := HB0.out; go_grown)) HN.out (by omega) (by omega) he0 HE.out (HT.out.later (by have := HB0.out; go_grown))).mono ?_; rintro e3 w3 ⟨rfl, hb3⟩; rw [HJ.out]
          have k3 := keep2 hb3 ⟨b0, b1⟩ hz
          have z3 := Nat.lt_of_lt_of_le hz hb3.size
          have HB3 := Lib.hid (bstep (B := w.heap.size) (W := w) HB0.out (by omega) hb3)
          clear hb3
          go_wp2_with fail
          go_roundw
          case rel => exact ⟨k + 1, by omega, by go_num, by rw [HY.out], k3.1, k3.2, HB3.out, z3⟩
          case measure => simp [intOf]; omega
      · have hge : 0 ≤ bestTo ws e k := by omega
        cases hc : chp ws (k : Int) (bestTo ws e k)
        · have HY := Lib.hid (bestTo_no (ws := ws) (e := e) (k := k) (.inr ⟨hneg, hc⟩))
          have HC := Lib.hid hc
          clear hc
          go_wp2_with fail
          refine (cheaper_any n k (bestTo ws e k) A cap ws _ (HR.out.later (by have := HB0.out; go_grown)) HN.out (by omega) (by omega) hge (by omega)).mono ?_; rintro e3 w3 ⟨rfl, hb3⟩; rw [HC.out]
          have k3 := keep2 hb3 ⟨b0, b1⟩ hz
          have z3 := Nat.lt_of_lt_of_le hz hb3.size
          have HB3 := Lib.hid (bstep (B := w.heap.size) (W := w) HB0.out (by omega) hb3)
          clear hb3
          go_wp2_with fail
          go_roundw
          case rel => exact ⟨k + 1, by omega, by go_num, by rw [HY.out], k3.1, k3.2, HB3.out, z3⟩
          case measure => simp [intOf]; omega
        · cases hj : joins ws (k : Int) e
          · have HY := Lib.hid (bestTo_no (ws := ws) (e := e) (k := k) (.inl hj))
            have HC := Lib.hid hc
            have HJ := Lib.hid hj
            clear hj hc
            go_wp2_with fail
            refine (cheaper_any n k (bestTo ws e k) A cap ws _ (HR.out.later (by have := HB0.out; go_grown)) HN.out (by omega) (by omega) hge (by omega)).mono ?_; rintro e3 w3 ⟨rfl, hb3⟩; rw [HC.out]
            have k3 := keep2 hb3 ⟨b0, b1⟩ hz
            have z3 := Nat.lt_of_lt_of_le hz hb3.size
            have HB3 := Lib.hid (bstep (B := w.heap.size) (W := w) HB0.out (by omega) hb3)
            clear hb3
            obtain ⟨l0, l1⟩ := k3
            go_wp2_with fail
            refine (setJoins_any n k e A cap ws _ (HR.out.later (by have := HB3.out; go_grown)) HN.out (by omega) (by omega) he0 HE.out (HT.out.later (by have := HB3.out; go_grown))).mono ?_; rintro e4 w4 ⟨rfl, hb4⟩; rw [HJ.out]
            have k4 := keep2 hb4 ⟨l0, l1⟩ z3
            have z4 := Nat.lt_of_lt_of_le z3 hb4.size
            have HB4 := Lib.hid (bstep (B := w.heap.size) (W := w) HB3.out (by omega) hb4)
            clear hb4
            go_wp2_with fail
            go_roundw
            case rel => exact ⟨k + 1, by omega, by go_num, by rw [HY.out], k4.1, k4.2, HB4.out, z4⟩
            case measure => simp [intOf]; omega
          · have HY := Lib.hid (bestTo_yes (ws := ws) (e := e) (k := k) (.inr hc) hj)
            have HC := Lib.hid hc
            have HJ := Lib.hid hj
            clear hj hc
            go_wp2_with fail
            refine (cheaper_any n k (bestTo ws e k) A cap ws _ (HR.out.later (by have := HB0.out; go_grown)) HN.out (by omega) (by omega) hge (by omega)).mono ?_; rintro e3 w3 ⟨rfl, hb3⟩; rw [HC.out]
            have k3 := keep2 hb3 ⟨b0, b1⟩ hz
            have z3 := Nat.lt_of_lt_of_le hz hb3.size
            have HB3 := Lib.hid (bstep (B := w.heap.size) (W := w) HB0.out (by omega) hb3)
            clear hb3
            obtain ⟨l0, l1⟩ := k3
            go_wp2_with fail
            refine (setJoins_any n k e A cap ws _ (HR.out.later (by have := HB3.out; go_grown)) HN.out (by omega) (by omega) he0 HE.out (HT.out.later (by have := HB3.out; go_grown))).mono ?_; rintro e4 w4 ⟨rfl, hb4⟩; rw [HJ.out]
            have k4 := keep2 hb4 ⟨l0, l1⟩ z3
            have z4 := Nat.lt_of_lt_of_le z3 hb4.size
            have HB4 := Lib.hid (bstep (B := w.heap.size) (W := w) HB3.out (by omega) hb4)
            clear hb4
            go_wp2_with fail
            go_roundw
            case rel => exact ⟨k + 1, by omega, by go_num, by rw [HY.out], k4.1, k4.2, HB4.out, z4⟩
            case measure => simp [intOf]; omega
    · have hkN : k = N := by omega
      subst hkN
      have hge : ¬ (k : Int) < F + 1 := by omega
      go_wp2_with fail
      go_ret
      exact ⟨ret_int HB.out.symm, HB0.out⟩
end Go.Proofs.YthadehgpeafniaaDoor
namespace Go.Proofs.YthadehgpeafniaaDoor
open Go.ChangeShapes Go.WideShapes Go.ChangeAt Go.RowKit

/-- all places below n -/
def allPl (n : Int) : Int := 2 ^ n.toNat - 1
theorem allPl_bit {n q : Int} (h0 : 0 ≤ q) (hn : 0 ≤ n) : bit (allPl n) q = decide (q < n) := by
  unfold bit allPl
  have e : ((2 : Int) ^ n.toNat - 1).toNat = 2 ^ n.toNat - 1 := by
    have e1 : ((2 : Int) ^ n.toNat) = ((2 ^ n.toNat : Nat) : Int) := by simp
    have : 1 ≤ 2 ^ n.toNat := Nat.one_le_two_pow
    omega
  rw [e, Nat.testBit_two_pow_sub_one, Bool.eq_iff_iff]
  simp only [decide_eq_true_eq]
  omega
theorem allPl_bd {n : Int} {ws : List Wy} (hn : NetIs n ws) : 0 < allPl n ∧ allPl n < 64 ∧ allPl n < 2 ^ n.toNat := by
  have h := pow_bd n 6 (by have := hn.hi; omega)
  have h1 : (2 : Int) ^ 1 ≤ 2 ^ n.toNat := by
    have hh : 2 ^ 1 ≤ 2 ^ n.toNat := Nat.pow_le_pow_right (by omega) (by have := hn.lo; omega)
    have e1 : ((2 : Int) ^ n.toNat) = ((2 ^ n.toNat : Nat) : Int) := by simp
    omega
  unfold allPl; omega
theorem nds_bit (ws : List Wy) (s : Int) {n : Int} (hn : NetIs n ws) : ∀ (k j : Nat) (x : Wy), j < k → ws[j]? = some x → bit s j = true → bit (nodesTo ws s k) x.a = true ∧ bit (nodesTo ws s k) x.b = true
  | 0, j, _, hj, _, _ => by omega
  | k + 1, j, x, hj, hx, hb => by
    obtain ⟨a0, _, b0, _⟩ := hn.at_ hx
    cases hy : ws[k]? with
    | none =>
      have hjk : j ≠ k := fun e => by subst e; rw [hx] at hy; cases hy
      simp only [nodesTo, hy]
      exact nds_bit ws s hn k j x (by omega) hx hb
    | some y =>
      by_cases hjk : j = k
      · subst hjk
        rw [hx] at hy; injection hy with hy; subst hy
        rw [nodesTo_yes hx hb, bit_ior, bit_ior, wayPl_is, bit_ior, bit_ior, bit_shl _ _ a0 a0, bit_shl _ _ b0 b0]
        simp
      · have ih := nds_bit ws s hn k j x (by omega) hx hb
        cases hbk : bit s k
        · rw [nodesTo_no hy hbk]; exact ih
        · rw [nodesTo_yes hy hbk, bit_ior, bit_ior, ih.1, ih.2]
          simp
/-- if all places are joined, all are places of the set -/
theorem joins_nds {n : Int} {ws : List Wy} (hn : NetIs n ws) {s : Int} (h : joins ws s (allPl n) = true) : nds ws s = allPl n := by
  have hb := allPl_bd hn
  have hd := nds_bd hn s
  have hj := (joins_iff hn (by omega) hb.2.2).1 h
  refine set_ext hd.1 (by omega) fun q hq => ?_
  rw [allPl_bit hq (by have := hn.lo; omega)]
  by_cases hqn : q < n
  · rw [decide_eq_true hqn]
    apply Classical.byContradiction
    intro hno
    rw [Bool.not_eq_true] at hno
    -- then one comes from q to q alone
    obtain ⟨o, ho0, hon, hoq⟩ : ∃ o : Int, 0 ≤ o ∧ o < n ∧ o ≠ q := by
      by_cases h0 : q = 0
      · exact ⟨1, by omega, by have := hn.lo; omega, by omega⟩
      · exact ⟨0, by omega, by have := hn.lo; omega, by omega⟩
    have hr := hj q o hq ho0 (by rw [allPl_bit hq (by have := hn.lo; omega)]; simpa using hqn) (by rw [allPl_bit ho0 (by have := hn.lo; omega)]; simpa using hon)
    have hl := (reach_is (s := s) hn hq hqn).least (fun y => decide (y = q)) (by simp) (fun k x hx hbk => by
      have hk := (List.getElem?_eq_some_iff.1 hx).1
      obtain ⟨h1, h2⟩ := nds_bit ws s hn ws.length k x hk hx hbk
      have ha : x.a ≠ q := fun e => by rw [e] at h1; unfold nds at hno; rw [hno] at h1; cases h1
      have hb' : x.b ≠ q := fun e => by rw [e] at h2; unfold nds at hno; rw [hno] at h2; cases h2
      simp [ha, hb']) o ho0 hr
    simp at hl
    exact hoq hl
  · rw [decide_eq_false hqn]
    exact bit_big hd.1 hd.2.2 (by have := hn.lo; omega)
theorem pop_all : ∀ n : Fin 7, pop (2 ^ n.val - 1) = n.val := by decide +kernel
theorem pop_allPl {n : Int} (h0 : 0 ≤ n) (h6 : n ≤ 6) : pop (allPl n) = n := by
  have := pop_all ⟨n.toNat, by omega⟩
  unfold allPl
  simp only at this
  rw [this]; omega
theorem pop_zero_iff : ∀ s : Fin 512, pop (s.val : Int) = 0 → s.val = 0 := by decide +kernel
/-- trees that join all places are the sets that join all places and have one way fewer -/
theorem span_iff {n : Int} {ws : List Wy} (hn : NetIs n ws) {s : Int} : (tree ws s && joins ws s (allPl n)) = (pop s == n - 1 && joins ws s (allPl n)) := by
  cases h : joins ws s (allPl n)
  · simp
  · have hd := joins_nds hn h
    have hp := pop_allPl (n := n) (by have := hn.lo; omega) hn.hi
    have h2 := hn.lo
    unfold tree
    rw [hd, hp, h]
    simp only [Bool.and_true]
    by_cases hs : s = 0
    · -- no ways join no two places
      exfalso
      subst hs
      have hnz : nds ws 0 = 0 := by
        have : ∀ k, nodesTo ws 0 k = 0 := fun k => by
          induction k with
          | zero => rfl
          | succ k ih =>
            cases hx : ws[k]? with
            | none => simp only [nodesTo, hx]; exact ih
            | some x => rw [nodesTo_no hx (bit_zero_ _)]; exact ih
        exact this _
      have := (allPl_bd hn).1
      omega
    · have : (s == 0) = false := by simp [hs]
      rw [this, Bool.false_or]
/-- how many of the sets below k are trees that join all places -/
noncomputable def manyTo (n : Int) (ws : List Wy) : Nat → Int
  | 0 => 0
  | k + 1 => manyTo n ws k + if (pop k == n - 1 && joins ws k (allPl n)) = true then 1 else 0
theorem manyTo_bd (n : Int) (ws : List Wy) : ∀ k, 0 ≤ manyTo n ws k ∧ manyTo n ws k ≤ k
  | 0 => by simp [manyTo]
  | k + 1 => by
    have ih := manyTo_bd n ws k
    rw [manyTo]
    split <;> omega
noncomputable def manyOf (n : Int) (ws : List Wy) : Int := if netOk n ws = true then manyTo n ws (2 ^ ws.length) else -1

theorem allPlaces_any (n : Int) (v : Value) (h0 : 0 ≤ n) (h6 : n ≤ 6) (w : World) :
    Calls Tryd.prog 42 #[.agg #[.int .i64 n, v]] w fun e w' => e = .returned (.int .i64 (allPl n)) ∧ Below w.heap.size w w' := by
  have hp := pow_bd n 6 (by omega)
  go_enter Tryd.func42, Tryd.ntmps42
  go_wp2
  go_ret
  exact ⟨ret_int rfl, by go_grown⟩

end Go.Proofs.YthadehgpeafniaaDoor
namespace Go.Proofs.YthadehgpeafniaaDoor
open Go.ChangeShapes Go.WideShapes Go.ChangeAt Go.RowKit


def both (a b : Int) : Int := ior (2 ^ a.toNat) (2 ^ b.toNat)
noncomputable def pathOf (n : Int) (ws : List Wy) (a b : Int) : Int := if (netOk n ws && (hasPl n a && hasPl n b)) = true then best ws (both a b) else -1


end Go.Proofs.YthadehgpeafniaaDoor
namespace Go.Proofs.YthadehgpeafniaaDoor
open Go.ChangeShapes Go.WideShapes Go.ChangeAt Go.RowKit

noncomputable def rootOf (n : Int) (ws : List Wy) (e : Int) : Int := if (netOk n ws && plOk n e) = true then best ws e else -1
noncomputable def rootCost (n : Int) (ws : List Wy) (e : Int) : Int := costOf n ws (rootOf n ws e)
theorem best_bd' (ws : List Wy) (e : Int) : -1 ≤ best ws e ∧ best ws e < 2 ^ ws.length := by
  have h := bestTo_bd ws e (2 ^ ws.length)
  have e2 : ((2 : Int) ^ ws.length) = ((2 ^ ws.length : Nat) : Int) := by simp
  unfold best
  omega
theorem rootCost_is {n : Int} {ws : List Wy} {e : Int} (h : (netOk n ws && plOk n e) = true) : rootCost n ws e = if best ws e < 0 then -1 else cost ws (best ws e) := by
  have hb := best_bd' ws e
  have hn : netOk n ws = true := by rw [Bool.and_eq_true] at h; exact h.1
  unfold rootCost rootOf costOf
  rw [if_pos h]
  split
  · rename_i h1
    rw [if_neg]
    have := (setOk_t h1).2.1
    omega
  · rename_i h1
    rw [if_pos]
    cases hq : decide (best ws e < 0)
    · exfalso
      have h0 : ¬ best ws e < 0 := of_decide_eq_false hq
      apply h1
      unfold setOk
      rw [hn]
      unfold full
      simp
      omega
    · exact of_decide_eq_true hq
theorem rootCost_not {n : Int} {ws : List Wy} {e : Int} (h : (netOk n ws && plOk n e) = false) : rootCost n ws e = -1 := by
  unfold rootCost rootOf costOf
  have hx : ¬ (netOk n ws && plOk n e) = true := by rw [h]; simp
  rw [if_neg hx, if_neg]
  intro h1
  have := (setOk_t h1).2.1
  omega
set_option maxHeartbeats 400000 in
theorem endsOk_any (n e : Int) (A : Option Addr) (cap : Nat) (ws : List Wy) (w : World) (hr : RW w w.heap.size A ws) :
    Calls Tryd.prog 33 #[.agg #[.int .i64 n, .slice A ws.length cap], .int .i64 e] w fun en w' => en = .returned (.bool (netOk n ws && plOk n e)) ∧ Below w.heap.size w w' := by
  have HR := Lib.hid hr
  clear hr
  cases hn : netOk n ws
  · have HN := Lib.hid hn
    rw [Bool.false_and]
    clear hn
    go_enter Tryd.func33, Tryd.ntmps33
    go_wp2_with fail
    refine (NetOk_any _ _ _ _ _ (HR.out.later (by go_grown))).mono ?_; rintro e w1 ⟨rfl, hb1⟩
    rw [HN.out]
    obtain ⟨hc1, hf1⟩ := bcell hb1
    have hz1_0 : w.heap.size < w1.heap.size := by have hq := hb1.size; (try simp at hq); omega
    have HK1 := Lib.hid hb1
    have HB1 := Lib.hid (bstep (B := w.heap.size) (W := w) (by (try have hp := HB0.out); go_grown) (by go_size) hb1); clear hb1
    go_wp2_with fail
    go_ret
    exact ⟨rfl, HB1.out⟩
  · have HN := Lib.hid hn
    have hn2 := (netOk_t hn).lo
    have hn6 := (netOk_t hn).hi
    rw [Bool.true_and]
    clear hn
    go_enter Tryd.func33, Tryd.ntmps33
    go_wp2_with fail
    refine (NetOk_any _ _ _ _ _ (HR.out.later (by go_grown))).mono ?_; rintro e w1 ⟨rfl, hb1⟩
    rw [HN.out]
    obtain ⟨hc1, hf1⟩ := bcell hb1
    have hz1_0 : w.heap.size < w1.heap.size := by have hq := hb1.size; (try simp at hq); omega
    have HK1 := Lib.hid hb1
    have HB1 := Lib.hid (bstep (B := w.heap.size) (W := w) (by (try have hp := HB0.out); go_grown) (by go_size) hb1); clear hb1
    go_wp2_with fail
    refine (hasPlaces_any _ _ _ (by omega) (by omega) _).mono ?_; rintro e w2 ⟨rfl, hb2⟩
    obtain ⟨hc2, hf2⟩ := bcell hb2
    have hz2_0 : w.heap.size < w2.heap.size := by have hq := hb2.size; (try simp at hq); omega
    have HK2 := Lib.hid hb2
    have HB2 := Lib.hid (bstep (B := w.heap.size) (W := w) (by have hp := HB1.out; go_grown) (by go_size) hb2); clear hb2
    go_wp2_with fail
    go_ret
    exact ⟨rfl, HB2.out⟩
set_option maxHeartbeats 1000000 in
theorem RootOf_any (n e : Int) (A : Option Addr) (cap : Nat) (ws : List Wy) (w : World) (hr : RW w w.heap.size A ws) (hT : Tab w) :
    Calls Tryd.prog 16 #[.agg #[.int .i64 n, .slice A ws.length cap], .int .i64 e] w fun en w' => en = .returned (.int .i64 (rootOf n ws e)) ∧ Below w.heap.size w w' := by
  have HR := Lib.hid hr
  have HT := Lib.hid hT
  clear hr hT
  unfold rootOf
  cases hn : netOk n ws && plOk n e
  · have HN := Lib.hid hn
    rw [if_neg (by simp)]
    clear hn
    go_enter Tryd.func16, Tryd.ntmps16
    go_wp2_with fail
    refine (endsOk_any _ _ _ _ _ _ (HR.out.later (by go_grown))).mono ?_; rintro e w1 ⟨rfl, hb1⟩
    rw [HN.out]
    obtain ⟨hc1, hf1⟩ := bcell hb1
    have hz1_0 : w.heap.size < w1.heap.size := by have hq := hb1.size; (try simp at hq); omega
    have HK1 := Lib.hid hb1
    have HB1 := Lib.hid (bstep (B := w.heap.size) (W := w) (by (try have hp := HB0.out); go_grown) (by go_size) hb1); clear hb1
    go_wp2_with fail
    go_ret
    exact ⟨rfl, HB1.out⟩
  · have HN := Lib.hid hn
    obtain ⟨hn1, hn2⟩ : netOk n ws = true ∧ plOk n e = true := by simpa using hn
    have HS := Lib.hid (netOk_t hn1)
    obtain ⟨he0, he1⟩ := plOk_t hn2
    have HE := Lib.hid he1
    rw [if_pos rfl]
    clear hn hn1 hn2 he1
    go_enter Tryd.func16, Tryd.ntmps16
    go_wp2_with fail
    refine (endsOk_any _ _ _ _ _ _ (HR.out.later (by go_grown))).mono ?_; rintro e w1 ⟨rfl, hb1⟩
    rw [HN.out]
    obtain ⟨hc1, hf1⟩ := bcell hb1
    have hz1_0 : w.heap.size < w1.heap.size := by have hq := hb1.size; (try simp at hq); omega
    have HK1 := Lib.hid hb1
    have HB1 := Lib.hid (bstep (B := w.heap.size) (W := w) (by (try have hp := HB0.out); go_grown) (by go_size) hb1); clear hb1
    go_wp2_with fail
    refine (leastJoining_any n e A cap ws _ (HR.out.later (by have := HB1.out; go_grown)) HS.out he0 HE.out (HT.out.later (by have := HB1.out; go_grown))).mono ?_; rintro e w2 ⟨rfl, hb2⟩
    obtain ⟨hc2, hf2⟩ := bcell hb2
    have hz2_0 : w.heap.size < w2.heap.size := by have hq := hb2.size; (try simp at hq); omega
    have HK2 := Lib.hid hb2
    have HB2 := Lib.hid (bstep (B := w.heap.size) (W := w) (by have hp := HB1.out; go_grown) (by go_size) hb2); clear hb2
    go_wp2_with fail
    go_ret
    exact ⟨rfl, HB2.out⟩
set_option maxHeartbeats 1000000 in
theorem RootCost_any (n e : Int) (A : Option Addr) (cap : Nat) (ws : List Wy) (w : World) (hr : RW w w.heap.size A ws) (hT : Tab w) :
    Calls Tryd.prog 11 #[.agg #[.int .i64 n, .slice A ws.length cap], .int .i64 e] w fun en w' => en = .returned (.int .i64 (rootCost n ws e)) ∧ Below w.heap.size w w' := by
  have HR := Lib.hid hr
  have HT := Lib.hid hT
  have HRA := Lib.hid (HR.out.later ((Below.refl _ _).alloc (Nat.le_refl _) (.cells #[.int .i64 n, .slice A ws.length cap] 25)))
  have HTA := Lib.hid (HT.out.later ((Below.refl _ _).alloc (Nat.le_refl _) (.cells #[.int .i64 n, .slice A ws.length cap] 25)))
  have k0 : (w.alloc (.cells #[.int .i64 n, .slice A ws.length cap] 25)).cell? ⟨w.heap.size, 0, none⟩ = some (.int .i64 n) ∧ (w.alloc (.cells #[.int .i64 n, .slice A ws.length cap] 25)).cell? ⟨w.heap.size, 1, none⟩ = some (.slice A ws.length cap) :=
    ⟨cell_of_row _ _ 0 _ _ (0, 0) (heap_alloc_new w _), cell_of_row _ _ 1 _ _ (0, 0) (heap_alloc_new w _)⟩
  have z0 : w.heap.size < (w.alloc (.cells #[.int .i64 n, .slice A ws.length cap] 25)).heap.size := by simp
  unfold rootCost
  clear hr hT
  go_enter Tryd.func11, Tryd.ntmps11
  go_wp2_with fail
  go_region_held3 (fun w' => w'.cell? ⟨w.heap.size, 0, none⟩ = some (.int .i64 n) ∧ w'.cell? ⟨w.heap.size, 1, none⟩ = some (.slice A ws.length cap))
    (first | exact k4 | exact k3 | exact k0)
    (first
      | (go_at_call 39; refine (CostOf_any n (rootOf n ws e) A cap ws w3 r3.out).mono ?_; rintro e4 w4 ⟨rfl, hb4⟩; have k4 := keep2 hb4 k3 z3)
      | (go_at_call 16; refine (RootOf_any n e A cap ws _ (HRA.out.drewNR _) (HTA.out.drewNR _)).mono ?_; rintro e3 w3 ⟨rfl, hb3⟩; have g3 : Below (w.alloc (.cells #[.int .i64 n, .slice A ws.length cap] 25)).heap.size (w.alloc (.cells #[.int .i64 n, .slice A ws.length cap] 25)) w3 := und hb3; have k3 := keep2 g3 k0 z0; have r3 := Lib.hid (HRA.out.later g3); have z3 := Nat.lt_of_lt_of_le z0 g3.size))
  have HB4 := Lib.hid (bstep (B := w.heap.size) (W := w) (bstep ((Below.refl _ _).alloc (Nat.le_refl _) (.cells #[.int .i64 n, .slice A ws.length cap] 25)) (by simp) g3) (by omega) hb4)
  clear g3 hb3 hb4
  go_wp2_with fail
  go_ret
  exact ⟨rfl, HB4.out⟩
end Go.Proofs.YthadehgpeafniaaDoor
namespace Go.Proofs.YthadehgpeafniaaDoor
open Go.ChangeShapes Go.WideShapes Go.ChangeAt Go.RowKit

/-- what is left when the last j ways have been looked at -/
noncomputable def thS (ws : List Wy) (e s : Int) : Nat → Int
  | 0 => s
  | j + 1 => if joins ws (idiff (thS ws e s j) (2 ^ (ws.length - 1 - j))) e = true then idiff (thS ws e s j) (2 ^ (ws.length - 1 - j)) else thS ws e s j
theorem thS_bd {ws : List Wy} {e s : Int} (h0 : 0 ≤ s) : ∀ j, 0 ≤ thS ws e s j ∧ thS ws e s j ≤ s
  | 0 => ⟨h0, Int.le_refl _⟩
  | j + 1 => by
    have ih := thS_bd (ws := ws) (e := e) h0 j
    have hd := idiff_bd (thS ws e s j) (2 ^ (ws.length - 1 - j)) ih.1
    rw [thS]
    split <;> omega
theorem thS_le {ws : List Wy} {e s : Int} (h0 : 0 ≤ s) (j : Nat) : thS ws e s (j + 1) ≤ thS ws e s j := by
  have ih := thS_bd (ws := ws) (e := e) h0 j
  have hd := idiff_bd (thS ws e s j) (2 ^ (ws.length - 1 - j)) ih.1
  rw [thS]
  split <;> omega
theorem thS_le2 {ws : List Wy} {e s : Int} (h0 : 0 ≤ s) (j : Nat) : ∀ d, thS ws e s (j + d) ≤ thS ws e s j
  | 0 => Int.le_refl _
  | d + 1 => Int.le_trans (thS_le h0 (j + d)) (thS_le2 h0 j d)
theorem thS_yes {ws : List Wy} {e s : Int} {j k : Nat} (hk : k + j + 1 = ws.length) (h : joins ws (idiff (thS ws e s j) (2 ^ k)) e = true) : thS ws e s (j + 1) = idiff (thS ws e s j) (2 ^ k) := by
  have e1 : ws.length - 1 - j = k := by omega
  rw [thS, e1, if_pos h]
theorem thS_no {ws : List Wy} {e s : Int} {j k : Nat} (hk : k + j + 1 = ws.length) (h : joins ws (idiff (thS ws e s j) (2 ^ k)) e = false) : thS ws e s (j + 1) = thS ws e s j := by
  have e1 : ws.length - 1 - j = k := by omega
  rw [thS, e1, if_neg (by rw [h]; simp)]
theorem idiff_not {u : Int} {k : Nat} (h0 : 0 ≤ u) (hb : bit u k = false) : idiff u (2 ^ k) = u := by
  have hd := idiff_bd u (2 ^ k) h0
  refine set_ext hd.1 h0 fun q hq => ?_
  have e2 : ((2 : Int) ^ k) = 2 ^ ((k : Int)).toNat := by rw [Int.toNat_natCast]
  rw [bit_idiff, e2, bit_shl (k : Int) q (by omega) hq]
  by_cases h : q = k
  · subst h; rw [hb]; rfl
  · rw [decide_eq_false h]; simp
theorem thS_same {ws : List Wy} {e s : Int} {j k : Nat} (h0 : 0 ≤ s) (hk : k + j + 1 = ws.length) (hb : bit (thS ws e s j) k = false) : thS ws e s (j + 1) = thS ws e s j := by
  have ih := thS_bd (ws := ws) (e := e) h0 j
  cases h : joins ws (idiff (thS ws e s j) (2 ^ k)) e
  · exact thS_no hk h
  · rw [thS_yes hk h, idiff_not ih.1 hb]
theorem thS_joins {ws : List Wy} {e s : Int} (h : joins ws s e = true) : ∀ j, joins ws (thS ws e s j) e = true
  | 0 => h
  | j + 1 => by
    have ih := thS_joins h j
    rw [thS]
    split
    · assumption
    · exact ih
noncomputable def leastIn (n : Int) (ws : List Wy) (s e : Int) : Int := if joinsEnds n ws s e = true then thS ws e s ws.length else -1
theorem joinsEnds_t {n : Int} {ws : List Wy} {s e : Int} (h : joinsEnds n ws s e = true) : setOk n ws s = true ∧ plOk n e = true ∧ joins ws s e = true := by
  unfold joinsEnds at h
  rw [Bool.and_eq_true, Bool.and_eq_true] at h
  exact ⟨h.1.1, h.1.2, h.2⟩

end Go.Proofs.YthadehgpeafniaaDoor
