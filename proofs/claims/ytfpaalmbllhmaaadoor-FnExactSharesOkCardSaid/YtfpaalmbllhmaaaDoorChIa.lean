/- SpanOn and ChosenCost of the program. -/
import Derived.Test.YtfpaalmbllhmaaaDoorST
import Derived.Test.YtfpaalmbllhmaaaDoorChA
set_option linter.unusedSimpArgs false
set_option linter.unusedVariables false
namespace Go.Proofs.YtfpaalmbllhmaaaDoor
open Go.ChangeShapes Go.WideShapes Go.ChangeAt Go.RowKit

/-! ### two numbers together are a set of places exactly if both are -/
def InI (e : Int) : Prop := -9223372036854775808 ≤ e ∧ e ≤ 9223372036854775807
theorem inI {e : Int} (h : -9223372036854775808 ≤ e) (h' : e ≤ 9223372036854775807) : InI e := ⟨h, h'⟩
theorem inI_wf {e : Int} (h : (Lit.int .i64 e).wf = true) : InI e := by
  have h2 : (decide (IntKind.i64.min ≤ e) && decide (e ≤ IntKind.i64.max)) = true := h
  rw [Bool.and_eq_true, decide_eq_true_eq, decide_eq_true_eq] at h2
  have e1 : IntKind.i64.min = -9223372036854775808 := by decide
  have e2 : IntKind.i64.max = 9223372036854775807 := by decide
  rw [e1, e2] at h2
  exact h2
theorem or_plOk {n e c : Int} (h6 : n ≤ 6) (he : InI e) (hc : InI c) : plOk n (bits .or .i64 e c) = (plOk n e && plOk n c) := by
  obtain ⟨he1, he2⟩ := he
  obtain ⟨hc1, hc2⟩ := hc
  have hp := pow_bd n 6 (by omega)
  obtain ⟨P, hP⟩ : ∃ P : Nat, 2 ^ n.toNat = P := ⟨_, rfl⟩
  have hPI : ((2 : Int) ^ n.toNat) = (P : Int) := by rw [← hP]; simp
  have hbits : bits .or .i64 e c = IntKind.i64.wrap (((BitVec.ofInt 64 e).toNat ||| (BitVec.ofInt 64 c).toNat : Nat) : Int) := by
    show IntKind.i64.wrap ((BitVec.ofInt 64 e ||| BitVec.ofInt 64 c).toNat : Int) = _
    rw [BitVec.toNat_or]
  have ea : ((BitVec.ofInt 64 e).toNat : Int) = e % 18446744073709551616 := by
    rw [BitVec.toNat_ofInt]
    have : (((2 ^ 64 : Nat) : Int)) = 18446744073709551616 := by decide
    rw [this]; omega
  have eb : ((BitVec.ofInt 64 c).toNat : Int) = c % 18446744073709551616 := by
    rw [BitVec.toNat_ofInt]
    have : (((2 ^ 64 : Nat) : Int)) = 18446744073709551616 := by decide
    rw [this]; omega
  obtain ⟨a, ha⟩ : ∃ a, (BitVec.ofInt 64 e).toNat = a := ⟨_, rfl⟩
  obtain ⟨b, hb⟩ : ∃ b, (BitVec.ofInt 64 c).toNat = b := ⟨_, rfl⟩
  rw [ha] at ea
  rw [hb] at eb
  have hab : a ||| b < 2 ^ 64 := Nat.or_lt_two_pow (by omega) (by omega)
  have hlo : a ||| b < P ↔ a < P ∧ b < P := ⟨fun h => ⟨Nat.lt_of_le_of_lt Nat.left_le_or h, Nat.lt_of_le_of_lt Nat.right_le_or h⟩, fun h => by rw [← hP] at h ⊢; exact Nat.or_lt_two_pow h.1 h.2⟩
  rw [hPI] at hp
  rw [Bool.eq_iff_iff, Bool.and_eq_true]
  unfold plOk
  rw [hbits, ha, hb, IntKind.wrap_i64, hPI]
  simp only [Bool.and_eq_true, decide_eq_true_eq]
  clear hbits ha hb hP hPI
  generalize a ||| b = o at hab hlo ⊢
  constructor
  · intro h
    have := hlo.1 (by omega)
    omega
  · intro h
    have := hlo.2 (by omega)
    omega
theorem or_chosen {n : Int} {ws : List Wy} {e c : Int} (he : InI e) (hc : InI c) : spanOn n ws (bits .or .i64 e c) = chosenCost n ws e c := by
  unfold spanOn chosenCost
  cases hn : netOk n ws
  · simp
  · have hni := netOk_t hn
    rw [Bool.true_and, Bool.true_and, or_plOk hni.hi he hc]
    by_cases h : (plOk n e && plOk n c) = true
    · rw [if_pos h, if_pos h]
      rw [Bool.and_eq_true] at h
      have hp6 := pow_bd n 6 (by have := hni.hi; omega)
      obtain ⟨he0, he1⟩ := plOk_t h.1
      obtain ⟨hc0, hc1⟩ := plOk_t h.2
      rw [bits_or _ _ (by omega) (by omega) (by omega) (by omega)]
    · rw [if_neg h, if_neg h]
theorem way_in {n : Int} {ws : List Wy} (hn : NetIs n ws) {k : Nat} {x : Wy} (hx : ws[k]? = some x) (e : Int) : idiff (wayPl x) e = 0 ↔ bit e x.a = true ∧ bit e x.b = true := by
  have hw := wayPl_bd hn hx
  have hxa := hn.at_ hx
  have hb : ∀ q, 0 ≤ q → (bit (wayPl x) q = true ↔ (q = x.a ∨ q = x.b)) := fun q hq => by
    rw [wayPl_is, bit_ior, bit_shl x.a q hxa.1 hq, bit_shl x.b q hxa.2.2.1 hq, Bool.or_eq_true, decide_eq_true_eq, decide_eq_true_eq]
  rw [idiff_zero hw.1]
  constructor
  · intro h
    exact ⟨h x.a hxa.1 ((hb _ hxa.1).2 (.inl rfl)), h x.b hxa.2.2.1 ((hb _ hxa.2.2.1).2 (.inr rfl))⟩
  · rintro ⟨h1, h2⟩ q hq hbq
    rcases (hb q hq).1 hbq with rfl | rfl
    · exact h1
    · exact h2

set_option maxHeartbeats 4000000 in
theorem grownOn_any (n e : Int) (A : Option Addr) (cap : Nat) (ws : List Wy) (w : World) (hr : RW w w.heap.size A ws) (hn : NetIs n ws) (e0 : 0 ≤ e) (e1 : e < 2 ^ n.toNat) (hT : Tab w) :
    Calls Tryd.prog 75 #[.agg #[.int .i64 n, .slice A ws.length cap], .int .i64 e] w fun en w' => en = .returned (.int .i64 (span ws e)) ∧ Below w.heap.size w w' := by
  have HR := Lib.hid hr
  have HT := Lib.hid hT
  have HS := Lib.hid hn
  have hl9 := hn.len
  have hn2 := hn.lo
  have hn6 := hn.hi
  have hfb := full_bd ws.length hl9
  have hp6 := pow_bd n 6 (by omega)
  have he64 : e < 64 := by omega
  obtain ⟨F, hF⟩ : ∃ F : Int, full ws.length = F := ⟨_, rfl⟩
  have HFF := Lib.hid hF
  rw [hF] at hfb
  have hF0 := hfb.1
  have hF1 := hfb.2
  rw [← ordTo_all hn]
  obtain ⟨R, hR⟩ : ∃ R : Int, ordTo ws e ws.length = R := ⟨_, rfl⟩
  rw [hR]
  have HRES := Lib.hid hR
  clear hr hT hn hfb hF hR hp6 e1
  go_enter Tryd.func75, Tryd.ntmps75
  go_wp2_with fail
  refine (cheapestFirst_any _ _ _ _ _ (HR.out.later (by go_grown)) HS.out).mono ?_; rintro e2 w2 ⟨⟨blk, rfl, hblk, ho⟩, hb2⟩
  have z2 : w.heap.size < w2.heap.size := by have hq := hb2.size; (try simp at hq); omega
  have k2 : w2.cell? ⟨w.heap.size, 0, none⟩ = some (.int .i64 n) ∧ w2.cell? ⟨w.heap.size, 1, none⟩ = some (.slice A ws.length cap) := by
    obtain ⟨hc2, hf2⟩ := bcell hb2
    exact ⟨by go_simp, by go_simp⟩
  have HB2 := Lib.hid (bstep (B := w.heap.size) (W := w) (by go_grown) (by go_size) hb2)
  clear hb2
  go_wp2_with fail
  go_loopw [5, 12] (fun c i wr => ∃ k : Nat, k ≤ ws.length ∧ i = .int .i64 k ∧ c = .int .i64 (ordTo ws e k) ∧ wr.cell? ⟨w.heap.size, 0, none⟩ = some (.int .i64 n) ∧ wr.cell? ⟨w.heap.size, 1, none⟩ = some (.slice A ws.length cap) ∧ OrdRow ws wr blk ∧ Below w.heap.size w wr ∧ w.heap.size < wr.heap.size) (fun _ i _ => ws.length - (intOf i).toNat)
  case atStart => exact ⟨0, Nat.zero_le _, rfl, rfl, k2.1, k2.2, ho, HB2.out, z2⟩
  case round =>
    clear k2 ho z2 HB2
    obtain ⟨k, hk, rfl, rfl, b0, b1, ho, hb, hz⟩ := hrel
    have HB0 := Lib.hid hb
    have HOR := Lib.hid ho
    have hbd := ordTo_bd ws e k
    rw [HFF.out] at hbd
    have hs0 := hbd.1
    have hs1 : ordTo ws e k ≤ 1048576 := by omega
    clear hbd
    by_cases hlt : k < ws.length
    · have hjl := sortd_lt ws k hlt
      have hcell := ho.at_ k hlt
      have HK : Hid (ordTo ws e (k + 1) = look1 ws e (sortd ws)[k]! (ordTo ws e k)) := rfl
      generalize (sortd ws)[k]! = j at hjl hcell HK
      obtain ⟨x, hx⟩ : ∃ x, ws[j]? = some x := ⟨_, List.getElem?_eq_getElem hjl⟩
      have HRR := Lib.hid (HR.out.later hb)
      have HTT := Lib.hid (HT.out.later hb)
      have hxa := HS.out.at_ hx
      have ha0 : 0 ≤ x.a := by omega
      have ha5 : x.a ≤ 5 := by omega
      have hb0 : 0 ≤ x.b := by omega
      have hb5 : x.b ≤ 5 := by omega
      have hbx := wayPl_bd HS.out hx
      have HLT := Lib.hid (wayPl_lt HS.out hx)
      have HJ := Lib.hid (joins_way (s := ordTo ws e k) HS.out hx)
      have HIN := Lib.hid (way_in HS.out hx e)
      have hdn := bits_andNot (wayPl x) e hbx.1 (by omega) e0 (by omega)
      have hpk := pow_bd (j : Int) 8 (by omega)
      rw [Int.toNat_natCast] at hpk
      have HO := Lib.hid (bits_or (ordTo ws e k) (2 ^ j) hs0 (by omega) (by omega) (by omega))
      have hw1 : IntKind.i64.wrap (2 ^ j) = 2 ^ j := IntWalk.i64_in _ ⟨by omega, by omega⟩
      have hw2 : wrap64 (2 ^ j) = 2 ^ j := IntWalk.wrap64_in _ ⟨by omega, by omega⟩
      have hk0 : (0 : Int) ≤ (k : Int) := by omega
      have hk1 : (k : Int) < (ws.length : Int) := by omega
      have hj0 : (0 : Int) ≤ (j : Int) := by omega
      have hj1 : (j : Int) < (ws.length : Int) := by omega
      have HX := Lib.hid hx
      obtain ⟨b, o, rfl, hB, c0, c1, c2⟩ := HR.out.below hb j x hx
      have hBr : b < wr.heap.size := by omega
      have HWP := Lib.hid (fun W => wayPlaces_any x ha0 ha5 hb0 hb5 W)
      obtain ⟨V, hV⟩ : ∃ V, wayPl x = V := ⟨_, rfl⟩
      have HV := Lib.hid hV
      rw [hV] at hdn hbx
      have hbx0 := hbx.1
      clear hx hxa hb ho hV hbx ha0 ha5 hb0 hb5 hpk
      by_cases hD : idiff V e = 0
      · rw [hD] at hdn
        have hin := HIN.out.1 (by rw [HV.out]; exact hD)
        have HIN2 := Lib.hid hin
        clear hin hD
        cases hbit : bit (reach ws (ordTo ws e k) x.a) x.b
        · have HY := Lib.hid (HK.out.trans (look1_yes HX.out HIN2.out.1 HIN2.out.2 hbit))
          have HJ2 : Hid (joins ws (ordTo ws e k) V = false) := by show joins ws _ V = false; rw [← HV.out, HJ.out]; exact hbit
          have HLT2 : Hid (V < 2 ^ n.toNat) := by show V < _; rw [← HV.out]; exact HLT.out
          clear hbit HK HIN HIN2 HLT
          go_wp2_with fail
          refine (HWP.out _).mono ?_; rintro e3 w3 ⟨rfl, hb3⟩; rw [HV.out]
          have k3 := keep2 hb3 ⟨b0, b1⟩ hz
          have r3 := Lib.hid (HRR.out.later hb3)
          have t3 := Lib.hid (HTT.out.later hb3)
          have z3 := Nat.lt_of_lt_of_le hz hb3.size
          have o3 := Lib.hid (HOR.out.keep hb3)
          have HB3 := Lib.hid (bstep (B := w.heap.size) (W := w) HB0.out (Nat.le_of_lt hz) hb3)
          clear hb3
          obtain ⟨l0, l1⟩ := k3
          go_wp2_with fail
          refine (setJoins_any n (ordTo ws e k) V (some ⟨b, o, none⟩) cap ws w3 r3.out HS.out hs0 hs1 hbx0 HLT2.out t3.out).mono ?_; rintro e4 w4 ⟨rfl, hb4⟩; rw [HJ2.out]
          have k4 := keep2 hb4 ⟨l0, l1⟩ z3
          have z4 := Nat.lt_of_lt_of_le z3 hb4.size
          have o4 := Lib.hid (o3.out.keep hb4)
          have HB4 := Lib.hid (bstep (B := w.heap.size) (W := w) HB3.out (Nat.le_of_lt z3) hb4)
          clear hb4
          go_wp2_with fail
          go_roundw
          case rel => exact ⟨k + 1, by omega, by go_num, by rw [HY.out, HO.out], k4.1, k4.2, o4.out, HB4.out, z4⟩
          case measure => simp [intOf]; omega
        · have HY := Lib.hid (HK.out.trans (look1_no HX.out (fun h => by rw [hbit] at h; exact absurd h.2.2 (by simp))))
          have HJ2 : Hid (joins ws (ordTo ws e k) V = true) := by show joins ws _ V = true; rw [← HV.out, HJ.out]; exact hbit
          have HLT2 : Hid (V < 2 ^ n.toNat) := by show V < _; rw [← HV.out]; exact HLT.out
          clear hbit HK HIN HIN2 HLT
          go_wp2_with fail
          refine (HWP.out _).mono ?_; rintro e3 w3 ⟨rfl, hb3⟩; rw [HV.out]
          have k3 := keep2 hb3 ⟨b0, b1⟩ hz
          have r3 := Lib.hid (HRR.out.later hb3)
          have t3 := Lib.hid (HTT.out.later hb3)
          have z3 := Nat.lt_of_lt_of_le hz hb3.size
          have o3 := Lib.hid (HOR.out.keep hb3)
          have HB3 := Lib.hid (bstep (B := w.heap.size) (W := w) HB0.out (Nat.le_of_lt hz) hb3)
          clear hb3
          obtain ⟨l0, l1⟩ := k3
          go_wp2_with fail
          refine (setJoins_any n (ordTo ws e k) V (some ⟨b, o, none⟩) cap ws w3 r3.out HS.out hs0 hs1 hbx0 HLT2.out t3.out).mono ?_; rintro e4 w4 ⟨rfl, hb4⟩; rw [HJ2.out]
          have k4 := keep2 hb4 ⟨l0, l1⟩ z3
          have z4 := Nat.lt_of_lt_of_le z3 hb4.size
          have o4 := Lib.hid (o3.out.keep hb4)
          have HB4 := Lib.hid (bstep (B := w.heap.size) (W := w) HB3.out (Nat.le_of_lt z3) hb4)
          clear hb4
          go_wp2_with fail
          go_roundw
          case rel => exact ⟨k + 1, by omega, by go_num, by rw [HY.out], k4.1, k4.2, o4.out, HB4.out, z4⟩
          case measure => simp [intOf]; omega
      · have HY := Lib.hid (HK.out.trans (look1_no HX.out (fun h => hD (by rw [← HV.out]; exact HIN.out.2 ⟨h.1, h.2.1⟩))))
        clear HK HIN HLT
        go_wp2_with fail
        refine (HWP.out _).mono ?_; rintro e3 w3 ⟨rfl, hb3⟩; rw [HV.out]
        have k3 := keep2 hb3 ⟨b0, b1⟩ hz
        have z3 := Nat.lt_of_lt_of_le hz hb3.size
        have o3 := Lib.hid (HOR.out.keep hb3)
        have HB3 := Lib.hid (bstep (B := w.heap.size) (W := w) HB0.out (Nat.le_of_lt hz) hb3)
        clear hb3
        obtain ⟨l0, l1⟩ := k3
        go_wp2_with fail
        go_roundw
        case rel => exact ⟨k + 1, by omega, by go_num, by rw [HY.out], l0, l1, o3.out, HB3.out, z3⟩
        case measure => simp [intOf]; omega
    · have hkl : k = ws.length := by omega
      subst hkl
      clear hb ho
      go_wp2_with fail
      go_ret
      exact ⟨ret_int HRES.out, HB0.out⟩
set_option maxHeartbeats 2000000 in
theorem SpanOn_any (n e : Int) (A : Option Addr) (cap : Nat) (ws : List Wy) (w : World) (hr : RW w w.heap.size A ws) (hT : Tab w) :
    Calls Tryd.prog 54 #[.agg #[.int .i64 n, .slice A ws.length cap], .int .i64 e] w fun en w' => en = .returned (.int .i64 (spanOn n ws e)) ∧ Below w.heap.size w w' := by
  have HR := Lib.hid hr
  have HT := Lib.hid hT
  clear hr hT
  unfold spanOn
  cases hn : netOk n ws && plOk n e
  · have HN := Lib.hid hn
    rw [if_neg (by simp)]
    clear hn
    go_enter Tryd.func54, Tryd.ntmps54
    go_wp2_with fail
    refine (endsOk_any _ _ _ _ _ _ (HR.out.later (by go_grown))).mono ?_; rintro e w1 ⟨rfl, hb1⟩
    rw [HN.out]
    obtain ⟨hc1, hf1⟩ := bcell hb1
    have hz1_0 : w.heap.size < w1.heap.size := by have hq := hb1.size; (try simp at hq); omega
    have HK1 := Lib.hid hb1
    have HB1 := Lib.hid (bstep (B := w.heap.size) (W := w) (by (try have hp := HB0.out); go_grown) (by go_size) hb1); clear hb1
    go_wp2_with fail
    go_ret
    exact ⟨rfl, HB1.out⟩
  · have HN := Lib.hid hn
    obtain ⟨hn1, hn2⟩ : netOk n ws = true ∧ plOk n e = true := by simpa using hn
    have hnet := netOk_t hn1
    have HS := Lib.hid hnet
    have hl9 := hnet.len
    have hn6 := hnet.hi
    have hfb := full_bd ws.length hl9
    obtain ⟨he0, he1⟩ := plOk_t hn2
    have HE := Lib.hid he1
    have hsb := span_bd ws e
    have hs0 := hsb.1
    have hs1 : span ws e ≤ 1048576 := by omega
    rw [if_pos rfl]
    unfold so
    clear hn hn1 hn2 he1 hnet hfb hsb
    cases hj : joins ws (span ws e) e
    · have HJ := Lib.hid hj
      rw [if_neg (by simp)]
      clear hj
      go_enter Tryd.func54, Tryd.ntmps54
      go_wp2_with fail
      refine (endsOk_any _ _ _ _ _ _ (HR.out.later (by go_grown))).mono ?_; rintro e w1 ⟨rfl, hb1⟩
      rw [HN.out]
      obtain ⟨hc1, hf1⟩ := bcell hb1
      have hz1_0 : w.heap.size < w1.heap.size := by have hq := hb1.size; (try simp at hq); omega
      have HK1 := Lib.hid hb1
      have HB1 := Lib.hid (bstep (B := w.heap.size) (W := w) (by (try have hp := HB0.out); go_grown) (by go_size) hb1); clear hb1
      go_wp2_with fail
      refine (grownOn_any n e A cap ws _ (HR.out.later (by have := HB1.out; go_grown)) HS.out he0 HE.out (HT.out.later (by have := HB1.out; go_grown))).mono ?_; rintro e w2 ⟨rfl, hb2⟩
      obtain ⟨hc2, hf2⟩ := bcell hb2
      have hz2_0 : w.heap.size < w2.heap.size := by have hq := hb2.size; (try simp at hq); omega
      have HK2 := Lib.hid hb2
      have HB2 := Lib.hid (bstep (B := w.heap.size) (W := w) (by have hp := HB1.out; go_grown) (by go_size) hb2); clear hb2
      go_wp2_with fail
      refine (setJoins_any n (span ws e) e A cap ws _ (HR.out.later (by have := HB2.out; go_grown)) HS.out hs0 hs1 he0 HE.out (HT.out.later (by have := HB2.out; go_grown))).mono ?_; rintro e w3 ⟨rfl, hb3⟩
      rw [HJ.out]
      obtain ⟨hc3, hf3⟩ := bcell hb3
      have hz3_0 : w.heap.size < w3.heap.size := by have hq := hb3.size; (try simp at hq); omega
      have HK3 := Lib.hid hb3
      have HB3 := Lib.hid (bstep (B := w.heap.size) (W := w) (by have hp := HB2.out; go_grown) (by go_size) hb3); clear hb3
      go_wp2_with fail
      go_ret
      exact ⟨rfl, HB3.out⟩
    · have HJ := Lib.hid hj
      rw [if_pos rfl]
      clear hj
      go_enter Tryd.func54, Tryd.ntmps54
      go_wp2_with fail
      refine (endsOk_any _ _ _ _ _ _ (HR.out.later (by go_grown))).mono ?_; rintro e w1 ⟨rfl, hb1⟩
      rw [HN.out]
      obtain ⟨hc1, hf1⟩ := bcell hb1
      have hz1_0 : w.heap.size < w1.heap.size := by have hq := hb1.size; (try simp at hq); omega
      have HK1 := Lib.hid hb1
      have HB1 := Lib.hid (bstep (B := w.heap.size) (W := w) (by (try have hp := HB0.out); go_grown) (by go_size) hb1); clear hb1
      go_wp2_with fail
      refine (grownOn_any n e A cap ws _ (HR.out.later (by have := HB1.out; go_grown)) HS.out he0 HE.out (HT.out.later (by have := HB1.out; go_grown))).mono ?_; rintro e w2 ⟨rfl, hb2⟩
      obtain ⟨hc2, hf2⟩ := bcell hb2
      have hz2_0 : w.heap.size < w2.heap.size := by have hq := hb2.size; (try simp at hq); omega
      have HK2 := Lib.hid hb2
      have HB2 := Lib.hid (bstep (B := w.heap.size) (W := w) (by have hp := HB1.out; go_grown) (by go_size) hb2); clear hb2
      go_wp2_with fail
      refine (setJoins_any n (span ws e) e A cap ws _ (HR.out.later (by have := HB2.out; go_grown)) HS.out hs0 hs1 he0 HE.out (HT.out.later (by have := HB2.out; go_grown))).mono ?_; rintro e w3 ⟨rfl, hb3⟩
      rw [HJ.out]
      obtain ⟨hc3, hf3⟩ := bcell hb3
      have hz3_0 : w.heap.size < w3.heap.size := by have hq := hb3.size; (try simp at hq); omega
      have HK3 := Lib.hid hb3
      have HB3 := Lib.hid (bstep (B := w.heap.size) (W := w) (by have hp := HB2.out; go_grown) (by go_size) hb3); clear hb3
      go_wp2_with fail
      refine (setCost_any n (span ws e) A cap ws _ (HR.out.later (by have := HB3.out; go_grown)) HS.out hs0 hs1).mono ?_; rintro e w4 ⟨rfl, hb4⟩
      obtain ⟨hc4, hf4⟩ := bcell hb4
      have hz4_0 : w.heap.size < w4.heap.size := by have hq := hb4.size; (try simp at hq); omega
      have HK4 := Lib.hid hb4
      have HB4 := Lib.hid (bstep (B := w.heap.size) (W := w) (by have hp := HB3.out; go_grown) (by go_size) hb4); clear hb4
      go_wp2_with fail
      go_ret
      exact ⟨rfl, HB4.out⟩
end Go.Proofs.YtfpaalmbllhmaaaDoor
