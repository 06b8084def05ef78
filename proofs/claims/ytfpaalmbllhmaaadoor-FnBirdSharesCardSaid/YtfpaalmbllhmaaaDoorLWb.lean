/- The law of BirdShares: no group can do better alone. -/
import Derived.Test.YtfpaalmbllhmaaaDoorUpI
import Derived.Test.YtfpaalmbllhmaaaDoorUpL
import Derived.Test.YtfpaalmbllhmaaaDoorUpF
import Derived.Test.YtfpaalmbllhmaaaDoorWC
import Derived.Test.YtfpaalmbllhmaaaDoorMC
import Derived.Test.YtfpaalmbllhmaaaDoorWUa
import Derived.Test.YtfpaalmbllhmaaaDoorUpK
set_option linter.unusedSimpArgs false
set_option linter.unusedVariables false
attribute [local go_sem ↓] Go.wp_at_zero Go.wp_at_succ
namespace Go.Proofs.YtfpaalmbllhmaaaDoor
open Go.ChangeShapes Go.WideShapes Go.ChangeAt Go.RowKit

set_option maxRecDepth 100000 in
set_option maxHeartbeats 2000000 in
theorem FnBirdShares_walk (A : Option Addr) (len cap : Nat) (w : World) (hr : RB w w.heap.size A len) (hc : len ≤ cap) (hlen : len ≤ 9223372036854775807) (hT : Tab w) :
    Calls Tryd.prog 4 #[.slice A len cap] w fun e w' => e = .returned (.bool true) ∧ Below w.heap.size w w' := by
  have HR := Lib.hid hr
  have HT := Lib.hid hT
  clear hT
  clear hr
  by_cases hm : 1048576 < len
  · go_enter Tryd.func4, Tryd.ntmps4
    go_wp2_with fail
    go_ret
    exact ⟨rfl, Below.refl _ _⟩
  · go_enter Tryd.func4, Tryd.ntmps4
    go_wp2_with fail
    refine (DrawBirdShares_any A len cap _ HR.out hc (by omega)).mono ?_
    rintro e wd ⟨nn, A', c', ws, rfl, hrw, hl10, hcc, hn0, hn7, hbd⟩
    have HRW := Lib.hid hrw
    have HBD := Lib.hid hbd
    have HTD := Lib.hid (HT.out.later hbd)
    have hzd : w.heap.size ≤ wd.heap.size := hbd.size
    clear hrw hbd
    obtain ⟨L, hL⟩ : ∃ L, birdShares nn ws = L := ⟨_, rfl⟩
    have HL := Lib.hid hL
    have hl6 : L.length ≤ 6 := by rw [← hL]; exact by rw [birdShares_len]; exact upWays_len nn ws
    go_wp2_with fail
    refine (BirdShares_any nn A' c' ws _ (HRW.out.later (by go_grown)) (HTD.out.later (by go_grown))).mono ?_; rintro e1 w1 ⟨A1, c1, rfl, hrow1, hb1⟩
    rw [HL.out] at hrow1 ⊢
    have HB1 := Lib.hid (bstep (B := wd.heap.size) (W := wd) (by go_grown) (by go_size) hb1)
    have hz1 : wd.heap.size < w1.heap.size := by have := hb1.size; simp at this; omega
    have k10 : w1.cell? ⟨wd.heap.size, 0, none⟩ = some (.int .i64 nn) := (hb1.cell (p := ⟨wd.heap.size, 0, none⟩) (by simp)).trans (by go_simp)
    have k11 : w1.cell? ⟨wd.heap.size, 1, none⟩ = some (.slice A' ws.length c') := (hb1.cell (p := ⟨wd.heap.size, 1, none⟩) (by simp)).trans (by go_simp)
    have HR1 := Lib.hid hrow1
    clear hrow1 hb1 hL
    go_wp2_with fail
    refine (sBirdShares_any nn A' c' ws _ (HRW.out.later HB1.out) (by omega)).mono ?_; rintro e2 w2 ⟨A2, c2, rfl, hrow2, hb2⟩
    rw [HL.out] at hrow2 ⊢
    have HB2 := Lib.hid (bstep (B := wd.heap.size) (W := wd) HB1.out (Nat.le_of_lt hz1) hb2)
    have k2 := keep2 hb2 ⟨k10, k11⟩ hz1
    have hz2 := Nat.lt_of_lt_of_le hz1 hb2.size
    have HR2 := Lib.hid hrow2
    have HR1b := Lib.hid (HR1.out.below hb2)
    clear hrow2 hb2 k10 k11 HR1
    obtain ⟨k20, k21⟩ := k2
    go_wp2_with fail
    refine (sameInts_any A1 A2 c1 c2 L.length _ _ _ _ _ _ HR1b.out HR2.out (by omega)).mono ?_; rintro e3 w3 ⟨rfl, hb3⟩
    have HB3 := Lib.hid (bstep (B := wd.heap.size) (W := wd) HB2.out (Nat.le_of_lt hz2) hb3)
    have k3 := keep2 hb3 ⟨k20, k21⟩ hz2
    have hz3 := Nat.lt_of_lt_of_le hz2 hb3.size
    have HRO := Lib.hid (HR1b.out.below hb3)
    clear hb3 k20 k21 HR1b HR2 HB1 HB2 hz1 hz2
    obtain ⟨k30, k31⟩ := k3
    by_cases hl0 : L.length = 0
    · have HLZ := Lib.hid hl0
      have hnone : spanCostOf nn ws = -1 := spanCost_neg ((tree_told nn ws).1 (up_none (by rw [← birdShares_len, HL.out]; exact hl0)))
      have HNN := Lib.hid hnone
      clear hl0 hnone
      have hlz : (L.length : Int) = 0 := by have := HLZ.out; omega
      go_wp2_with fail
      refine (SpanCost_any nn A' c' ws _ (HRW.out.later HB3.out) (HTD.out.later HB3.out)).mono ?_; rintro e4 w4 ⟨rfl, hb4⟩; rw [HNN.out]
      have HB4 := Lib.hid (bstep (B := wd.heap.size) (W := wd) HB3.out (Nat.le_of_lt hz3) hb4)
      have hz4 := Nat.lt_of_lt_of_le hz3 hb4.size
      clear hb4
      go_wp2_with fail
      refine (alive_any _).mono ?_; rintro e5 w5 ⟨rfl, hb5⟩
      have HB5 := Lib.hid (bstep (B := wd.heap.size) (W := wd) HB4.out (Nat.le_of_lt hz4) hb5)
      clear hb5
      go_wp2_with fail
      go_ret
      exact ⟨rfl, bstep HBD.out hzd HB5.out⟩
    · have hnz := hl0
      have hul : (upWays nn ws).length ≠ 0 := by rw [← birdShares_len, HL.out]; exact hl0
      obtain ⟨ht0, hln, -⟩ := up_len hul
      rw [← birdShares_len, HL.out] at hln
      have hc0 : 0 ≤ spanCostOf nn ws := by
        have := tree_told nn ws
        by_cases hc : spanCostOf nn ws < 0
        · have := this.2 hc; omega
        · omega
      have hno := (span_yes hc0).1
      have hni := netOk_t hno
      obtain ⟨hsh, -⟩ := bird_shares hc0
      rw [HL.out] at hsh
      have hsi := sharesOk_iff.1 hsh
      have hsum := shares_sum hsh
      have HIN := Lib.hid hsi.ins
      have HSH := Lib.hid hsh
      have HSU := Lib.hid hsum
      have HPS : Hid (∀ k : Nat, k < L.length → payTo L (allPl nn) (k + 1) = payTo L (allPl nn) k + L.getD k 0) := fun k hk => pay_step hni (by omega)
      obtain ⟨C, hC⟩ : ∃ C, spanCostOf nn ws = C := ⟨_, rfl⟩
      have HC := Lib.hid hC
      have hlz : ((L.length : Int) == 0) = false := by simpa using hl0
      have HLZ := Lib.hid hlz
      clear hl0 hul ht0 hln hc0 hno hni hsh hsi hsum hC hlz
      have hlz := HLZ.out
      go_wp2_with fail
      clear hlz
      go_loopw [5, 6] (fun sv i wr => ∃ k : Nat, k ≤ L.length ∧ sv = .int .i64 (payTo L (allPl nn) k) ∧ i = .int .i64 k ∧ wr = w3) (fun _ i _ => L.length - (intOf i).toNat)
      case atStart => exact ⟨0, Nat.zero_le _, rfl, rfl, rfl⟩
      case round =>
        obtain ⟨k, hk, rfl, rfl, rfl⟩ := hrel
        have hk0 : (0 : Int) ≤ (k : Int) := by omega
        by_cases hlt : k < L.length
        · have hk1 : (k : Int) < (L.length : Int) := by omega
          obtain ⟨rb, ro, rfl, -, -, rk, -⟩ := HRO.out.at_ k hlt
          have hpb := payTo_bd HIN.out (allPl nn) k
          have hsi := share_in HIN.out k
          have hps := HPS.out k hlt
          obtain ⟨u, hu⟩ : ∃ u, payTo L (allPl nn) k = u := ⟨_, rfl⟩
          obtain ⟨x, hx⟩ : ∃ x, L.getD k 0 = x := ⟨_, rfl⟩
          simp only [hx] at rk
          rw [hu] at hpb hps ⊢
          rw [hx] at hsi hps
          have HPX := Lib.hid hps
          have wk : IntKind.i64.wrap (u + x) = u + x := IntWalk.i64_in _ ⟨by omega, by omega⟩
          have wk2 : wrap64 (u + x) = u + x := IntWalk.wrap64_in _ ⟨by clear wk; omega, by clear wk; omega⟩
          clear hu hx hps hpb hsi
          go_wp2_with fail
          clear wk wk2
          go_roundw
          case rel => exact ⟨k + 1, by omega, by rw [HPX.out], by go_num, by first | rfl | trivial⟩
          case measure => (simp [intOf]) <;> omega
        · obtain rfl : k = L.length := by omega
          rw [HSU.out, HC.out]
          have HRI := Lib.hid HRO.out.ri
          go_wp2_with fail
          refine (SharesOk_any nn A' c' ws A1 c1 L _ (HRW.out.later HB3.out) (HTD.out.later HB3.out) HRI.out).mono ?_; rintro e4 w4 ⟨rfl, hb4⟩; rw [HSH.out]
          have HB4 := Lib.hid (bstep (B := wd.heap.size) (W := wd) HB3.out (Nat.le_of_lt hz3) hb4)
          have k4 := keep2 hb4 ⟨k30, k31⟩ hz3
          have hz4 := Nat.lt_of_lt_of_le hz3 hb4.size
          clear hb4 k30 k31
          obtain ⟨k40, k41⟩ := k4
          go_wp2_with fail
          refine (SpanCost_any nn A' c' ws _ (HRW.out.later HB4.out) (HTD.out.later HB4.out)).mono ?_; rintro e5 w5 ⟨rfl, hb5⟩; rw [HC.out]
          have HB5 := Lib.hid (bstep (B := wd.heap.size) (W := wd) HB4.out (Nat.le_of_lt hz4) hb5)
          clear hb5
          go_wp2_with fail
          go_ret
          exact ⟨rfl, bstep HBD.out hzd HB5.out⟩
end Go.Proofs.YtfpaalmbllhmaaaDoor
