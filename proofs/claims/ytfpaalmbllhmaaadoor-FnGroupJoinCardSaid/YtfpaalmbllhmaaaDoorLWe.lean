/- The law of groups together: they join no dearer. -/
import Derived.Test.YtfpaalmbllhmaaaDoorUpI
import Derived.Test.YtfpaalmbllhmaaaDoorUpL
import Derived.Test.YtfpaalmbllhmaaaDoorUpF
import Derived.Test.YtfpaalmbllhmaaaDoorUpK
import Derived.Test.YtfpaalmbllhmaaaDoorWC
import Derived.Test.YtfpaalmbllhmaaaDoorMC
import Derived.Test.YtfpaalmbllhmaaaDoorWUb
set_option linter.unusedSimpArgs false
set_option linter.unusedVariables false
attribute [local go_sem ↓] Go.wp_at_zero Go.wp_at_succ
namespace Go.Proofs.YtfpaalmbllhmaaaDoor
open Go.ChangeShapes Go.WideShapes Go.ChangeAt Go.RowKit

theorem groupCost_bd (n : Int) (ws : List Wy) (g : Int) : groupCost n ws g ≤ 81 := by
  unfold groupCost so
  cases h : netOk n ws
  · rw [if_neg (by simp)]; omega
  · have := fun s => (cost_bds (netOk_t h) s).2
    split
    · split
      · exact this _
      · omega
    · omega
set_option maxRecDepth 100000 in
set_option maxHeartbeats 4000000 in
theorem FnGroupJoin_walk (A : Option Addr) (len cap : Nat) (A2 : Option Addr) (len2 cap2 : Nat) (w : World) (hr : RB w w.heap.size A len) (hc : len ≤ cap) (hlen : len ≤ 9223372036854775807)
    (hr2 : RB w w.heap.size A2 len2) (hc2 : len2 ≤ cap2) (hlen2 : len2 ≤ 9223372036854775807) (hT : Tab w) :
    Calls Tryd.prog 7 #[.slice A len cap, .slice A2 len2 cap2] w fun e w' => e = .returned (.bool true) ∧ Below w.heap.size w w' := by
  have HR := Lib.hid hr
  have HR2 := Lib.hid hr2
  have HT := Lib.hid hT
  clear hr hr2 hT
  by_cases hm : 1048576 < len
  · go_enter Tryd.func7, Tryd.ntmps7
    go_wp2_with fail
    go_ret
    exact ⟨rfl, Below.refl _ _⟩
  · by_cases hm2 : 1048576 < len2
    · go_enter Tryd.func7, Tryd.ntmps7
      go_wp2_with fail
      go_ret
      exact ⟨rfl, Below.refl _ _⟩
    · go_enter Tryd.func7, Tryd.ntmps7
      go_wp2_with fail
      refine (DrawGroupCost_any A len cap _ HR.out hc (by omega)).mono ?_
      rintro e wd ⟨nn, gg, A', c', ws, rfl, hrw, hl10, hcc, hn0, hn7, hs0, hs1, hbd⟩
      have HRW := Lib.hid hrw
      have HR2D := Lib.hid (HR2.out.below hbd)
      have HBD := Lib.hid hbd
      have HTD := Lib.hid (HT.out.later hbd)
      have hzd : w.heap.size ≤ wd.heap.size := hbd.size
      clear hrw hbd
      have hgi1 : InI gg := inI (by omega) (by omega)
      obtain ⟨Q, hQ⟩ : ∃ Q, groupCost nn ws gg = Q := ⟨_, rfl⟩
      have HQ := Lib.hid hQ
      by_cases hneg : Q < 0
      · clear hQ
        go_wp2_with fail
        refine (GroupCost_any _ _ _ _ _ _ (HRW.out.later (by go_grown)) (HTD.out.later (by go_grown)) (by assumption)).mono ?_; rintro e w1 ⟨rfl, hb1⟩
        rw [HQ.out]
        obtain ⟨hc1, hf1⟩ := bcell hb1
        have hz1_0 : wd.heap.size < w1.heap.size := by have hq := hb1.size; (try simp at hq); omega
        have HK1 := Lib.hid hb1
        have HB1 := Lib.hid (bstep (B := wd.heap.size) (W := wd) (by (try have hp := HB0.out); go_grown) (by go_size) hb1); clear hb1
        go_wp2_with fail
        refine (sGroupCost_any _ _ _ _ _ _ (HRW.out.later (by have := HB1.out; go_grown)) (by omega)).mono ?_; rintro e w2 ⟨rfl, hb2⟩
        rw [HQ.out]
        obtain ⟨hc2, hf2⟩ := bcell hb2
        have hz2_0 : wd.heap.size < w2.heap.size := by have hq := hb2.size; (try simp at hq); omega
        have HK2 := Lib.hid hb2
        have HB2 := Lib.hid (bstep (B := wd.heap.size) (W := wd) (by have hp := HB1.out; go_grown) (by go_size) hb2); clear hb2
        go_wp2_with fail
        refine (alive_any _).mono ?_; rintro e w3 ⟨rfl, hb3⟩
        obtain ⟨hc3, hf3⟩ := bcell hb3
        have hz3_0 : wd.heap.size < w3.heap.size := by have hq := hb3.size; (try simp at hq); omega
        have HK3 := Lib.hid hb3
        have HB3 := Lib.hid (bstep (B := wd.heap.size) (W := wd) (by have hp := HB2.out; go_grown) (by go_size) hb3); clear hb3
        go_wp2_with fail
        go_ret
        exact ⟨rfl, bstep HBD.out hzd HB3.out⟩
      · obtain ⟨hnt, hpl, -, -⟩ := groupCost_t (n := nn) (ws := ws) (g := gg) (by rw [hQ]; omega)
        obtain ⟨m, rfl⟩ : ∃ m : Nat, nn = m := ⟨nn.toNat, by omega⟩
        have hni := netOk_t hnt
        have hm6 : m ≤ 6 := by have := hni.hi; omega
        have hm2 : 2 ≤ m := by have := hni.lo; omega
        have hpm := pow_bd (m : Int) 6 (by omega)
        rw [Int.toNat_natCast] at hpm
        have hpl2 : (4 : Int) ≤ 2 ^ m := by
          have h9 := Nat.pow_le_pow_right (n := 2) (by omega) hm2
          have e9 : ((2 : Int) ^ m) = ((2 ^ m : Nat) : Int) := by simp
          omega
        obtain ⟨M, hM⟩ : ∃ M, (2 : Int) ^ m = M := ⟨_, rfl⟩
        have HM := Lib.hid hM
        rw [hM] at hpm hpl2
        have hm60 : (m : Int) ≤ 60 := by omega
        have hm0 : (0 : Int) ≤ (m : Int) := by omega
        have hgi2 : InI (M - 2) := inI (by omega) (by omega)
        have HV1 : Hid (IntKind.i64.wrap ((2 : Int) ^ m) = M) := by show _ = _; rw [hM]; exact IntWalk.i64_in _ ⟨by omega, by omega⟩
        have HV2 : Hid (wrap64 ((2 : Int) ^ m) = M) := by show _ = _; rw [hM]; exact IntWalk.wrap64_in _ ⟨by omega, by omega⟩
        have HV3 : Hid (IntKind.i64.wrap (M - 2) = M - 2) := IntWalk.i64_in _ ⟨by omega, by omega⟩
        have HV4 : Hid (wrap64 (M - 2) = M - 2) := IntWalk.wrap64_in _ ⟨by omega, by omega⟩
        have hqb : Q ≤ 81 := by rw [← hQ]; exact groupCost_bd _ _ _
        have hQ9 := Lib.hid hQ
        clear hQ hpl hnt hni hM
        by_cases hl2 : len2 = 0
        · subst hl2
          obtain ⟨X, hX⟩ : ∃ X, groupCost (m : Int) ws 0 = X := ⟨_, rfl⟩
          obtain ⟨Y, hY⟩ : ∃ Y, groupCost (m : Int) ws (ior gg 0) = Y := ⟨_, rfl⟩
          have HO := Lib.hid hX
          have HBO := Lib.hid hY
          have HJ : Hid (0 ≤ X → 0 ≤ Y ∧ Y ≤ Q + X) := fun h => by
            have h9 := group_join (n := (m : Int)) (ws := ws) (g := gg) (g' := 0) (by rw [hQ9.out]; omega) (by rw [hX]; exact h)
            rw [hX, hY, hQ9.out] at h9
            exact h9
          have hxb : X ≤ 81 := by rw [← hX]; exact groupCost_bd _ _ _
          have HOR : Hid (bits .or .i64 gg 0 = ior gg 0) := bits_or _ _ hs0 (by omega) (by omega) (by omega)
          have hgi5 : InI 0 := inI (by omega) (by omega)
          have hgi6 : InI (ior gg 0) := by
            have h9 := ior_bd gg 0 13 (by omega) (by omega)
            exact inI (by omega) (by omega)
          clear hX hY
          go_wp2_with fail
          refine (GroupCost_any _ _ _ _ _ _ (HRW.out.later (by go_grown)) (HTD.out.later (by go_grown)) (by assumption)).mono ?_; rintro e w1 ⟨rfl, hb1⟩
          rw [HQ.out]
          obtain ⟨hc1, hf1⟩ := bcell hb1
          have hz1_0 : wd.heap.size < w1.heap.size := by have hq := hb1.size; (try simp at hq); omega
          have HK1 := Lib.hid hb1
          have HB1 := Lib.hid (bstep (B := wd.heap.size) (W := wd) (by (try have hp := HB0.out); go_grown) (by go_size) hb1); clear hb1
          have k1 : w1.cell? ⟨wd.heap.size, 0, none⟩ = some (.int .i64 m) ∧ w1.cell? ⟨wd.heap.size, 1, none⟩ = some (.slice A' ws.length c') := ⟨by go_simp, by go_simp⟩
          clear hc1 hf1 HK1
          obtain ⟨b0, b1⟩ := k1
          have hz1x := hz1_0
          go_wp2_with fail
          refine (GroupCost_any m 0 A' c' ws _ (HRW.out.later HB1.out) (HTD.out.later HB1.out) (by assumption)).mono ?_; rintro e2 w2 ⟨rfl, hb2⟩; rw [HO.out]
          have HB2 := Lib.hid (bstep (B := wd.heap.size) (W := wd) HB1.out (Nat.le_of_lt hz1x) hb2)
          have hz2 : wd.heap.size < w2.heap.size := Nat.lt_of_lt_of_le hz1x hb2.size
          obtain ⟨y20, y21⟩ := keep2 hb2 ⟨b0, b1⟩ hz1x
          have hor := HOR.out
          clear hb2
          go_wp2_with fail
          refine (GroupCost_any m (ior gg 0) A' c' ws _ (HRW.out.later HB2.out) (HTD.out.later HB2.out) (by assumption)).mono ?_; rintro e3 w3 ⟨rfl, hb3⟩; rw [HBO.out]
          have HB3 := Lib.hid (bstep (B := wd.heap.size) (W := wd) HB2.out (Nat.le_of_lt hz2) hb3)
          have hz3 : wd.heap.size < w3.heap.size := Nat.lt_of_lt_of_le hz2 hb3.size
          clear hb3 hor y20 y21
          go_wp2_with fail
          refine (alive_any _).mono ?_; rintro e4 w4 ⟨rfl, hb4⟩
          have HB4 := Lib.hid (bstep (B := wd.heap.size) (W := wd) HB3.out (Nat.le_of_lt hz3) hb4)
          clear hb4
          by_cases hx0 : X < 0
          · go_wp2_with fail
            go_ret
            exact ⟨rfl, bstep HBD.out hzd HB4.out⟩
          · have hy := HJ.out (by omega)
            have hy0 := hy.1
            have hy1 := hy.2
            have wk : IntKind.i64.wrap (Q + X) = Q + X := IntWalk.i64_in _ ⟨by omega, by omega⟩
            have wk2 : wrap64 (Q + X) = Q + X := IntWalk.wrap64_in _ ⟨by clear wk; omega, by clear wk; omega⟩
            go_wp2_with fail
            go_ret
            exact ⟨rfl, bstep HBD.out hzd HB4.out⟩
        · obtain ⟨b2, o2, v, ha2, hB2, v0, v1, hv⟩ := HR2D.out 0 (by omega)
          subst ha2
          rw [Nat.add_zero] at hv
          have HWV : Hid (IntKind.i64.wrap v = v) := IntWalk.i64_in _ ⟨by omega, by omega⟩
          have HWV2 : Hid (wrap64 v = v) := IntWalk.wrap64_in _ ⟨by omega, by omega⟩
          have HAND : Hid (bits .and .i64 v (M - 2) = iand v (M - 2)) := bits_and _ _ v0 (by omega) (by omega) (by omega)
          have hib := iand_bd v (M - 2) v0
          obtain ⟨o, ho⟩ : ∃ o, iand v (M - 2) = o := ⟨_, rfl⟩
          rw [ho] at HAND hib
          clear ho
          obtain ⟨X, hX⟩ : ∃ X, groupCost (m : Int) ws o = X := ⟨_, rfl⟩
          obtain ⟨Y, hY⟩ : ∃ Y, groupCost (m : Int) ws (ior gg o) = Y := ⟨_, rfl⟩
          have HO := Lib.hid hX
          have HBO := Lib.hid hY
          have HJ : Hid (0 ≤ X → 0 ≤ Y ∧ Y ≤ Q + X) := fun h => by
            have h9 := group_join (n := (m : Int)) (ws := ws) (g := gg) (g' := o) (by rw [hQ9.out]; omega) (by rw [hX]; exact h)
            rw [hX, hY, hQ9.out] at h9
            exact h9
          have hxb : X ≤ 81 := by rw [← hX]; exact groupCost_bd _ _ _
          have HOR : Hid (bits .or .i64 gg o = ior gg o) := bits_or _ _ hs0 (by omega) (by omega) (by omega)
          have hgi5 : InI o := inI (by omega) (by omega)
          have hgi6 : InI (ior gg o) := by
            have h9 := ior_bd gg o 13 (by omega) (by omega)
            exact inI (by omega) (by omega)
          clear hX hY
          have hl2n : 0 < len2 := Nat.pos_of_ne_zero hl2
          have hl2p : (0 : Int) < (len2 : Int) := by omega
          have hl2d : decide ((0 : Int) < (len2 : Int)) = true := by simpa using hl2p
          have hl2e : decide (0 < len2) = true := by simpa using Nat.pos_of_ne_zero hl2
          go_wp2_with fail
          refine (GroupCost_any _ _ _ _ _ _ (HRW.out.later (by go_grown)) (HTD.out.later (by go_grown)) (by assumption)).mono ?_; rintro e w1 ⟨rfl, hb1⟩
          rw [HQ.out]
          obtain ⟨hc1, hf1⟩ := bcell hb1
          have hz1_0 : wd.heap.size < w1.heap.size := by have hq := hb1.size; (try simp at hq); omega
          have HK1 := Lib.hid hb1
          have HB1 := Lib.hid (bstep (B := wd.heap.size) (W := wd) (by (try have hp := HB0.out); go_grown) (by go_size) hb1); clear hb1
          have k1 : w1.cell? ⟨wd.heap.size, 0, none⟩ = some (.int .i64 m) ∧ w1.cell? ⟨wd.heap.size, 1, none⟩ = some (.slice A' ws.length c') := ⟨by go_simp, by go_simp⟩
          have q1 : w1.cell? ⟨b2, o2, none⟩ = some (.int .u8 v) := (HB1.out.cell (p := ⟨b2, o2, none⟩) (by show b2 < wd.heap.size; omega)).trans hv
          clear hc1 hf1 HK1 hv
          obtain ⟨b0, b1⟩ := k1
          have hz1x := hz1_0
          have hv1 := HV1.out
          have hv2 := HV2.out
          have hv3 := HV3.out
          have hv4 := HV4.out
          have hwv := HWV.out
          have hwv2 := HWV2.out
          have hand := HAND.out
          go_wp2_with fail
          refine wp_region_held_drew (S := (fun w' => w'.cell? ⟨b2, o2, none⟩ = some (.int .u8 v) ∧ w'.cell? ⟨wd.heap.size, 0, none⟩ = some (.int .i64 m))) (by kernel_rfl) ?_ (fun hHeld => ?_)
          · exact ⟨q1, b0⟩
          refine wpAnyH_take (i := 0) (v := ?_) rfl (by kernel_rfl) (by kernel_rfl) (by kernel_rfl) (fun _ _ _ h => h) (Or.inl ⟨by rfl, ?_⟩) (by assumption) ?_
          rotate_left
          · (intro w hSw; (try dsimp only at hSw); (try simp only [List.getElem_toArray, List.getElem_cons_succ, List.getElem_cons_zero]); first | (go_simp; done) | (go_simp; with_reducible rfl))
          try simp only [Act.put, List.getElem_toArray, List.getElem_cons_succ, List.getElem_cons_zero, List.setIfInBounds_toArray, List.set_cons_zero, List.set_cons_succ]
          refine wpAnyH_take (i := 1) (v := ?_) rfl (by kernel_rfl) (by kernel_rfl) (by kernel_rfl) (fun _ _ _ h => h) (Or.inl ⟨by rfl, ?_⟩) (by assumption) ?_
          rotate_left
          · (intro w hSw; (try dsimp only at hSw); (try simp only [List.getElem_toArray, List.getElem_cons_succ, List.getElem_cons_zero]); first | (go_simp; done) | (go_simp; with_reducible rfl))
          try simp only [Act.put, List.getElem_toArray, List.getElem_cons_succ, List.getElem_cons_zero, List.setIfInBounds_toArray, List.set_cons_zero, List.set_cons_succ]
          refine wpAnyH_take (i := 2) (v := ?_) rfl (by kernel_rfl) (by kernel_rfl) (by kernel_rfl) (fun _ _ _ h => h) (Or.inl ⟨by rfl, ?_⟩) (by assumption) ?_
          rotate_left
          · (intro w hSw; (try dsimp only at hSw); (try simp only [List.getElem_toArray, List.getElem_cons_succ, List.getElem_cons_zero]); first | (go_simp; done) | (go_simp; with_reducible rfl))
          try simp only [Act.put, List.getElem_toArray, List.getElem_cons_succ, List.getElem_cons_zero, List.setIfInBounds_toArray, List.set_cons_zero, List.set_cons_succ]
          refine wpAnyH_take (i := 3) (v := ?_) rfl (by kernel_rfl) (by kernel_rfl) (by kernel_rfl) (fun _ _ _ h => h) (Or.inl ⟨by rfl, ?_⟩) (by assumption) ?_
          rotate_left
          · (intro w hSw; (try dsimp only at hSw); (try simp only [List.getElem_toArray, List.getElem_cons_succ, List.getElem_cons_zero]); first | (go_simp; done) | (go_simp; with_reducible rfl))
          try simp only [Act.put, List.getElem_toArray, List.getElem_cons_succ, List.getElem_cons_zero, List.setIfInBounds_toArray, List.set_cons_zero, List.set_cons_succ]
          refine wpAnyH_take (i := 4) (v := ?_) rfl (by kernel_rfl) (by kernel_rfl) (by kernel_rfl) (fun _ _ _ h => h) (Or.inl ⟨by rfl, ?_⟩) (by assumption) ?_
          rotate_left
          · (intro w hSw; (try dsimp only at hSw); (try simp only [List.getElem_toArray, List.getElem_cons_succ, List.getElem_cons_zero]); first | (go_simp; done) | (go_simp; with_reducible rfl))
          try simp only [Act.put, List.getElem_toArray, List.getElem_cons_succ, List.getElem_cons_zero, List.setIfInBounds_toArray, List.set_cons_zero, List.set_cons_succ]
          refine wpAnyH_take (i := 5) (v := ?_) rfl (by kernel_rfl) (by kernel_rfl) (by kernel_rfl) (fun _ _ _ h => h) (Or.inl ⟨by rfl, ?_⟩) (by assumption) ?_
          rotate_left
          · (intro w hSw; (try dsimp only at hSw); (try simp only [List.getElem_toArray, List.getElem_cons_succ, List.getElem_cons_zero]); first | (go_simp; done) | (go_simp; with_reducible rfl))
          try simp only [Act.put, List.getElem_toArray, List.getElem_cons_succ, List.getElem_cons_zero, List.setIfInBounds_toArray, List.set_cons_zero, List.set_cons_succ]
          refine wpAnyH_take (i := 6) (v := ?_) rfl (by kernel_rfl) (by kernel_rfl) (by kernel_rfl) (fun _ _ _ h => h) (Or.inl ⟨by rfl, ?_⟩) (by assumption) ?_
          rotate_left
          · (intro w hSw; (try dsimp only at hSw); (try simp only [List.getElem_toArray, List.getElem_cons_succ, List.getElem_cons_zero]); first | (go_simp; done) | (go_simp; with_reducible rfl))
          try simp only [Act.put, List.getElem_toArray, List.getElem_cons_succ, List.getElem_cons_zero, List.setIfInBounds_toArray, List.set_cons_zero, List.set_cons_succ]
          refine wpAnyH_take (i := 7) (v := ?_) rfl (by kernel_rfl) (by kernel_rfl) (by kernel_rfl) (fun _ _ _ h => h) (Or.inl ⟨by rfl, ?_⟩) (by assumption) ?_
          rotate_left
          · (intro w hSw; (try dsimp only at hSw); (try simp only [List.getElem_toArray, List.getElem_cons_succ, List.getElem_cons_zero]); first | (go_simp; done) | (go_simp; with_reducible rfl))
          try simp only [Act.put, List.getElem_toArray, List.getElem_cons_succ, List.getElem_cons_zero, List.setIfInBounds_toArray, List.set_cons_zero, List.set_cons_succ]
          refine wpAnyH_take (i := 8) (v := ?_) rfl (by kernel_rfl) (by kernel_rfl) (by kernel_rfl) (fun _ _ _ h => h) (Or.inl ⟨by rfl, ?_⟩) (by assumption) ?_
          rotate_left
          · (intro w hSw; (try dsimp only at hSw); (try simp only [List.getElem_toArray, List.getElem_cons_succ, List.getElem_cons_zero]); first | (go_simp; done) | (go_simp; with_reducible rfl))
          try simp only [Act.put, List.getElem_toArray, List.getElem_cons_succ, List.getElem_cons_zero, List.setIfInBounds_toArray, List.set_cons_zero, List.set_cons_succ]
          refine wpAnyH_take (i := 9) (v := ?_) rfl (by kernel_rfl) (by kernel_rfl) (by kernel_rfl) (fun _ _ _ h => h) (Or.inl ⟨by rfl, ?_⟩) (by assumption) ?_
          rotate_left
          · (intro w hSw; (try dsimp only at hSw); (try simp only [List.getElem_toArray, List.getElem_cons_succ, List.getElem_cons_zero]); first | (go_simp; done) | (go_simp; with_reducible rfl))
          try simp only [Act.put, List.getElem_toArray, List.getElem_cons_succ, List.getElem_cons_zero, List.setIfInBounds_toArray, List.set_cons_zero, List.set_cons_succ]
          refine wpAnyH_done (by kernel_rfl) ?_ _
          clear hv1 hv2 hv3 hv4 hwv hwv2 hand
          have HBX : Hid (Below wd.heap.size wd w1.drew) := HB1.out.drew
          have bx0 : w1.drew.cell? ⟨wd.heap.size, 0, none⟩ = some (.int .i64 m) := b0
          have bx1 : w1.drew.cell? ⟨wd.heap.size, 1, none⟩ = some (.slice A' ws.length c') := b1
          have hzx : wd.heap.size < w1.drew.heap.size := hz1_0
          clear HB1 hz1x q1
          go_wp2_with fail
          refine (GroupCost_any m o A' c' ws _ (HRW.out.later HBX.out) (HTD.out.later HBX.out) (by assumption)).mono ?_; rintro e2 w2 ⟨rfl, hb2⟩; rw [HO.out]
          have HB2 := Lib.hid (bstep (B := wd.heap.size) (W := wd) HBX.out (Nat.le_of_lt hzx) hb2)
          have hz2 : wd.heap.size < w2.heap.size := Nat.lt_of_lt_of_le hzx hb2.size
          obtain ⟨y20, y21⟩ := keep2 hb2 ⟨bx0, bx1⟩ hzx
          have hor := HOR.out
          clear hb2
          go_wp2_with fail
          refine (GroupCost_any m (ior gg o) A' c' ws _ (HRW.out.later HB2.out) (HTD.out.later HB2.out) (by assumption)).mono ?_; rintro e3 w3 ⟨rfl, hb3⟩; rw [HBO.out]
          have HB3 := Lib.hid (bstep (B := wd.heap.size) (W := wd) HB2.out (Nat.le_of_lt hz2) hb3)
          have hz3 : wd.heap.size < w3.heap.size := Nat.lt_of_lt_of_le hz2 hb3.size
          clear hb3 hor y20 y21
          go_wp2_with fail
          refine (alive_any _).mono ?_; rintro e4 w4 ⟨rfl, hb4⟩
          have HB4 := Lib.hid (bstep (B := wd.heap.size) (W := wd) HB3.out (Nat.le_of_lt hz3) hb4)
          clear hb4
          by_cases hx0 : X < 0
          · go_wp2_with fail
            go_ret
            exact ⟨rfl, bstep HBD.out hzd HB4.out⟩
          · have hy := HJ.out (by omega)
            have hy0 := hy.1
            have hy1 := hy.2
            have wk : IntKind.i64.wrap (Q + X) = Q + X := IntWalk.i64_in _ ⟨by omega, by omega⟩
            have wk2 : wrap64 (Q + X) = Q + X := IntWalk.wrap64_in _ ⟨by clear wk; omega, by clear wk; omega⟩
            go_wp2_with fail
            go_ret
            exact ⟨rfl, bstep HBD.out hzd HB4.out⟩
end Go.Proofs.YtfpaalmbllhmaaaDoor
