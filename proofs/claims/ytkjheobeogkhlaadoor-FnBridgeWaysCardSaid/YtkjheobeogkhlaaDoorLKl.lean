/- The law of BridgeWays: bridges are in the tree, and just without a bridge there are no trees. -/
import Derived.Test.YtkjheobeogkhlaaDoorLKj
import Derived.Test.YtkjheobeogkhlaaDoorLF
import Derived.Test.YtkjheobeogkhlaaDoorWN
import Derived.Test.YtkjheobeogkhlaaDoorSR
set_option linter.unusedSimpArgs false
set_option linter.unusedVariables false
attribute [local go_sem ↓] Go.wp_at_zero Go.wp_at_succ
namespace Go.Proofs.YtkjheobeogkhlaaDoor
open Go.ChangeShapes Go.WideShapes Go.ChangeAt Go.RowKit

set_option maxHeartbeats 8000000 in
theorem FnBridgeWays_walk (A : Option Addr) (len cap : Nat) (w : World) (hr : RB w w.heap.size A len) (hc : len ≤ cap) (hlen : len ≤ 9223372036854775807) (hT : Tab w) :
    Calls Tryd.prog 11 #[.slice A len cap] w fun e w' => e = .returned (.bool true) ∧ Below w.heap.size w w' := by
  have HR := Lib.hid hr
  have HT := Lib.hid hT
  clear hr hT
  by_cases hm : 1048576 < len
  · go_enter Tryd.func11, Tryd.ntmps11
    go_wp2_with fail
    go_ret
    exact ⟨rfl, Below.refl _ _⟩
  · obtain ⟨i0, hi0, hz0, hz1', hz2⟩ := info_parts infoWy
    go_enter Tryd.func11, Tryd.ntmps11
    go_wp2_with fail
    refine (DrawBridgeWays_any A len cap _ HR.out hc (by omega)).mono ?_
    rintro e wd ⟨nn, A', c', ws, rfl, hrw, hl10, hcc, hn0, hn7, hbd⟩
    have HRW := Lib.hid hrw
    have HBD := Lib.hid hbd
    have HTD := Lib.hid (HT.out.later hbd)
    have hzd : w.heap.size ≤ wd.heap.size := hbd.size
    clear hrw hbd
    go_wp2_with fail
    refine (BridgeWays_any _ _ _ _ _ (HRW.out.later (by go_grown)) (HTD.out.later (by go_grown))).mono ?_; rintro e w1 ⟨rfl, hb1⟩
    obtain ⟨hc1, hf1⟩ := bcell hb1
    have hz1_0 : wd.heap.size < w1.heap.size := by have hq := hb1.size; (try simp at hq); omega
    have HK1 := Lib.hid hb1
    have HB1 := Lib.hid (bstep (B := wd.heap.size) (W := wd) (by (try have hp := HB0.out); go_grown) (by go_size) hb1); clear hb1
    go_wp2_with fail
    refine (sBridgeWays_any _ _ _ _ _ (HRW.out.later (by have := HB1.out; go_grown)) (by omega)).mono ?_; rintro e w2 ⟨rfl, hb2⟩
    obtain ⟨hc2, hf2⟩ := bcell hb2
    have hz2_0 : wd.heap.size < w2.heap.size := by have hq := hb2.size; (try simp at hq); omega
    have HK2 := Lib.hid hb2
    have HB2 := Lib.hid (bstep (B := wd.heap.size) (W := wd) (by have hp := HB1.out; go_grown) (by go_size) hb2); clear hb2
    cases hno : netOk nn ws
    · have HNO := Lib.hid hno
      have h1 : bridgesOf nn ws = -1 := by unfold bridgesOf; rw [hno]; simp
      rw [h1]
      clear hno h1
      go_wp2_with fail
      refine (NetOk_any _ _ _ _ _ (HRW.out.later (by have := HB2.out; go_grown))).mono ?_; rintro e w3 ⟨rfl, hb3⟩
      rw [HNO.out]
      obtain ⟨hc3, hf3⟩ := bcell hb3
      have hz3_0 : wd.heap.size < w3.heap.size := by have hq := hb3.size; (try simp at hq); omega
      have HK3 := Lib.hid hb3
      have HB3 := Lib.hid (bstep (B := wd.heap.size) (W := wd) (by have hp := HB2.out; go_grown) (by go_size) hb3); clear hb3
      go_wp2_with fail
      refine (alive_any _).mono ?_; rintro e w4 ⟨rfl, hb4⟩
      obtain ⟨hc4, hf4⟩ := bcell hb4
      have hz4_0 : wd.heap.size < w4.heap.size := by have hq := hb4.size; (try simp at hq); omega
      have HK4 := Lib.hid hb4
      have HB4 := Lib.hid (bstep (B := wd.heap.size) (W := wd) (by have hp := HB3.out; go_grown) (by go_size) hb4); clear hb4
      go_wp2_with fail
      go_ret
      exact ⟨rfl, bstep HBD.out hzd HB4.out⟩
    · have hni := netOk_t hno
      have hl9 := hni.len
      have hfb := full_bd ws.length hl9
      have hpl := pow_bd (ws.length : Int) 9 (by omega)
      rw [Int.toNat_natCast] at hpl
      have hbb := brTo_bd ws (full ws.length) ws.length
      have hbo : bridgesOf nn ws = brTo ws (full ws.length) ws.length := by unfold bridgesOf; rw [if_pos hno]
      have hRM : joins ws (span ws (allPl nn)) (allPl nn) = true → ∀ (k : Nat) (x : Wy), ws[k]? = some x → (manyOf nn (rm ws k) == 0) = bit (brTo ws (full ws.length) ws.length) k := fun h k x hx => rm_many hno h hx
      have hIN : joins ws (span ws (allPl nn)) (allPl nn) = true → idiff (brTo ws (full ws.length) ws.length) (span ws (allPl nn)) = 0 := fun h => bridges_in hni h
      obtain ⟨BR, hBR⟩ : ∃ BR, brTo ws (full ws.length) ws.length = BR := ⟨_, rfl⟩
      rw [hBR] at hbb hbo hRM hIN
      have hB0 := hbb.1
      have hBlt : decide (BR < 2 ^ ws.length) = true := by simpa using hbb.2
      have HW1 : Hid (IntKind.i64.wrap (2 ^ ws.length) = 2 ^ ws.length) := IntWalk.i64_in _ ⟨by omega, by omega⟩
      have HW2 : Hid (wrap64 (2 ^ ws.length) = 2 ^ ws.length) := IntWalk.wrap64_in _ ⟨by omega, by omega⟩
      have hng : ¬ BR < 0 := by omega
      rw [hbo]
      rcases span_told nn ws with ⟨h1, _⟩ | ⟨_, hj, h1, _, h3, h4⟩
      · have H1 := Lib.hid h1
        clear h1 hbo hBR hRM hIN hno hni hfb
        have hw1 := HW1.out
        have hw2 := HW2.out
        go_wp2_with fail
        refine (SpanTree_any _ _ _ _ _ (HRW.out.later (by have := HB2.out; go_grown)) (HTD.out.later (by have := HB2.out; go_grown))).mono ?_; rintro e w3 ⟨rfl, hb3⟩
        rw [H1.out]
        obtain ⟨hc3, hf3⟩ := bcell hb3
        have hz3_0 : wd.heap.size < w3.heap.size := by have hq := hb3.size; (try simp at hq); omega
        have HK3 := Lib.hid hb3
        have HB3 := Lib.hid (bstep (B := wd.heap.size) (W := wd) (by have hp := HB2.out; go_grown) (by go_size) hb3); clear hb3
        go_wp2_with fail
        go_ret
        exact ⟨rfl, bstep HBD.out hzd HB3.out⟩
      · have HRM := Lib.hid (hRM hj)
        have hin := hIN hj
        have HNI := Lib.hid hni
        have HNO := Lib.hid hno
        obtain ⟨ST, hST⟩ : ∃ ST, spanTreeOf nn ws = ST := ⟨_, rfl⟩
        rw [hST] at h1 h3 h4
        rw [← h1] at hin
        have HST := Lib.hid hST
        have HFIN : Hid ((bits .andNot .i64 BR ST == 0) = true) := by show (bits .andNot .i64 BR ST == 0) = true; rw [bits_andNot _ _ hB0 (by omega) h3 (by omega), hin]; rfl
        have hB1 : BR ≤ 1048576 := by omega
        have hngs : ¬ ST < 0 := by omega
        clear h1 hbo hBR hRM hIN hno hni hfb hj hST hin h4 hBlt
        go_wp2_with fail
        refine (SpanTree_any _ _ _ _ _ (HRW.out.later (by have := HB2.out; go_grown)) (HTD.out.later (by have := HB2.out; go_grown))).mono ?_; rintro e w3 ⟨rfl, hb3⟩
        rw [HST.out]
        obtain ⟨hc3, hf3⟩ := bcell hb3
        have hz3_0 : wd.heap.size < w3.heap.size := by have hq := hb3.size; (try simp at hq); omega
        have HK3 := Lib.hid hb3
        have HB3 := Lib.hid (bstep (B := wd.heap.size) (W := wd) (by have hp := HB2.out; go_grown) (by go_size) hb3); clear hb3
        have k3 : w3.cell? ⟨wd.heap.size, 0, none⟩ = some (.int .i64 nn) ∧ w3.cell? ⟨wd.heap.size, 1, none⟩ = some (.slice A' ws.length c') := ⟨by go_simp, by go_simp⟩
        clear hc1 hf1 hc2 hf2 hc3 hf3
        go_wp2_with fail
        go_loopw [6] (fun u wr => ∃ k : Nat, k ≤ ws.length ∧ u = .int .i64 k ∧ wr.cell? ⟨wd.heap.size, 0, none⟩ = some (.int .i64 nn) ∧ wr.cell? ⟨wd.heap.size, 1, none⟩ = some (.slice A' ws.length c') ∧ Below wd.heap.size wd wr ∧ wd.heap.size < wr.heap.size) (fun u _ => ws.length - (intOf u).toNat)
        case atStart => exact ⟨0, Nat.zero_le _, rfl, k3.1, k3.2, HB3.out, hz3_0⟩
        case round =>
          clear k3
          obtain ⟨k, hk, rfl, a0, a1, hb, hz⟩ := hrel
          have HB0 := Lib.hid hb
          clear hb
          by_cases hlt : k < ws.length
          · have hk0 : (0 : Int) ≤ (k : Int) := by omega
            have hk1 : (k : Int) < (ws.length : Int) := by omega
            obtain ⟨wo, hwo⟩ : ∃ wo : World, wo = wr := ⟨_, rfl⟩
            subst hwo
            have HRW1 := Lib.hid (HRW.out.later HB0.out)
            have HT1 := Lib.hid (HTD.out.later HB0.out)
            have ST0 : Hid (BoxSt wo (wo.alloc (.cells #[.int .i64 nn, .slice none 0 0] 25)) wo.heap.size 25 45 nn (.slice none 0 0) (rmTo ws k 0)) :=
              ⟨(Below.refl _ _).alloc (Nat.le_refl _) _, heap_alloc_new _ _, World.ownsRow_nil _ _ _ _⟩
            go_wp2_with fail
            go_loopw [8] (fun i wr => ∃ (j : Nat) (v : Value), j ≤ ws.length ∧ i = .int .i64 j ∧ BoxSt wo wr wo.heap.size 25 45 nn v (rmTo ws k j)) (fun i _ => ws.length - (intOf i).toNat)
            case atStart => exact ⟨0, _, Nat.zero_le _, rfl, ST0.out⟩
            case round =>
              clear ST0
              obtain ⟨j, v, hj, rfl, hst⟩ := hrel
              obtain ⟨b0, b1, bf⟩ := hst.cells
              have hlow := hst.low
              have c0 : wr.cell? ⟨wd.heap.size, 0, none⟩ = some (.int .i64 nn) := (hlow.cell (p := ⟨wd.heap.size, 0, none⟩) hz).trans a0
              have c1 : wr.cell? ⟨wd.heap.size, 1, none⟩ = some (.slice A' ws.length c') := (hlow.cell (p := ⟨wd.heap.size, 1, none⟩) hz).trans a1
              have SS := Lib.hid hst
              have hlt0 := hst.lt
              by_cases hlj : j < ws.length
              · obtain ⟨x, hx⟩ : ∃ x, ws[j]? = some x := ⟨_, List.getElem?_eq_getElem hlj⟩
                have HX := Lib.hid hx
                have hj0 : (0 : Int) ≤ (j : Int) := by omega
                have hj1 : (j : Int) < (ws.length : Int) := by omega
                by_cases hjk : j = k
                · have hne : ((j : Int) != (k : Int)) = false := by simp; omega
                  have hne2 : ((j : Int) == (k : Int)) = true := by simp; omega
                  clear hx hlow hst
                  go_wp2_with fail
                  go_roundw
                  case rel => exact ⟨j + 1, v, by omega, by go_num, by rw [rmTo_out HX.out hjk]; exact SS.out⟩
                  case measure => simp [intOf]; omega
                · have hne : ((j : Int) != (k : Int)) = true := by simp; omega
                  have hne2 : ((j : Int) == (k : Int)) = false := by simp; omega
                  obtain ⟨b, o, rfl, hB, e0, e1, e2⟩ := HRW1.out.below hlow j x hx
                  have hlen6 : (rmTo ws k j).length ≤ 10 := by rw [rmTo_len ws k j hj]; split <;> omega
                  have hq0 : wd.heap.size < wr.drew.heap.size := by simp; omega
                  have hq1 : b < wr.drew.heap.size := by simp; omega
                  clear hx hlow hst
                  go_wp2_with fail
                  refine AnyZ.region (S := (fun w' => w'.cell? ⟨wd.heap.size, 1, none⟩ = some (.slice (some ⟨b, o, none⟩) ws.length c') ∧ w'.cell? ⟨wo.heap.size, 1, none⟩ = some v ∧ w'.cell? ⟨b, o + j * 3, none⟩ = some (.int .i64 x.a) ∧ w'.cell? ⟨b, o + j * 3 + 1, none⟩ = some (.int .i64 x.b) ∧ w'.cell? ⟨b, o + j * 3 + 2, none⟩ = some (.int .i64 x.c))) (z := 10) (by kernel_rfl) ?_ (fun hHeld => ?_)
                  · exact ⟨c1, b1, e0, e1, e2⟩
                  refine AnyZ.take (i := 0) (oi := ⟨_, _, _, _, _, _⟩) (v := ?_) rfl (by kernel_rfl) (by kernel_rfl) (by kernel_rfl) (by kernel_rfl) (fun _ _ _ h => h) (Or.inl ⟨by rfl, ?_⟩) (by assumption) ?_
                  rotate_left
                  · (intro w hSw; (try dsimp only at hSw); (try simp only [List.getElem_toArray, List.getElem_cons_succ, List.getElem_cons_zero]); first | (go_simp; done) | (go_simp; with_reducible rfl))
                  try simp only [Act.put, List.getElem_toArray, List.getElem_cons_succ, List.getElem_cons_zero, List.setIfInBounds_toArray, List.set_cons_zero, List.set_cons_succ]
                  refine AnyZ.take (i := 1) (oi := ⟨_, _, _, _, _, _⟩) (v := ?_) rfl (by kernel_rfl) (by kernel_rfl) (by kernel_rfl) (by kernel_rfl) (fun _ _ _ h => h) (Or.inl ⟨by rfl, ?_⟩) (by assumption) ?_
                  rotate_left
                  · (intro w hSw; (try dsimp only at hSw); (try simp only [List.getElem_toArray, List.getElem_cons_succ, List.getElem_cons_zero]); first | (go_simp; done) | (go_simp; with_reducible rfl))
                  try simp only [Act.put, List.getElem_toArray, List.getElem_cons_succ, List.getElem_cons_zero, List.setIfInBounds_toArray, List.set_cons_zero, List.set_cons_succ]
                  refine AnyZ.take (i := 2) (oi := ⟨_, _, _, _, _, _⟩) (v := ?_) rfl (by kernel_rfl) (by kernel_rfl) (by kernel_rfl) (by kernel_rfl) (fun _ _ _ h => h) (Or.inl ⟨by rfl, ?_⟩) (by assumption) ?_
                  rotate_left
                  · (intro w hSw; (try dsimp only at hSw); (try simp only [List.getElem_toArray, List.getElem_cons_succ, List.getElem_cons_zero]); first | (go_simp; done) | (go_simp; with_reducible rfl))
                  try simp only [Act.put, List.getElem_toArray, List.getElem_cons_succ, List.getElem_cons_zero, List.setIfInBounds_toArray, List.set_cons_zero, List.set_cons_succ]
                  refine AnyZ.take (i := 3) (oi := ⟨_, _, _, _, _, _⟩) (v := ?_) rfl (by kernel_rfl) (by kernel_rfl) (by kernel_rfl) (by kernel_rfl) (fun _ _ _ h => h) (Or.inl ⟨by rfl, ?_⟩) (by assumption) ?_
                  rotate_left
                  · (intro w hSw; (try dsimp only at hSw); (try simp only [List.getElem_toArray, List.getElem_cons_succ, List.getElem_cons_zero]); first | (go_simp; done) | (go_simp; with_reducible rfl))
                  try simp only [Act.put, List.getElem_toArray, List.getElem_cons_succ, List.getElem_cons_zero, List.setIfInBounds_toArray, List.set_cons_zero, List.set_cons_succ]
                  refine AnyZ.take (i := 4) (oi := ⟨_, _, _, _, _, _⟩) (v := ?_) rfl (by kernel_rfl) (by kernel_rfl) (by kernel_rfl) (by kernel_rfl) (fun _ _ _ h => h) (Or.inl ⟨by rfl, ?_⟩) (by assumption) ?_
                  rotate_left
                  · (intro w hSw; (try dsimp only at hSw); (try simp only [List.getElem_toArray, List.getElem_cons_succ, List.getElem_cons_zero]); first | (go_simp; done) | (go_simp; with_reducible rfl))
                  try simp only [Act.put, List.getElem_toArray, List.getElem_cons_succ, List.getElem_cons_zero, List.setIfInBounds_toArray, List.set_cons_zero, List.set_cons_succ]
                  refine AnyZ.take (i := 5) (oi := ⟨_, _, _, _, _, _⟩) (v := ?_) rfl (by kernel_rfl) (by kernel_rfl) (by kernel_rfl) (by kernel_rfl) (fun _ _ _ h => h) (Or.inl ⟨by rfl, ?_⟩) (by assumption) ?_
                  rotate_left
                  · (intro w hSw; (try dsimp only at hSw); (try simp only [List.getElem_toArray, List.getElem_cons_succ, List.getElem_cons_zero]); first | (go_simp; done) | (go_simp; with_reducible rfl))
                  try simp only [Act.put, List.getElem_toArray, List.getElem_cons_succ, List.getElem_cons_zero, List.setIfInBounds_toArray, List.set_cons_zero, List.set_cons_succ]
                  refine AnyZ.take (i := 6) (oi := ⟨_, _, _, _, _, _⟩) (v := ?_) rfl (by kernel_rfl) (by kernel_rfl) (by kernel_rfl) (by kernel_rfl) (fun _ _ _ h => h) (Or.inl ⟨by rfl, ?_⟩) (by assumption) ?_
                  rotate_left
                  · (intro w hSw; (try dsimp only at hSw); (try simp only [List.getElem_toArray, List.getElem_cons_succ, List.getElem_cons_zero]); first | (go_simp; done) | (go_simp; with_reducible rfl))
                  try simp only [Act.put, List.getElem_toArray, List.getElem_cons_succ, List.getElem_cons_zero, List.setIfInBounds_toArray, List.set_cons_zero, List.set_cons_succ]
                  refine AnyZ.step (i := 7) (o := ⟨_, _, _, _, _, _⟩) (by kernel_rfl) rfl (fun K hK => ?_)
                  go_simp
                  refine hK.out _ _ (fun _ => ?_) (fun hHeld' => ?_)
                  · exact ⟨(World.cell?_alloc_lt _ _ _ hq0).trans c1, (World.cell?_alloc_lt _ _ _ hlt0).trans b1, (World.cell?_alloc_lt _ _ _ hq1).trans e0, (World.cell?_alloc_lt _ _ _ hq1).trans e1, (World.cell?_alloc_lt _ _ _ hq1).trans e2⟩
                  have hHeld := hHeld' (by decide)
                  clear hHeld'
                  clear hK K
                  try simp only [Act.put, List.getElem_toArray, List.getElem_cons_succ, List.getElem_cons_zero, List.setIfInBounds_toArray, List.set_cons_zero, List.set_cons_succ]
                  refine AnyZ.step (i := 8) (o := ⟨_, _, _, _, _, _⟩) (by kernel_rfl) rfl (fun K hK => ?_)
                  refine step_append_lies _ (by rfl) _ _ _ (by rfl) (wo.heap.size + 1) 45 i0 _ 3 24 Tryd.underlying23 hi0 hz0 hz1' hz2 rfl (by omega) v _ (wyCells (rmTo ws k j)) (by rfl) (SS.out.drew.own.alloc _) ⟨wr.heap.size, 0, none⟩ 1 1 [.int .i64 x.a, .int .i64 x.b, .int .i64 x.c] (by rfl) (by rfl) (World.news_of_block (cs := #[.int .i64 x.a, .int .i64 x.b, .int .i64 x.c]) (t := 45) (fr := (0, 0)) (heap_alloc_new wr _)) (by simp [Value.oneCell']) (by omega) (by unfold maxLen; omega) (by omega) (by simp; omega) (wr.heap.size + 1) (by simp) ?_; intro gg cc w5 hown5 hgrow5 hat5 hlt5; have hlow5 := SS.out.drew.app_low hgrow5; obtain ⟨cc5, cf5⟩ := SS.out.drew.app_cells hgrow5
                  refine hK.out _ _ (fun _ => ?_) (fun hHeld' => ?_)
                  · exact ⟨(World.cell?_of_block (w := wr.drew) (hlow5 wd.heap.size (Nat.le_of_lt hz))).trans c1, cc5, (World.cell?_of_block (w := wr.drew) (hlow5 b (Nat.le_of_lt hB))).trans e0, (World.cell?_of_block (w := wr.drew) (hlow5 b (Nat.le_of_lt hB))).trans e1, (World.cell?_of_block (w := wr.drew) (hlow5 b (Nat.le_of_lt hB))).trans e2⟩
                  have hHeld := hHeld' (by decide)
                  clear hHeld'
                  clear hK K
                  try simp only [Act.put, List.getElem_toArray, List.getElem_cons_succ, List.getElem_cons_zero, List.setIfInBounds_toArray, List.set_cons_zero, List.set_cons_succ]
                  refine AnyZ.take (i := 9) (oi := ⟨_, _, _, _, _, _⟩) (v := ?_) rfl (by kernel_rfl) (by kernel_rfl) (by kernel_rfl) (by kernel_rfl) (fun _ _ _ h => h) (Or.inl ⟨by rfl, ?_⟩) (by assumption) ?_
                  rotate_left
                  · (intro w hSw; (try dsimp only at hSw); (try simp only [List.getElem_toArray, List.getElem_cons_succ, List.getElem_cons_zero]); first | (go_simp; done) | (go_simp; with_reducible rfl))
                  try simp only [Act.put, List.getElem_toArray, List.getElem_cons_succ, List.getElem_cons_zero, List.setIfInBounds_toArray, List.set_cons_zero, List.set_cons_succ]
                  refine AnyZ.step (i := 10) (o := ⟨_, _, _, _, _, _⟩) (by kernel_rfl) rfl (fun K hK => ?_)
                  go_simp
                  refine hK.out _ _ (fun h => absurd rfl h) (fun _ => ?_)
                  clear hK K
                  try simp only [Act.put, List.getElem_toArray, List.getElem_cons_succ, List.getElem_cons_zero, List.setIfInBounds_toArray, List.set_cons_zero, List.set_cons_succ]
                  refine AnyZ.done (by kernel_rfl) ?_ _
                  focus
                    have S5 := Lib.hid (BoxSt.append SS.out.drew x hown5 hgrow5)
                    clear hown5 hgrow5 hat5 hlt5
                    go_wp2_with fail
                    go_roundw
                    case rel => exact ⟨j + 1, _, by omega, by go_num, by rw [rmTo_in HX.out hjk]; exact S5.out⟩
                    case measure => simp [intOf]; omega
              · have hjl : j = ws.length := by omega
                subst hjl
                obtain ⟨A1, c1', rfl⟩ := SS.out.form
                have hrw := SS.out.rw
                have hdl : (rmTo ws k ws.length).length = (rm ws k).length := rfl
                obtain ⟨x, hx⟩ : ∃ x, ws[k]? = some x := ⟨_, List.getElem?_eq_getElem hlt⟩
                have hmk := HRM.out k x hx
                obtain ⟨MN, hMN⟩ : ∃ MN, manyOf nn (rm ws k) = MN := ⟨_, rfl⟩
                have HRD : Hid (RW wr wr.heap.size A1 (rm ws k)) := hrw
                have HTA := Lib.hid (HT1.out.later hlow)
                have hcon : ∀ W, RW W W.heap.size A1 (rm ws k) → Tab W → Calls Tryd.prog 34 #[.agg #[.int .i64 nn, .slice A1 (rmTo ws k ws.length).length c1']] W fun e w' => e = .returned (.int .i64 MN) ∧ Below W.heap.size W w' := fun W h1 h2 => by
                  have h := SpanMany_any nn A1 c1' (rm ws k) W h1 h2
                  rw [hMN] at h
                  exact h
                rw [hMN] at hmk
                have HC := Lib.hid hcon
                have HLW := Lib.hid hlow
                have hqk : 0 ≤ BR / 2 ^ k := (div_pow_bd BR k hB0).1
                clear hrw hlow hst hcon bf hx hMN
                cases hbk : bit BR k
                · have hbz := bit_zero (i := (k : Int)) hk0 hB0 hbk
                  rw [Int.toNat_natCast] at hbz
                  have hd1 : (BR / 2 ^ k % 2 == 1) = false := by rw [hbz.1]; rfl
                  have hd2 : ((BR / 2 ^ k).tmod 2 == 1) = false := by rw [hbz.2]; rfl
                  rw [hbk] at hmk
                  clear hbz hbk
                  go_wp2_with fail
                  refine wp_region_held_drew (S := (fun w' => w'.cell? ⟨wo.heap.size, 0, none⟩ = some (.int .i64 nn) ∧ w'.cell? ⟨wo.heap.size, 1, none⟩ = some (.slice A1 (rmTo ws k ws.length).length c1'))) (by kernel_rfl) ?_ (fun hHeld => ?_)
                  · exact ⟨b0, b1⟩
                  refine wpAnyH_take (i := 0) (v := ?_) rfl (by kernel_rfl) (by kernel_rfl) (by kernel_rfl) (fun _ _ _ h => h) (Or.inl ⟨by rfl, ?_⟩) (by assumption) ?_
                  rotate_left
                  · (intro w hSw; (try dsimp only at hSw); (try simp only [List.getElem_toArray, List.getElem_cons_succ, List.getElem_cons_zero]); first | (go_simp; done) | (go_simp; with_reducible rfl))
                  try simp only [Act.put, List.getElem_toArray, List.getElem_cons_succ, List.getElem_cons_zero, List.setIfInBounds_toArray, List.set_cons_zero, List.set_cons_succ]
                  refine wpAnyH_take (i := 3) (v := ?_) rfl (by kernel_rfl) (by kernel_rfl) (by kernel_rfl) (fun _ _ _ h => h) (Or.inl ⟨by rfl, ?_⟩) (by assumption) ?_
                  rotate_left
                  · (intro w hSw; (try dsimp only at hSw); (try simp only [List.getElem_toArray, List.getElem_cons_succ, List.getElem_cons_zero]); first | (go_simp; done) | (go_simp; with_reducible rfl))
                  try simp only [Act.put, List.getElem_toArray, List.getElem_cons_succ, List.getElem_cons_zero, List.setIfInBounds_toArray, List.set_cons_zero, List.set_cons_succ]
                  refine wpAnyH_take (i := 4) (v := ?_) rfl (by kernel_rfl) (by kernel_rfl) (by kernel_rfl) (fun _ _ _ h => h) (Or.inl ⟨by rfl, ?_⟩) (by assumption) ?_
                  rotate_left
                  · (intro w hSw; (try dsimp only at hSw); (try simp only [List.getElem_toArray, List.getElem_cons_succ, List.getElem_cons_zero]); first | (go_simp; done) | (go_simp; with_reducible rfl))
                  try simp only [Act.put, List.getElem_toArray, List.getElem_cons_succ, List.getElem_cons_zero, List.setIfInBounds_toArray, List.set_cons_zero, List.set_cons_succ]
                  refine wpAnyH_take (i := 5) (v := ?_) rfl (by kernel_rfl) (by kernel_rfl) (by kernel_rfl) (fun _ _ _ h => h) (Or.inl ⟨by rfl, ?_⟩) (by assumption) ?_
                  rotate_left
                  · (intro w hSw; (try dsimp only at hSw); (try simp only [List.getElem_toArray, List.getElem_cons_succ, List.getElem_cons_zero]); first | (go_simp; done) | (go_simp; with_reducible rfl))
                  try simp only [Act.put, List.getElem_toArray, List.getElem_cons_succ, List.getElem_cons_zero, List.setIfInBounds_toArray, List.set_cons_zero, List.set_cons_succ]
                  refine wpAnyH_take (i := 6) (v := ?_) rfl (by kernel_rfl) (by kernel_rfl) (by kernel_rfl) (fun _ _ _ h => h) (Or.inl ⟨by rfl, ?_⟩) (by assumption) ?_
                  rotate_left
                  · (intro w hSw; (try dsimp only at hSw); (try simp only [List.getElem_toArray, List.getElem_cons_succ, List.getElem_cons_zero]); first | (go_simp; done) | (go_simp; with_reducible rfl))
                  try simp only [Act.put, List.getElem_toArray, List.getElem_cons_succ, List.getElem_cons_zero, List.setIfInBounds_toArray, List.set_cons_zero, List.set_cons_succ]
                  refine wpAnyH_take (i := 7) (v := ?_) rfl (by kernel_rfl) (by kernel_rfl) (by kernel_rfl) (fun _ _ _ h => h) (Or.inl ⟨by rfl, ?_⟩) (by assumption) ?_
                  rotate_left
                  · (intro w hSw; (try dsimp only at hSw); (try simp only [List.getElem_toArray, List.getElem_cons_succ, List.getElem_cons_zero]); first | (go_simp; done) | (go_simp; with_reducible rfl))
                  try simp only [Act.put, List.getElem_toArray, List.getElem_cons_succ, List.getElem_cons_zero, List.setIfInBounds_toArray, List.set_cons_zero, List.set_cons_succ]
                  refine wpAnyH_ready (rs := [1]) (by kernel_rfl) (by simp) ?_
                  refine AllReadyH.cons rfl (fun K hK => ?_) AllReadyH.nil
                  try simp only [List.getElem_toArray, List.getElem_cons_succ, List.getElem_cons_zero]
                  go_simp
                  go_at_call 34; refine (HC.out _ (HRD.out.drewNR _) (HTA.out.drewNR _)).mono ?_; rintro e9 w9 ⟨rfl, hb9⟩; have g9 : Below wr.heap.size wr w9 := und hb9; have k9 : _ ∧ _ := ⟨(g9.cell (p := ⟨wo.heap.size, 0, none⟩) hlt0).trans b0, (g9.cell (p := ⟨wo.heap.size, 1, none⟩) hlt0).trans b1⟩
                  refine hK.out _ _ ?_ (fun hHeld => ?_)
                  · exact k9
                  clear hK K
                  try simp only [Act.put, List.getElem_toArray, List.getElem_cons_succ, List.getElem_cons_zero, List.setIfInBounds_toArray, List.set_cons_zero, List.set_cons_succ]
                  refine wpAnyH_take (i := 2) (v := ?_) rfl (by kernel_rfl) (by kernel_rfl) (by kernel_rfl) (fun _ _ _ h => h) (Or.inl ⟨by rfl, ?_⟩) (by assumption) ?_
                  rotate_left
                  · (intro w hSw; (try dsimp only at hSw); (try simp only [List.getElem_toArray, List.getElem_cons_succ, List.getElem_cons_zero]); first | (go_simp; done) | (go_simp; with_reducible rfl))
                  try simp only [Act.put, List.getElem_toArray, List.getElem_cons_succ, List.getElem_cons_zero, List.setIfInBounds_toArray, List.set_cons_zero, List.set_cons_succ]
                  refine wpAnyH_take (i := 8) (v := ?_) rfl (by kernel_rfl) (by kernel_rfl) (by kernel_rfl) (fun _ _ _ h => h) (Or.inl ⟨by rfl, ?_⟩) (by assumption) ?_
                  rotate_left
                  · (intro w hSw; (try dsimp only at hSw); (try simp only [List.getElem_toArray, List.getElem_cons_succ, List.getElem_cons_zero]); first | (go_simp; done) | (go_simp; with_reducible rfl))
                  try simp only [Act.put, List.getElem_toArray, List.getElem_cons_succ, List.getElem_cons_zero, List.setIfInBounds_toArray, List.set_cons_zero, List.set_cons_succ]
                  refine wpAnyH_done (by kernel_rfl) ?_ _
                  have HB9 := Lib.hid (bstep (B := wd.heap.size) (W := wd) HB0.out (Nat.le_of_lt hz) (bstep HLW.out (Nat.le_of_lt hlt0) g9))
                  have d0 := (g9.cell (p := ⟨wd.heap.size, 0, none⟩) (Nat.lt_trans hz hlt0)).trans c0
                  have d1 := (g9.cell (p := ⟨wd.heap.size, 1, none⟩) (Nat.lt_trans hz hlt0)).trans c1
                  have z9 := Nat.lt_of_lt_of_le (Nat.lt_trans hz hlt0) g9.size
                  clear g9 hb9
                  go_wp2_with fail
                  go_roundw
                  case rel => exact ⟨k + 1, by omega, by go_num, d0, d1, HB9.out, z9⟩
                  case measure => simp [intOf]; omega
                · have hbz := bit_one (i := (k : Int)) hk0 hB0 hbk
                  rw [Int.toNat_natCast] at hbz
                  have hd1 : (BR / 2 ^ k % 2 == 1) = true := by rw [hbz.1]; rfl
                  have hd2 : ((BR / 2 ^ k).tmod 2 == 1) = true := by rw [hbz.2]; rfl
                  rw [hbk] at hmk
                  clear hbz hbk
                  go_wp2_with fail
                  refine wp_region_held_drew (S := (fun w' => w'.cell? ⟨wo.heap.size, 0, none⟩ = some (.int .i64 nn) ∧ w'.cell? ⟨wo.heap.size, 1, none⟩ = some (.slice A1 (rmTo ws k ws.length).length c1'))) (by kernel_rfl) ?_ (fun hHeld => ?_)
                  · exact ⟨b0, b1⟩
                  refine wpAnyH_take (i := 0) (v := ?_) rfl (by kernel_rfl) (by kernel_rfl) (by kernel_rfl) (fun _ _ _ h => h) (Or.inl ⟨by rfl, ?_⟩) (by assumption) ?_
                  rotate_left
                  · (intro w hSw; (try dsimp only at hSw); (try simp only [List.getElem_toArray, List.getElem_cons_succ, List.getElem_cons_zero]); first | (go_simp; done) | (go_simp; with_reducible rfl))
                  try simp only [Act.put, List.getElem_toArray, List.getElem_cons_succ, List.getElem_cons_zero, List.setIfInBounds_toArray, List.set_cons_zero, List.set_cons_succ]
                  refine wpAnyH_take (i := 3) (v := ?_) rfl (by kernel_rfl) (by kernel_rfl) (by kernel_rfl) (fun _ _ _ h => h) (Or.inl ⟨by rfl, ?_⟩) (by assumption) ?_
                  rotate_left
                  · (intro w hSw; (try dsimp only at hSw); (try simp only [List.getElem_toArray, List.getElem_cons_succ, List.getElem_cons_zero]); first | (go_simp; done) | (go_simp; with_reducible rfl))
                  try simp only [Act.put, List.getElem_toArray, List.getElem_cons_succ, List.getElem_cons_zero, List.setIfInBounds_toArray, List.set_cons_zero, List.set_cons_succ]
                  refine wpAnyH_take (i := 4) (v := ?_) rfl (by kernel_rfl) (by kernel_rfl) (by kernel_rfl) (fun _ _ _ h => h) (Or.inl ⟨by rfl, ?_⟩) (by assumption) ?_
                  rotate_left
                  · (intro w hSw; (try dsimp only at hSw); (try simp only [List.getElem_toArray, List.getElem_cons_succ, List.getElem_cons_zero]); first | (go_simp; done) | (go_simp; with_reducible rfl))
                  try simp only [Act.put, List.getElem_toArray, List.getElem_cons_succ, List.getElem_cons_zero, List.setIfInBounds_toArray, List.set_cons_zero, List.set_cons_succ]
                  refine wpAnyH_take (i := 5) (v := ?_) rfl (by kernel_rfl) (by kernel_rfl) (by kernel_rfl) (fun _ _ _ h => h) (Or.inl ⟨by rfl, ?_⟩) (by assumption) ?_
                  rotate_left
                  · (intro w hSw; (try dsimp only at hSw); (try simp only [List.getElem_toArray, List.getElem_cons_succ, List.getElem_cons_zero]); first | (go_simp; done) | (go_simp; with_reducible rfl))
                  try simp only [Act.put, List.getElem_toArray, List.getElem_cons_succ, List.getElem_cons_zero, List.setIfInBounds_toArray, List.set_cons_zero, List.set_cons_succ]
                  refine wpAnyH_take (i := 6) (v := ?_) rfl (by kernel_rfl) (by kernel_rfl) (by kernel_rfl) (fun _ _ _ h => h) (Or.inl ⟨by rfl, ?_⟩) (by assumption) ?_
                  rotate_left
                  · (intro w hSw; (try dsimp only at hSw); (try simp only [List.getElem_toArray, List.getElem_cons_succ, List.getElem_cons_zero]); first | (go_simp; done) | (go_simp; with_reducible rfl))
                  try simp only [Act.put, List.getElem_toArray, List.getElem_cons_succ, List.getElem_cons_zero, List.setIfInBounds_toArray, List.set_cons_zero, List.set_cons_succ]
                  refine wpAnyH_take (i := 7) (v := ?_) rfl (by kernel_rfl) (by kernel_rfl) (by kernel_rfl) (fun _ _ _ h => h) (Or.inl ⟨by rfl, ?_⟩) (by assumption) ?_
                  rotate_left
                  · (intro w hSw; (try dsimp only at hSw); (try simp only [List.getElem_toArray, List.getElem_cons_succ, List.getElem_cons_zero]); first | (go_simp; done) | (go_simp; with_reducible rfl))
                  try simp only [Act.put, List.getElem_toArray, List.getElem_cons_succ, List.getElem_cons_zero, List.setIfInBounds_toArray, List.set_cons_zero, List.set_cons_succ]
                  refine wpAnyH_ready (rs := [1]) (by kernel_rfl) (by simp) ?_
                  refine AllReadyH.cons rfl (fun K hK => ?_) AllReadyH.nil
                  try simp only [List.getElem_toArray, List.getElem_cons_succ, List.getElem_cons_zero]
                  go_simp
                  go_at_call 34; refine (HC.out _ (HRD.out.drewNR _) (HTA.out.drewNR _)).mono ?_; rintro e9 w9 ⟨rfl, hb9⟩; have g9 : Below wr.heap.size wr w9 := und hb9; have k9 : _ ∧ _ := ⟨(g9.cell (p := ⟨wo.heap.size, 0, none⟩) hlt0).trans b0, (g9.cell (p := ⟨wo.heap.size, 1, none⟩) hlt0).trans b1⟩
                  refine hK.out _ _ ?_ (fun hHeld => ?_)
                  · exact k9
                  clear hK K
                  try simp only [Act.put, List.getElem_toArray, List.getElem_cons_succ, List.getElem_cons_zero, List.setIfInBounds_toArray, List.set_cons_zero, List.set_cons_succ]
                  refine wpAnyH_take (i := 2) (v := ?_) rfl (by kernel_rfl) (by kernel_rfl) (by kernel_rfl) (fun _ _ _ h => h) (Or.inl ⟨by rfl, ?_⟩) (by assumption) ?_
                  rotate_left
                  · (intro w hSw; (try dsimp only at hSw); (try simp only [List.getElem_toArray, List.getElem_cons_succ, List.getElem_cons_zero]); first | (go_simp; done) | (go_simp; with_reducible rfl))
                  try simp only [Act.put, List.getElem_toArray, List.getElem_cons_succ, List.getElem_cons_zero, List.setIfInBounds_toArray, List.set_cons_zero, List.set_cons_succ]
                  refine wpAnyH_take (i := 8) (v := ?_) rfl (by kernel_rfl) (by kernel_rfl) (by kernel_rfl) (fun _ _ _ h => h) (Or.inl ⟨by rfl, ?_⟩) (by assumption) ?_
                  rotate_left
                  · (intro w hSw; (try dsimp only at hSw); (try simp only [List.getElem_toArray, List.getElem_cons_succ, List.getElem_cons_zero]); first | (go_simp; done) | (go_simp; with_reducible rfl))
                  try simp only [Act.put, List.getElem_toArray, List.getElem_cons_succ, List.getElem_cons_zero, List.setIfInBounds_toArray, List.set_cons_zero, List.set_cons_succ]
                  refine wpAnyH_done (by kernel_rfl) ?_ _
                  have HB9 := Lib.hid (bstep (B := wd.heap.size) (W := wd) HB0.out (Nat.le_of_lt hz) (bstep HLW.out (Nat.le_of_lt hlt0) g9))
                  have d0 := (g9.cell (p := ⟨wd.heap.size, 0, none⟩) (Nat.lt_trans hz hlt0)).trans c0
                  have d1 := (g9.cell (p := ⟨wd.heap.size, 1, none⟩) (Nat.lt_trans hz hlt0)).trans c1
                  have z9 := Nat.lt_of_lt_of_le (Nat.lt_trans hz hlt0) g9.size
                  clear g9 hb9
                  go_wp2_with fail
                  go_roundw
                  case rel => exact ⟨k + 1, by omega, by go_num, d0, d1, HB9.out, z9⟩
                  case measure => simp [intOf]; omega
          · have hfin := HFIN.out
            go_wp2_with fail
            go_ret
            exact ⟨rfl, bstep HBD.out hzd HB0.out⟩
end Go.Proofs.YtkjheobeogkhlaaDoor
