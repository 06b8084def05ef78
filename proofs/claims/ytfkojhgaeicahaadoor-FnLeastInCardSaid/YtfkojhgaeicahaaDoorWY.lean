/- DrawLeastIn: some net, some set, some ends. -/
import Derived.Test.YtfkojhgaeicahaaDoorWM
import Derived.Test.YtfkojhgaeicahaaDoorWX
import Derived.Test.YtfkojhgaeicahaaDoorSets
set_option linter.unusedSimpArgs false
set_option linter.unusedVariables false
attribute [local go_sem ↓] Go.wp_at_zero Go.wp_at_succ
namespace Go.Proofs.YtfkojhgaeicahaaDoor
open Go.ChangeShapes Go.WideShapes Go.ChangeAt Go.RowKit

theorem yset_g {w1 w2 : World} {g h : Nat} {o o' : Obj} (hr : w1.heap[h]? = some o) (hg2 : (w1.alloc o').drew.grownBy w2 (some g)) (hl : h < w1.heap.size) (hg : h < g) : w2.heap[h]? = some o := by
  have hne : some h ≠ some g := by intro e; injection e; omega
  rw [hg2.block h (by simp; omega) hne]
  exact (Below.heap_alloc _ _ _ hl).trans hr
set_option maxHeartbeats 4000000 in
theorem DrawLeastIn_any (A : Option Addr) (len cap : Nat) (w : World) (hr : RB w w.heap.size A len) (hc : len ≤ cap) (hl : len ≤ 1048576) :
    Calls Tryd.prog 36 #[.slice A len cap] w (DrawnEnds w) := by
  have HR := Lib.hid hr
  clear hr
  go_enter Tryd.func36, Tryd.ntmps36
  go_wp2_with fail
  refine (openE A len cap _ (fun i hi => ?_) hc hl).mono ?_
  · obtain ⟨b, o, v, ha, hB, h0, h1, h2⟩ := HR.out i hi
    exact ⟨b, o, v, ha, by simp; omega, h0, h1, (World.cell?_alloc_lt w _ _ hB).trans h2⟩
  rintro e wo ⟨l1, rfl, hr1, hb1⟩
  simp only [World.size_alloc] at hr1
  have hzo : w.heap.size + 1 < wo.heap.size := by have := hr1.lt; omega
  have HB1 := Lib.hid (bstep (B := w.heap.size) (W := w) (by go_grown) (by go_size) hb1)
  have HBL := Lib.hid (hb1.block w.heap.size (by simp))
  obtain ⟨g, hg⟩ : ∃ g, w.heap.size + 1 = g := ⟨_, rfl⟩
  rw [hg] at hr1
  have HGG := Lib.hid hg
  have hgw : w.heap.size < g := by omega
  have hgo : g < wo.heap.size := by omega
  have HRO := Lib.hid hr1
  clear hb1 hr1
  go_wp2_with fail
  refine (l20Ends_any g A l1 cap 0 14 _ HRO.out (by omega) (by omega) (by omega)).mono ?_
  clear hg
  rintro e w1 ⟨nn, s, A', c', ws, rfl, hrw, hA', hl10, hcc, hn0, hn7, hs0, hs1, hr1, hg1⟩
  have hg := HGG.out
  have hszo : wo.heap.size ≤ w1.heap.size := hg1.size
  have hsz1 : w.heap.size < w1.heap.size := by omega
  have hgl : g < w1.heap.size := by omega
  have hres : w1.heap[w.heap.size]? = some (.cells #[.int .i64 0, .slice none 0 0] 29 (0, 0)) := by
    rw [hg1.block _ (by omega) (by intro e; injection e; omega), HBL.out]
    exact heap_alloc_new w _
  have HBD := Lib.hid (below_of_only HB1.out hg1 (by omega))
  have HR1 := Lib.hid hr1
  have HRES := Lib.hid hres
  have HRW := Lib.hid hrw
  have a0 : w1.cell? ⟨w.heap.size, 0, none⟩ = some (.int .i64 0) := cell_of_row _ _ 0 _ _ (0, 0) HRES.out
  have hz1 : w1.heap.size ≠ w.heap.size := by omega
  clear hg1 hr1 hres hrw hg
  obtain ⟨M, hmn⟩ : ∃ M : Nat, (if 9 < (ws.length : Int) then (9 : Int) else (ws.length : Int)) = (M : Int) := by
    by_cases h9 : 9 < (ws.length : Int)
    · exact ⟨9, by rw [if_pos h9]; rfl⟩
    · exact ⟨ws.length, if_neg h9⟩
  have hM9 : M ≤ 9 := by
    by_cases h9 : 9 < (ws.length : Int)
    · rw [if_pos h9] at hmn; omega
    · rw [if_neg h9] at hmn; omega
  have hp2 := pow_bd (M : Int) 9 (by omega)
  rw [Int.toNat_natCast] at hp2
  have hpp : 1 ≤ (2 : Int) ^ M := hp2.1
  have hpb : (2 : Int) ^ M ≤ 1048576 := by omega
  have hp5 : (2 : Int) ^ M ≤ 512 := by omega
  obtain ⟨FF, hFF⟩ : ∃ FF : Int, (2 : Int) ^ M - 1 = FF := ⟨_, rfl⟩
  have hF0 : 0 ≤ FF := by omega
  have hF1 : FF ≤ 511 := by omega
  have HW1 : Hid (IntKind.i64.wrap (2 ^ M) = 2 ^ M) := IntWalk.i64_in _ ⟨by omega, by omega⟩
  have HW2 : Hid (wrap64 (2 ^ M) = 2 ^ M) := IntWalk.wrap64_in _ ⟨by omega, by omega⟩
  have HW3 : Hid (IntKind.i64.wrap (2 ^ M - 1) = FF) := by show IntKind.i64.wrap (2 ^ M - 1) = FF; rw [hFF]; exact IntWalk.i64_in _ ⟨by omega, by omega⟩
  have HW4 : Hid (wrap64 (2 ^ M - 1) = FF) := by show wrap64 (2 ^ M - 1) = FF; rw [hFF]; exact IntWalk.wrap64_in _ ⟨by omega, by omega⟩
  clear hFF hp2
  have hw1 := HW1.out
  have hw2 := HW2.out
  have hw3 := HW3.out
  have hw4 := HW4.out
  go_wp2_with fail
  refine wp_region_held_drew (S := (fun w' => w'.cell? ⟨w1.heap.size, 0, none⟩ = some (.int .i64 nn) ∧ w'.cell? ⟨w1.heap.size, 1, none⟩ = some (.slice A' ws.length c'))) (by kernel_rfl) ?_ (fun hHeld => ?_)
  · exact ⟨cell_of_row _ _ 0 _ _ (0, 0) (heap_alloc_new w1 _), cell_of_row _ _ 1 _ _ (0, 0) (heap_alloc_new w1 _)⟩
  refine wpAnyH_take (i := 0) (v := ?_) rfl (by kernel_rfl) (by kernel_rfl) (by kernel_rfl) (fun _ _ _ h => h) (Or.inl ⟨by rfl, ?_⟩) (by assumption) ?_
  rotate_left
  · (intro w hSw; (try dsimp only at hSw); (try simp only [List.getElem_toArray, List.getElem_cons_succ, List.getElem_cons_zero]); first | (go_simp; done) | (go_simp; with_reducible rfl))
  try simp only [Act.put, List.getElem_toArray, List.getElem_cons_succ, List.getElem_cons_zero, List.setIfInBounds_toArray, List.set_cons_zero, List.set_cons_succ]
  refine wpAnyH_take (i := 1) (v := ?_) rfl (by kernel_rfl) (by kernel_rfl) (by kernel_rfl) (fun _ _ _ h => h) (Or.inl ⟨by rfl, ?_⟩) (by assumption) ?_
  rotate_left
  · (intro w hSw; (try dsimp only at hSw); (try simp only [List.getElem_toArray, List.getElem_cons_succ, List.getElem_cons_zero]); first | (go_simp; done) | (go_simp; with_reducible rfl))
  try simp only [Act.put, List.getElem_toArray, List.getElem_cons_succ, List.getElem_cons_zero, List.setIfInBounds_toArray, List.set_cons_zero, List.set_cons_succ]
  refine wpAnyH_take (i := 2) (v := ?_) rfl (by kernel_rfl) (by kernel_rfl) (by kernel_rfl) (fun _ _ _ h => h) (Or.inl ⟨by rfl, ?_⟩) (by assumption) ?_
  rotate_left
  · (intro w hSw; (try dsimp only at hSw); (try simp only [List.getElem_toArray, List.getElem_cons_succ, List.getElem_cons_zero]); first | (go_simp; done) | (go_simp; with_reducible rfl))
  try simp only [Act.put, List.getElem_toArray, List.getElem_cons_succ, List.getElem_cons_zero, List.setIfInBounds_toArray, List.set_cons_zero, List.set_cons_succ]
  refine wpAnyH_take (i := 3) (v := ?_) rfl (by kernel_rfl) (by kernel_rfl) (by kernel_rfl) (fun _ _ _ h => h) (Or.inl ⟨by rfl, ?_⟩) (by assumption) ?_
  rotate_left
  · (intro w hSw; (try dsimp only at hSw); (try simp only [List.getElem_toArray, List.getElem_cons_succ, List.getElem_cons_zero]); first | (go_simp; done) | (go_simp; with_reducible rfl))
  try simp only [Act.put, List.getElem_toArray, List.getElem_cons_succ, List.getElem_cons_zero, List.setIfInBounds_toArray, List.set_cons_zero, List.set_cons_succ]
  refine wpAnyH_take (i := 4) (v := ?_) rfl (by kernel_rfl) (by kernel_rfl) (by kernel_rfl) (fun _ _ _ h => h) (Or.inl ⟨by rfl, ?_⟩) (by assumption) ?_
  rotate_left
  · (intro w hSw; (try dsimp only at hSw); (try simp only [List.getElem_toArray, List.getElem_cons_succ, List.getElem_cons_zero]); first | (go_simp; done) | (go_simp; with_reducible rfl))
  try simp only [Act.put, List.getElem_toArray, List.getElem_cons_succ, List.getElem_cons_zero, List.setIfInBounds_toArray, List.set_cons_zero, List.set_cons_succ]
  refine wpAnyH_take (i := 5) (v := ?_) rfl (by kernel_rfl) (by kernel_rfl) (by kernel_rfl) (fun _ _ _ h => h) (Or.inl ⟨by rfl, ?_⟩) (by assumption) ?_
  rotate_left
  · (intro w hSw; (try dsimp only at hSw); (try simp only [List.getElem_toArray, List.getElem_cons_succ, List.getElem_cons_zero]); first | (go_simp; done) | (go_simp; with_reducible rfl))
  try simp only [Act.put, List.getElem_toArray, List.getElem_cons_succ, List.getElem_cons_zero, List.setIfInBounds_toArray, List.set_cons_zero, List.set_cons_succ]
  refine wpAnyH_take (i := 6) (v := ?_) rfl (by kernel_rfl) (by kernel_rfl) (by kernel_rfl) (fun _ _ _ h => h) (Or.inl ⟨by rfl, ?_⟩) (by assumption) ?_
  rotate_left
  · (intro w hSw; (try dsimp only at hSw); (try simp only [List.getElem_toArray, List.getElem_cons_succ, List.getElem_cons_zero]); first | (go_simp; done) | (go_simp; with_reducible rfl))
  try simp only [Act.put, List.getElem_toArray, List.getElem_cons_succ, List.getElem_cons_zero, List.setIfInBounds_toArray, List.set_cons_zero, List.set_cons_succ]
  refine wpAnyH_take (i := 7) (v := ?_) rfl (by kernel_rfl) (by kernel_rfl) (by kernel_rfl) (fun _ _ _ h => h) (Or.inl ⟨by rfl, ?_⟩) (by assumption) ?_
  rotate_left
  · (intro w hSw; (try dsimp only at hSw); (try simp only [List.getElem_toArray, List.getElem_cons_succ, List.getElem_cons_zero]); first | (go_simp; done) | (go_simp; with_reducible rfl))
  try simp only [Act.put, List.getElem_toArray, List.getElem_cons_succ, List.getElem_cons_zero, List.setIfInBounds_toArray, List.set_cons_zero, List.set_cons_succ]
  refine wpAnyH_take (i := 9) (v := ?_) rfl (by kernel_rfl) (by kernel_rfl) (by kernel_rfl) (fun _ _ _ h => h) (Or.inl ⟨by rfl, ?_⟩) (by assumption) ?_
  rotate_left
  · (intro w hSw; (try dsimp only at hSw); (try simp only [List.getElem_toArray, List.getElem_cons_succ, List.getElem_cons_zero]); first | (go_simp; done) | (go_simp; with_reducible rfl))
  try simp only [Act.put, List.getElem_toArray, List.getElem_cons_succ, List.getElem_cons_zero, List.setIfInBounds_toArray, List.set_cons_zero, List.set_cons_succ]
  refine wpAnyH_take (i := 10) (v := ?_) rfl (by kernel_rfl) (by kernel_rfl) (by kernel_rfl) (fun _ _ _ h => h) (Or.inl ⟨by rfl, ?_⟩) (by assumption) ?_
  rotate_left
  · (intro w hSw; (try dsimp only at hSw); (try simp only [List.getElem_toArray, List.getElem_cons_succ, List.getElem_cons_zero]); first | (go_simp; done) | (go_simp; with_reducible rfl))
  try simp only [Act.put, List.getElem_toArray, List.getElem_cons_succ, List.getElem_cons_zero, List.setIfInBounds_toArray, List.set_cons_zero, List.set_cons_succ]
  refine wpAnyH_take (i := 11) (v := ?_) rfl (by kernel_rfl) (by kernel_rfl) (by kernel_rfl) (fun _ _ _ h => h) (Or.inl ⟨by rfl, ?_⟩) (by assumption) ?_
  rotate_left
  · (intro w hSw; (try dsimp only at hSw); (try simp only [List.getElem_toArray, List.getElem_cons_succ, List.getElem_cons_zero]); first | (go_simp; done) | (go_simp; with_reducible rfl))
  try simp only [Act.put, List.getElem_toArray, List.getElem_cons_succ, List.getElem_cons_zero, List.setIfInBounds_toArray, List.set_cons_zero, List.set_cons_succ]
  refine wpAnyH_take (i := 12) (v := ?_) rfl (by kernel_rfl) (by kernel_rfl) (by kernel_rfl) (fun _ _ _ h => h) (Or.inl ⟨by rfl, ?_⟩) (by assumption) ?_
  rotate_left
  · (intro w hSw; (try dsimp only at hSw); (try simp only [List.getElem_toArray, List.getElem_cons_succ, List.getElem_cons_zero]); first | (go_simp; done) | (go_simp; with_reducible rfl))
  try simp only [Act.put, List.getElem_toArray, List.getElem_cons_succ, List.getElem_cons_zero, List.setIfInBounds_toArray, List.set_cons_zero, List.set_cons_succ]
  refine wpAnyH_take (i := 13) (v := ?_) rfl (by kernel_rfl) (by kernel_rfl) (by kernel_rfl) (fun _ _ _ h => h) (Or.inl ⟨by rfl, ?_⟩) (by assumption) ?_
  rotate_left
  · (intro w hSw; (try dsimp only at hSw); (try simp only [List.getElem_toArray, List.getElem_cons_succ, List.getElem_cons_zero]); first | (go_simp; done) | (go_simp; with_reducible rfl))
  try simp only [Act.put, List.getElem_toArray, List.getElem_cons_succ, List.getElem_cons_zero, List.setIfInBounds_toArray, List.set_cons_zero, List.set_cons_succ]
  refine wpAnyH_take (i := 14) (v := ?_) rfl (by kernel_rfl) (by kernel_rfl) (by kernel_rfl) (fun _ _ _ h => h) (Or.inl ⟨by rfl, ?_⟩) (by assumption) ?_
  rotate_left
  · (intro w hSw; (try dsimp only at hSw); (try simp only [List.getElem_toArray, List.getElem_cons_succ, List.getElem_cons_zero]); first | (go_simp; done) | (go_simp; with_reducible rfl))
  try simp only [Act.put, List.getElem_toArray, List.getElem_cons_succ, List.getElem_cons_zero, List.setIfInBounds_toArray, List.set_cons_zero, List.set_cons_succ]
  refine wpAnyH_take (i := 18) (v := ?_) rfl (by kernel_rfl) (by kernel_rfl) (by kernel_rfl) (fun _ _ _ h => h) (Or.inl ⟨by rfl, ?_⟩) (by assumption) ?_
  rotate_left
  · (intro w hSw; (try dsimp only at hSw); (try simp only [List.getElem_toArray, List.getElem_cons_succ, List.getElem_cons_zero]); first | (go_simp; done) | (go_simp; with_reducible rfl))
  try simp only [Act.put, List.getElem_toArray, List.getElem_cons_succ, List.getElem_cons_zero, List.setIfInBounds_toArray, List.set_cons_zero, List.set_cons_succ]
  refine wpAnyH_take (i := 23) (v := ?_) rfl (by kernel_rfl) (by kernel_rfl) (by kernel_rfl) (fun _ _ _ h => h) (Or.inl ⟨by rfl, ?_⟩) (by assumption) ?_
  rotate_left
  · (intro w hSw; (try dsimp only at hSw); (try simp only [List.getElem_toArray, List.getElem_cons_succ, List.getElem_cons_zero]); first | (go_simp; done) | (go_simp; with_reducible rfl))
  try simp only [Act.put, List.getElem_toArray, List.getElem_cons_succ, List.getElem_cons_zero, List.setIfInBounds_toArray, List.set_cons_zero, List.set_cons_succ]
  refine wpAnyH_take (i := 24) (v := ?_) rfl (by kernel_rfl) (by kernel_rfl) (by kernel_rfl) (fun _ _ _ h => h) (Or.inl ⟨by rfl, ?_⟩) (by assumption) ?_
  rotate_left
  · (intro w hSw; (try dsimp only at hSw); (try simp only [List.getElem_toArray, List.getElem_cons_succ, List.getElem_cons_zero]); first | (go_simp; done) | (go_simp; with_reducible rfl))
  try simp only [Act.put, List.getElem_toArray, List.getElem_cons_succ, List.getElem_cons_zero, List.setIfInBounds_toArray, List.set_cons_zero, List.set_cons_succ]
  refine wpAnyH_ready (rs := [8]) (by kernel_rfl) (by simp) ?_
  refine AllReadyH.cons rfl (fun K hK => ?_) AllReadyH.nil
  try simp only [List.getElem_toArray, List.getElem_cons_succ, List.getElem_cons_zero]
  go_simp
  go_at_call 75; (with_reducible refine (pickE g A l1 cap (0 + 50) (2 ^ M) (w1.alloc (.cells #[.int .i64 nn, .slice A' ws.length c'] 29)).drew (HR1.out.below (by go_grown)) (by decide) hpb).mono ?_); rintro e w2 ⟨q1, rfl, hq10, hq11, hr_w2, hg_w2, hs_w2⟩; have hq12 : q1 < 2 ^ M := hq11 hpp; have hk2 := set_a hg_w2 hgl; have hz2 : w1.heap.size < w2.heap.size := set_z hs_w2; have hx2 := yset_g HRES.out hg_w2 hsz1 hgw; have hv2 : w.heap.size < w2.heap.size := Nat.lt_trans hsz1 hz2; clear hq11 hs_w2
  refine hK.out _ _ ?_ (fun hHeld => ?_)
  · exact hk2
  clear hK K
  try simp only [Act.put, List.getElem_toArray, List.getElem_cons_succ, List.getElem_cons_zero, List.setIfInBounds_toArray, List.set_cons_zero, List.set_cons_succ]
  refine wpAnyH_ready (rs := [15]) (by kernel_rfl) (by simp) ?_
  refine AllReadyH.cons rfl (fun K hK => ?_) AllReadyH.nil
  try simp only [List.getElem_toArray, List.getElem_cons_succ, List.getElem_cons_zero]
  go_simp
  go_at_call 75; (with_reducible refine (pickE g A l1 cap (0 + 50 + 1) (2 ^ M) w2 (hr_w2) (by decide) hpb).mono ?_); rintro e w3 ⟨q2, rfl, hq20, hq21, hr_w3, hg_w3, hs_w3⟩; have hq22 : q2 < 2 ^ M := hq21 hpp; have hk3 := set_b hk2 hg_w3 hgl; have hz3 : w1.heap.size < w3.heap.size := hs_w3 ▸ hz2; have hx3 := set_e hx2 hg_w3 hv2 hgw; have hv3 : w.heap.size < w3.heap.size := Nat.lt_trans hsz1 hz3; clear hq21 hs_w3
  refine hK.out _ _ ?_ (fun hHeld => ?_)
  · exact hk3
  clear hK K
  try simp only [Act.put, List.getElem_toArray, List.getElem_cons_succ, List.getElem_cons_zero, List.setIfInBounds_toArray, List.set_cons_zero, List.set_cons_succ]
  refine wpAnyH_take (i := 16) (v := ?_) rfl (by kernel_rfl) (by kernel_rfl) (by kernel_rfl) (fun _ _ _ h => h) (Or.inl ⟨by rfl, ?_⟩) (by assumption) ?_
  rotate_left
  · (intro w hSw; (try dsimp only at hSw); (try simp only [List.getElem_toArray, List.getElem_cons_succ, List.getElem_cons_zero]); first | (go_simp; done) | (go_simp; with_reducible rfl))
  try simp only [Act.put, List.getElem_toArray, List.getElem_cons_succ, List.getElem_cons_zero, List.setIfInBounds_toArray, List.set_cons_zero, List.set_cons_succ]
  refine wpAnyH_take (i := 17) (v := ?_) rfl (by kernel_rfl) (by kernel_rfl) (by kernel_rfl) (fun _ _ _ h => h) (Or.inl ⟨by rfl, ?_⟩) (by assumption) ?_
  rotate_left
  · (intro w hSw; (try dsimp only at hSw); (try simp only [List.getElem_toArray, List.getElem_cons_succ, List.getElem_cons_zero]); first | (go_simp; done) | (go_simp; with_reducible rfl))
  try simp only [Act.put, List.getElem_toArray, List.getElem_cons_succ, List.getElem_cons_zero, List.setIfInBounds_toArray, List.set_cons_zero, List.set_cons_succ]
  refine wpAnyH_ready (rs := [19]) (by kernel_rfl) (by simp) ?_
  refine AllReadyH.cons rfl (fun K hK => ?_) AllReadyH.nil
  try simp only [List.getElem_toArray, List.getElem_cons_succ, List.getElem_cons_zero]
  go_simp
  go_at_call 75; (with_reducible refine (pickE g A l1 cap (0 + 50 + 1 + 1) 40 w3 (hr_w3) (by decide) (by decide)).mono ?_); rintro e w4 ⟨q3, rfl, hq30, hq31, hr_w4, hg_w4, hs_w4⟩; have hq32 := hq31 (by decide); have hk4 := set_b hk3 hg_w4 hgl; have hz4 : w1.heap.size < w4.heap.size := hs_w4 ▸ hz3; have hx4 := set_e hx3 hg_w4 hv3 hgw; have hv4 : w.heap.size < w4.heap.size := Nat.lt_trans hsz1 hz4; clear hq31 hs_w4
  refine hK.out _ _ ?_ (fun hHeld => ?_)
  · exact hk4
  clear hK K
  try simp only [Act.put, List.getElem_toArray, List.getElem_cons_succ, List.getElem_cons_zero, List.setIfInBounds_toArray, List.set_cons_zero, List.set_cons_succ]
  refine wpAnyH_take (i := 20) (v := ?_) rfl (by kernel_rfl) (by kernel_rfl) (by kernel_rfl) (fun _ _ _ h => h) (Or.inl ⟨by rfl, ?_⟩) (by assumption) ?_
  rotate_left
  · (intro w hSw; (try dsimp only at hSw); (try simp only [List.getElem_toArray, List.getElem_cons_succ, List.getElem_cons_zero]); first | (go_simp; done) | (go_simp; with_reducible rfl))
  try simp only [Act.put, List.getElem_toArray, List.getElem_cons_succ, List.getElem_cons_zero, List.setIfInBounds_toArray, List.set_cons_zero, List.set_cons_succ]
  refine wpAnyH_take (i := 21) (v := ?_) rfl (by kernel_rfl) (by kernel_rfl) (by kernel_rfl) (fun _ _ _ h => h) (Or.inl ⟨by rfl, ?_⟩) (by assumption) ?_
  rotate_left
  · (intro w hSw; (try dsimp only at hSw); (try simp only [List.getElem_toArray, List.getElem_cons_succ, List.getElem_cons_zero]); first | (go_simp; done) | (go_simp; with_reducible rfl))
  try simp only [Act.put, List.getElem_toArray, List.getElem_cons_succ, List.getElem_cons_zero, List.setIfInBounds_toArray, List.set_cons_zero, List.set_cons_succ]
  refine wpAnyH_take (i := 22) (v := ?_) rfl (by kernel_rfl) (by kernel_rfl) (by kernel_rfl) (fun _ _ _ h => h) (Or.inl ⟨by rfl, ?_⟩) (by assumption) ?_
  rotate_left
  · (intro w hSw; (try dsimp only at hSw); (try simp only [List.getElem_toArray, List.getElem_cons_succ, List.getElem_cons_zero]); first | (go_simp; done) | (go_simp; with_reducible rfl))
  try simp only [Act.put, List.getElem_toArray, List.getElem_cons_succ, List.getElem_cons_zero, List.setIfInBounds_toArray, List.set_cons_zero, List.set_cons_succ]
  refine wpAnyH_ready (rs := [25]) (by kernel_rfl) (by simp) ?_
  refine AllReadyH.cons rfl (fun K hK => ?_) AllReadyH.nil
  try simp only [List.getElem_toArray, List.getElem_cons_succ, List.getElem_cons_zero]
  go_simp
  go_at_call 75; (with_reducible refine (pickE g A l1 cap (0 + 50 + 1 + 1 + 1) 256 w4 (hr_w4) (by decide) (by decide)).mono ?_); rintro e w5 ⟨q4, rfl, hq40, hq41, hr_w5, hg_w5, hs_w5⟩; have hq42 := hq41 (by decide); have hk5 := set_b hk4 hg_w5 hgl; have hz5 : w1.heap.size < w5.heap.size := hs_w5 ▸ hz4; have hx5 := set_e hx4 hg_w5 hv4 hgw; have hk6 := set_d (.int .i64 nn) (.slice A' ws.length c') hk5 hz1; have T := Lib.hid (two_cells (v0 := .int .i64 nn) (v1 := .slice A' ws.length c') hx5); have z0 : w5.cell? ⟨w.heap.size, 0, none⟩ = some (.int .i64 0) := cell_of_row _ _ 0 _ _ (0, 0) hx5; have z1 : w5.cell? ⟨w.heap.size, 1, none⟩ = some (.slice none 0 0) := cell_of_row _ _ 1 _ _ (0, 0) hx5; have z2 := set_f 0 hx5; have z3 := set_f 1 hx5; clear hq41 hs_w5
  refine hK.out _ _ ?_ (fun hHeld => ?_)
  · exact hk5
  clear hK K
  try simp only [Act.put, List.getElem_toArray, List.getElem_cons_succ, List.getElem_cons_zero, List.setIfInBounds_toArray, List.set_cons_zero, List.set_cons_succ]
  refine wpAnyH_take (i := 26) (v := ?_) rfl (by kernel_rfl) (by kernel_rfl) (by kernel_rfl) (fun _ _ _ h => h) (Or.inl ⟨by rfl, ?_⟩) (by assumption) ?_
  rotate_left
  · (intro w hSw; (try dsimp only at hSw); (try simp only [List.getElem_toArray, List.getElem_cons_succ, List.getElem_cons_zero]); first | (go_simp; done) | (go_simp; with_reducible rfl))
  try simp only [Act.put, List.getElem_toArray, List.getElem_cons_succ, List.getElem_cons_zero, List.setIfInBounds_toArray, List.set_cons_zero, List.set_cons_succ]
  refine wpAnyH_ready (rs := [27]) (by kernel_rfl) (by simp) ?_
  refine AllReadyH.cons rfl (fun K hK => ?_) AllReadyH.nil
  try simp only [List.getElem_toArray, List.getElem_cons_succ, List.getElem_cons_zero]
  go_simp
  
  refine hK.out _ _ ?_ (fun hHeld => ?_)
  · exact hk6
  clear hK K
  try simp only [Act.put, List.getElem_toArray, List.getElem_cons_succ, List.getElem_cons_zero, List.setIfInBounds_toArray, List.set_cons_zero, List.set_cons_succ]
  refine wpAnyH_take (i := 28) (v := ?_) rfl (by kernel_rfl) (by kernel_rfl) (by kernel_rfl) (fun _ _ _ h => h) (Or.inl ⟨by rfl, ?_⟩) (by assumption) ?_
  rotate_left
  · (intro w hSw; (try dsimp only at hSw); (try simp only [List.getElem_toArray, List.getElem_cons_succ, List.getElem_cons_zero]); first | (go_simp; done) | (go_simp; with_reducible rfl))
  try simp only [Act.put, List.getElem_toArray, List.getElem_cons_succ, List.getElem_cons_zero, List.setIfInBounds_toArray, List.set_cons_zero, List.set_cons_succ]
  refine wpAnyH_take (i := 29) (v := ?_) rfl (by kernel_rfl) (by kernel_rfl) (by kernel_rfl) (fun _ _ _ h => h) (Or.inl ⟨by rfl, ?_⟩) (by assumption) ?_
  rotate_left
  · (intro w hSw; (try dsimp only at hSw); (try simp only [List.getElem_toArray, List.getElem_cons_succ, List.getElem_cons_zero]); first | (go_simp; done) | (go_simp; with_reducible rfl))
  try simp only [Act.put, List.getElem_toArray, List.getElem_cons_succ, List.getElem_cons_zero, List.setIfInBounds_toArray, List.set_cons_zero, List.set_cons_succ]
  refine wpAnyH_done (by kernel_rfl) ?_ _
  clear hw1 hw2 hw3 hw4 hmn hpb
  obtain ⟨t, ht⟩ : ∃ t : Int, q3.tdiv 39 = t := ⟨_, rfl⟩
  have ht0 : 0 ≤ t ∧ t ≤ 1 := by rw [← ht, Int.tdiv_eq_ediv_of_nonneg hq30]; omega
  have hib := iand_bd q1 q2 hq10
  have e0 : bits .and .i64 q1 q2 = iand q1 q2 := bits_and _ _ (by omega) (by omega) (by omega) (by omega)
  have hdb := idiff_bd FF (iand q1 q2) hF0
  have e00 : bits .andNot .i64 FF (iand q1 q2) = idiff FF (iand q1 q2) := bits_andNot _ _ (by omega) (by omega) (by omega) (by omega)
  have hsb := iand_bd2 s q4 hq40
  have e4 : bits .and .i64 s q4 = iand s q4 := bits_and _ _ (by omega) (by omega) (by omega) (by omega)
  have E1 : Hid (IntKind.i64.wrap (q3.tdiv 39) = t) := by show IntKind.i64.wrap (q3.tdiv 39) = t; rw [ht]; exact IntWalk.i64_in _ ⟨by omega, by omega⟩
  have E2 : Hid (IntKind.i64.wrap (t * 1024) = t * 1024) := IntWalk.i64_in _ ⟨by omega, by omega⟩
  have E3 : Hid (IntKind.i64.wrap (idiff FF (iand q1 q2) + t * 1024) = idiff FF (iand q1 q2) + t * 1024) := IntWalk.i64_in _ ⟨by omega, by omega⟩
  have hrw5 : RW w5 w5.heap.size A' ws := by
    clear e0 e00 e4
    intro i x hx
    obtain ⟨b, o, ha, hB, g0, g1, g2⟩ := HRW.out i x hx
    have hbb := hA' _ ha
    simp at hbb
    have hk : w5.heap[b]? = w1.heap[b]? := by
      rw [hg_w5.block _ (by omega) (by intro e; injection e; omega), hg_w4.block _ (by omega) (by intro e; injection e; omega), hg_w3.block _ (by omega) (by intro e; injection e; omega), hg_w2.block _ (by simp; omega) (by intro e; injection e; omega)]
      exact Below.heap_alloc _ _ _ hB
    exact ⟨b, o, ha, by omega, (World.cell?_of_block (w := w1) hk).trans g0, (World.cell?_of_block (w := w1) hk).trans g1, (World.cell?_of_block (w := w1) hk).trans g2⟩
  have HRW5 := Lib.hid hrw5
  have HG5 := Lib.hid (below_of_only (below_of_only (below_of_only (below_of_only (HBD.out.alloc (Nat.le_of_lt hsz1) (.cells #[.int .i64 nn, .slice A' ws.length c'] 29)).drew hg_w2 (Nat.le_of_lt hgw)) hg_w3 (Nat.le_of_lt hgw)) hg_w4 (Nat.le_of_lt hgw)) hg_w5 (Nat.le_of_lt hgw))
  have hA0 : 0 ≤ idiff FF (iand q1 q2) + t * 1024 := by clear e0 e00 e4; omega
  have hA1 : idiff FF (iand q1 q2) + t * 1024 ≤ 2000 := by clear e0 e00 e4; omega
  have hP1 : iand s q4 ≤ 300 := by clear e0 e00 e4; omega
  clear hrw5 hr_w5 hr_w4 hr_w3 hr_w2 hg_w2 hg_w3 hg_w4 hg_w5 hk2 hk3 hk4 hk5 hk6 hx2 hx3 hx4 hx5 ht
  have e1 := E1.out
  have e2 := E2.out
  have e3 := E3.out
  go_wp2_with fail
  obtain ⟨t0, t1⟩ := T.out
  refine bodyPost_ret (v := .tuple #[.agg #[.int .i64 nn, .slice A' ws.length c'], .int .i64 (idiff FF (iand q1 q2) + t * 1024), .int .i64 (iand s q4)]) (by simp [results, Tryd.results36, go_sem, t0, t1, e0, e00, e1, e2, e3, e4]) rfl
    ⟨nn, idiff FF (iand q1 q2) + t * 1024, iand s q4, A', c', ws, rfl, ?_, hl10, hcc, hn0, hn7, hA0, hA1, hsb.1, hP1, by have := HG5.out; clear e0 e00 e1 e2 e3 e4; go_grown⟩
  clear e0 e00 e1 e2 e3 e4
  intro i x hx
  obtain ⟨b, o, ha, hB, g0, g1, g2⟩ := HRW5.out i x hx
  have hbb := hA' _ ha
  simp at hbb
  have hk : ((w5.setCell ⟨w.heap.size, 0, none⟩ (.int .i64 nn)).setCell ⟨w.heap.size, 1, none⟩ (.slice A' ws.length c')).heap[b]? = w5.heap[b]? := (Below.heap_setCell _ _ _ _ (by simp; omega)).trans (Below.heap_setCell _ _ _ _ (by simp; omega))
  exact ⟨b, o, ha, by simpa [World.setCell] using hB, (World.cell?_of_block (w := w5) hk).trans g0, (World.cell?_of_block (w := w5) hk).trans g1, (World.cell?_of_block (w := w5) hk).trans g2⟩
end Go.Proofs.YtfkojhgaeicahaaDoor
