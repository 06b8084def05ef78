/- DrawPathOf: some net, two numbers. -/
import Derived.Test.YtiioojjjpabaeaaWM
set_option linter.unusedSimpArgs false
set_option linter.unusedVariables false
attribute [local go_sem ↓] Go.wp_at_zero Go.wp_at_succ
namespace Go.Proofs.Ytiioojjjpabaeaa
open Go.ChangeShapes Go.WideShapes Go.ChangeAt Go.RowKit

def DrawnTwo (w : World) (e : Ending) (w' : World) : Prop :=
  ∃ (nn a b : Int) (A' : Option Addr) (c' : Nat) (ws : List Wy), e = .returned (.tuple #[.agg #[.int .i64 nn, .slice A' ws.length c'], .int .i64 a, .int .i64 b]) ∧ RW w' w'.heap.size A' ws ∧ ws.length ≤ 10 ∧ ws.length ≤ c' ∧ 0 ≤ nn ∧ nn ≤ 7 ∧ -10 ≤ a ∧ a ≤ 20 ∧ -10 ≤ b ∧ b ≤ 20 ∧ Below w.heap.size w w'
theorem set_g {w1 w2 : World} {g h : Nat} {o o' : Obj} (hr : w1.heap[h]? = some o) (hg2 : (w1.alloc o').drew.grownBy w2 (some g)) (hl : h < w1.heap.size) (hg : h < g) : w2.heap[h]? = some o := by
  have hne : some h ≠ some g := by intro e; injection e; omega
  rw [hg2.block h (by simp; omega) hne]
  exact (Below.heap_alloc _ _ _ hl).trans hr

set_option maxHeartbeats 3000000 in
theorem DrawPathOf_any (A : Option Addr) (len cap : Nat) (w : World) (hr : RB w w.heap.size A len) (hc : len ≤ cap) (hl : len ≤ 1048576) :
    Calls Try.prog 53 #[.slice A len cap] w (DrawnTwo w) := by
  have HR := Lib.hid hr
  clear hr
  go_enter Try.func53, Try.ntmps53
  go_wp2_with fail
  refine (openE A len cap _ (fun i hi => ?_) hc hl).mono ?_
  · obtain ⟨b, o, v, ha, hB, h0, h1, h2⟩ := HR.out i hi
    exact ⟨b, o, v, ha, by simp; omega, h0, h1, (World.cell?_alloc_lt w _ _ hB).trans h2⟩
  rintro e wo ⟨l1, rfl, hr1, hb1⟩
  simp only [World.size_alloc] at hr1
  have hzo : w.heap.size + 1 < wo.heap.size := by have := hr1.lt; omega
  have HB1 := Lib.hid (bstep (B := w.heap.size) (W := w) (by go_grown) (by go_size) hb1)
  have HBL := Lib.hid (hb1.block w.heap.size (by simp))
  obtain ⟨g, hg⟩ : ∃ g, w.heap.size + 1 = g := ⟨_, rfl⟩
  rw [hg] at hr1
  have HGG := Lib.hid hg
  have hgw : w.heap.size < g := by omega
  have hgo : g < wo.heap.size := by omega
  have HRO := Lib.hid hr1
  clear hb1 hr1
  go_wp2_with fail
  refine (l20Net_any g A l1 cap 0 14 _ HRO.out (by omega) (by omega) (by omega)).mono ?_
  clear hg
  rintro e w1 ⟨nn, A', c', ws, rfl, hrw, hA', hl10, hcc, hn0, hn7, hr1, hg1⟩
  have hg := HGG.out
  have hszo : wo.heap.size ≤ w1.heap.size := hg1.size
  have hsz1 : w.heap.size < w1.heap.size := by omega
  have hgl : g < w1.heap.size := by omega
  have hres : w1.heap[w.heap.size]? = some (.cells #[.int .i64 0, .slice none 0 0] 25 (0, 0)) := by
    rw [hg1.block _ (by omega) (by intro e; injection e; omega), HBL.out]
    exact heap_alloc_new w _
  have HBD := Lib.hid (below_of_only HB1.out hg1 (by omega))
  have HR1 := Lib.hid hr1
  have HRES := Lib.hid hres
  have HRW := Lib.hid hrw
  have a0 : w1.cell? ⟨w.heap.size, 0, none⟩ = some (.int .i64 0) := cell_of_row _ _ 0 _ _ (0, 0) HRES.out
  have hz1 : w1.heap.size ≠ w.heap.size := by omega
  clear hg1 hr1 hres hrw hg
  obtain ⟨mx, hmx⟩ : ∃ mx : Int, (if nn < 1 then 1 else nn) = mx := ⟨_, rfl⟩
  have hm1 : 1 ≤ mx ∧ mx ≤ 7 := by rw [← hmx]; split <;> omega
  have hmp : 1 ≤ mx := hm1.1
  have hmb : mx ≤ 1048576 := by omega
  go_wp2_with fail
  refine wp_region_held_drew (S := (fun w' => w'.cell? ⟨w1.heap.size, 0, none⟩ = some (.int .i64 nn) ∧ w'.cell? ⟨w1.heap.size, 1, none⟩ = some (.slice A' ws.length c'))) (by kernel_rfl) ?_ (fun hHeld => ?_)
  · exact ⟨cell_of_row _ _ 0 _ _ (0, 0) (heap_alloc_new w1 _), cell_of_row _ _ 1 _ _ (0, 0) (heap_alloc_new w1 _)⟩
  refine wpAnyH_take (i := 0) (v := ?_) rfl (by kernel_rfl) (by kernel_rfl) (by kernel_rfl) (fun _ _ _ h => h) (Or.inl ⟨by rfl, ?_⟩) (by assumption) ?_
  rotate_left
  · (intro w hSw; (try dsimp only at hSw); (try simp only [List.getElem_toArray, List.getElem_cons_succ, List.getElem_cons_zero]); first | (go_simp; done) | (go_simp; with_reducible rfl))
  try simp only [Act.put, List.getElem_toArray, List.getElem_cons_succ, List.getElem_cons_zero, List.setIfInBounds_toArray, List.set_cons_zero, List.set_cons_succ]
  refine wpAnyH_take (i := 1) (v := ?_) rfl (by kernel_rfl) (by kernel_rfl) (by kernel_rfl) (fun _ _ _ h => h) (Or.inl ⟨by rfl, ?_⟩) (by assumption) ?_
  rotate_left
  · (intro w hSw; (try dsimp only at hSw); (try simp only [List.getElem_toArray, List.getElem_cons_succ, List.getElem_cons_zero]); first | (go_simp; done) | (go_simp; with_reducible rfl))
  try simp only [Act.put, List.getElem_toArray, List.getElem_cons_succ, List.getElem_cons_zero, List.setIfInBounds_toArray, List.set_cons_zero, List.set_cons_succ]
  refine wpAnyH_take (i := 2) (v := ?_) rfl (by kernel_rfl) (by kernel_rfl) (by kernel_rfl) (fun _ _ _ h => h) (Or.inl ⟨by rfl, ?_⟩) (by assumption) ?_
  rotate_left
  · (intro w hSw; (try dsimp only at hSw); (try simp only [List.getElem_toArray, List.getElem_cons_succ, List.getElem_cons_zero]); first | (go_simp; done) | (go_simp; with_reducible rfl))
  try simp only [Act.put, List.getElem_toArray, List.getElem_cons_succ, List.getElem_cons_zero, List.setIfInBounds_toArray, List.set_cons_zero, List.set_cons_succ]
  refine wpAnyH_take (i := 3) (v := ?_) rfl (by kernel_rfl) (by kernel_rfl) (by kernel_rfl) (fun _ _ _ h => h) (Or.inl ⟨by rfl, ?_⟩) (by assumption) ?_
  rotate_left
  · (intro w hSw; (try dsimp only at hSw); (try simp only [List.getElem_toArray, List.getElem_cons_succ, List.getElem_cons_zero]); first | (go_simp; done) | (go_simp; with_reducible rfl))
  try simp only [Act.put, List.getElem_toArray, List.getElem_cons_succ, List.getElem_cons_zero, List.setIfInBounds_toArray, List.set_cons_zero, List.set_cons_succ]
  refine wpAnyH_take (i := 4) (v := ?_) rfl (by kernel_rfl) (by kernel_rfl) (by kernel_rfl) (fun _ _ _ h => h) (Or.inl ⟨by rfl, ?_⟩) (by assumption) ?_
  rotate_left
  · (intro w hSw; (try dsimp only at hSw); (try simp only [List.getElem_toArray, List.getElem_cons_succ, List.getElem_cons_zero]); first | (go_simp; done) | (go_simp; with_reducible rfl))
  try simp only [Act.put, List.getElem_toArray, List.getElem_cons_succ, List.getElem_cons_zero, List.setIfInBounds_toArray, List.set_cons_zero, List.set_cons_succ]
  refine wpAnyH_take (i := 6) (v := ?_) rfl (by kernel_rfl) (by kernel_rfl) (by kernel_rfl) (fun _ _ _ h => h) (Or.inl ⟨by rfl, ?_⟩) (by assumption) ?_
  rotate_left
  · (intro w hSw; (try dsimp only at hSw); (try simp only [List.getElem_toArray, List.getElem_cons_succ, List.getElem_cons_zero]); first | (go_simp; done) | (go_simp; with_reducible rfl))
  try simp only [Act.put, List.getElem_toArray, List.getElem_cons_succ, List.getElem_cons_zero, List.setIfInBounds_toArray, List.set_cons_zero, List.set_cons_succ]
  refine wpAnyH_take (i := 11) (v := ?_) rfl (by kernel_rfl) (by kernel_rfl) (by kernel_rfl) (fun _ _ _ h => h) (Or.inl ⟨by rfl, ?_⟩) (by assumption) ?_
  rotate_left
  · (intro w hSw; (try dsimp only at hSw); (try simp only [List.getElem_toArray, List.getElem_cons_succ, List.getElem_cons_zero]); first | (go_simp; done) | (go_simp; with_reducible rfl))
  try simp only [Act.put, List.getElem_toArray, List.getElem_cons_succ, List.getElem_cons_zero, List.setIfInBounds_toArray, List.set_cons_zero, List.set_cons_succ]
  refine wpAnyH_take (i := 12) (v := ?_) rfl (by kernel_rfl) (by kernel_rfl) (by kernel_rfl) (fun _ _ _ h => h) (Or.inl ⟨by rfl, ?_⟩) (by assumption) ?_
  rotate_left
  · (intro w hSw; (try dsimp only at hSw); (try simp only [List.getElem_toArray, List.getElem_cons_succ, List.getElem_cons_zero]); first | (go_simp; done) | (go_simp; with_reducible rfl))
  try simp only [Act.put, List.getElem_toArray, List.getElem_cons_succ, List.getElem_cons_zero, List.setIfInBounds_toArray, List.set_cons_zero, List.set_cons_succ]
  refine wpAnyH_take (i := 13) (v := ?_) rfl (by kernel_rfl) (by kernel_rfl) (by kernel_rfl) (fun _ _ _ h => h) (Or.inl ⟨by rfl, ?_⟩) (by assumption) ?_
  rotate_left
  · (intro w hSw; (try dsimp only at hSw); (try simp only [List.getElem_toArray, List.getElem_cons_succ, List.getElem_cons_zero]); first | (go_simp; done) | (go_simp; with_reducible rfl))
  try simp only [Act.put, List.getElem_toArray, List.getElem_cons_succ, List.getElem_cons_zero, List.setIfInBounds_toArray, List.set_cons_zero, List.set_cons_succ]
  refine wpAnyH_take (i := 14) (v := ?_) rfl (by kernel_rfl) (by kernel_rfl) (by kernel_rfl) (fun _ _ _ h => h) (Or.inl ⟨by rfl, ?_⟩) (by assumption) ?_
  rotate_left
  · (intro w hSw; (try dsimp only at hSw); (try simp only [List.getElem_toArray, List.getElem_cons_succ, List.getElem_cons_zero]); first | (go_simp; done) | (go_simp; with_reducible rfl))
  try simp only [Act.put, List.getElem_toArray, List.getElem_cons_succ, List.getElem_cons_zero, List.setIfInBounds_toArray, List.set_cons_zero, List.set_cons_succ]
  refine wpAnyH_take (i := 16) (v := ?_) rfl (by kernel_rfl) (by kernel_rfl) (by kernel_rfl) (fun _ _ _ h => h) (Or.inl ⟨by rfl, ?_⟩) (by assumption) ?_
  rotate_left
  · (intro w hSw; (try dsimp only at hSw); (try simp only [List.getElem_toArray, List.getElem_cons_succ, List.getElem_cons_zero]); first | (go_simp; done) | (go_simp; with_reducible rfl))
  try simp only [Act.put, List.getElem_toArray, List.getElem_cons_succ, List.getElem_cons_zero, List.setIfInBounds_toArray, List.set_cons_zero, List.set_cons_succ]
  refine wpAnyH_ready (rs := [5]) (by kernel_rfl) (by simp) ?_
  refine AllReadyH.cons rfl (fun K hK => ?_) AllReadyH.nil
  try simp only [List.getElem_toArray, List.getElem_cons_succ, List.getElem_cons_zero]
  go_simp
  go_at_call 67; (with_reducible refine (pickE g A l1 cap (0 + 40) mx (w1.alloc (.cells #[.int .i64 nn, .slice A' ws.length c'] 25)).drew (HR1.out.below (by go_grown)) (by decide) hmb).mono ?_); rintro e w2 ⟨q1, rfl, hq10, hq11, hr_w2, hg_w2, hs_w2⟩; have hq12 : q1 < mx := hq11 hmp; have hk2 := set_a hg_w2 hgl; have hz2 : w1.heap.size < w2.heap.size := set_z hs_w2; have hx2 := set_g HRES.out hg_w2 hsz1 hgw; have hv2 : w.heap.size < w2.heap.size := Nat.lt_trans hsz1 hz2; clear hq11 hs_w2
  refine hK.out _ _ ?_ (fun hHeld => ?_)
  · exact hk2
  clear hK K
  try simp only [Act.put, List.getElem_toArray, List.getElem_cons_succ, List.getElem_cons_zero, List.setIfInBounds_toArray, List.set_cons_zero, List.set_cons_succ]
  refine wpAnyH_ready (rs := [7]) (by kernel_rfl) (by simp) ?_
  refine AllReadyH.cons rfl (fun K hK => ?_) AllReadyH.nil
  try simp only [List.getElem_toArray, List.getElem_cons_succ, List.getElem_cons_zero]
  go_simp
  go_at_call 67; (with_reducible refine (pickE g A l1 cap (0 + 40 + 1) 40 w2 (hr_w2) (by decide) (by decide)).mono ?_); rintro e w3 ⟨q2, rfl, hq20, hq21, hr_w3, hg_w3, hs_w3⟩; have hq22 := hq21 (by decide); have hk3 := set_b hk2 hg_w3 hgl; have hz3 : w1.heap.size < w3.heap.size := hs_w3 ▸ hz2; have hx3 := set_e hx2 hg_w3 hv2 hgw; have hv3 : w.heap.size < w3.heap.size := Nat.lt_trans hsz1 hz3; clear hq21 hs_w3
  refine hK.out _ _ ?_ (fun hHeld => ?_)
  · exact hk3
  clear hK K
  try simp only [Act.put, List.getElem_toArray, List.getElem_cons_succ, List.getElem_cons_zero, List.setIfInBounds_toArray, List.set_cons_zero, List.set_cons_succ]
  refine wpAnyH_take (i := 8) (v := ?_) rfl (by kernel_rfl) (by kernel_rfl) (by kernel_rfl) (fun _ _ _ h => h) (Or.inl ⟨by rfl, ?_⟩) (by assumption) ?_
  rotate_left
  · (intro w hSw; (try dsimp only at hSw); (try simp only [List.getElem_toArray, List.getElem_cons_succ, List.getElem_cons_zero]); first | (go_simp; done) | (go_simp; with_reducible rfl))
  try simp only [Act.put, List.getElem_toArray, List.getElem_cons_succ, List.getElem_cons_zero, List.setIfInBounds_toArray, List.set_cons_zero, List.set_cons_succ]
  refine wpAnyH_take (i := 9) (v := ?_) rfl (by kernel_rfl) (by kernel_rfl) (by kernel_rfl) (fun _ _ _ h => h) (Or.inl ⟨by rfl, ?_⟩) (by assumption) ?_
  rotate_left
  · (intro w hSw; (try dsimp only at hSw); (try simp only [List.getElem_toArray, List.getElem_cons_succ, List.getElem_cons_zero]); first | (go_simp; done) | (go_simp; with_reducible rfl))
  try simp only [Act.put, List.getElem_toArray, List.getElem_cons_succ, List.getElem_cons_zero, List.setIfInBounds_toArray, List.set_cons_zero, List.set_cons_succ]
  refine wpAnyH_take (i := 10) (v := ?_) rfl (by kernel_rfl) (by kernel_rfl) (by kernel_rfl) (fun _ _ _ h => h) (Or.inl ⟨by rfl, ?_⟩) (by assumption) ?_
  rotate_left
  · (intro w hSw; (try dsimp only at hSw); (try simp only [List.getElem_toArray, List.getElem_cons_succ, List.getElem_cons_zero]); first | (go_simp; done) | (go_simp; with_reducible rfl))
  try simp only [Act.put, List.getElem_toArray, List.getElem_cons_succ, List.getElem_cons_zero, List.setIfInBounds_toArray, List.set_cons_zero, List.set_cons_succ]
  refine wpAnyH_ready (rs := [15]) (by kernel_rfl) (by simp) ?_
  refine AllReadyH.cons rfl (fun K hK => ?_) AllReadyH.nil
  try simp only [List.getElem_toArray, List.getElem_cons_succ, List.getElem_cons_zero]
  go_simp
  go_at_call 67; (with_reducible refine (pickE g A l1 cap (0 + 40 + 1 + 1) mx w3 (hr_w3) (by decide) hmb).mono ?_); rintro e w4 ⟨q3, rfl, hq30, hq31, hr_w4, hg_w4, hs_w4⟩; have hq32 : q3 < mx := hq31 hmp; have hk4 := set_b hk3 hg_w4 hgl; have hz4 : w1.heap.size < w4.heap.size := hs_w4 ▸ hz3; have hx4 := set_e hx3 hg_w4 hv3 hgw; have hv4 : w.heap.size < w4.heap.size := Nat.lt_trans hsz1 hz4; clear hq31 hs_w4
  refine hK.out _ _ ?_ (fun hHeld => ?_)
  · exact hk4
  clear hK K
  try simp only [Act.put, List.getElem_toArray, List.getElem_cons_succ, List.getElem_cons_zero, List.setIfInBounds_toArray, List.set_cons_zero, List.set_cons_succ]
  refine wpAnyH_ready (rs := [17]) (by kernel_rfl) (by simp) ?_
  refine AllReadyH.cons rfl (fun K hK => ?_) AllReadyH.nil
  try simp only [List.getElem_toArray, List.getElem_cons_succ, List.getElem_cons_zero]
  go_simp
  go_at_call 67; (with_reducible refine (pickE g A l1 cap (0 + 40 + 1 + 1 + 1) 40 w4 (hr_w4) (by decide) (by decide)).mono ?_); rintro e w5 ⟨q4, rfl, hq40, hq41, hr_w5, hg_w5, hs_w5⟩; have hq42 := hq41 (by decide); have hk5 := set_b hk4 hg_w5 hgl; have hz5 : w1.heap.size < w5.heap.size := hs_w5 ▸ hz4; have hx5 := set_e hx4 hg_w5 hv4 hgw; have hk6 := set_d (.int .i64 nn) (.slice A' ws.length c') hk5 hz1; have T := Lib.hid (two_cells (v0 := .int .i64 nn) (v1 := .slice A' ws.length c') hx5); have z0 : w5.cell? ⟨w.heap.size, 0, none⟩ = some (.int .i64 0) := cell_of_row _ _ 0 _ _ (0, 0) hx5; have z1 : w5.cell? ⟨w.heap.size, 1, none⟩ = some (.slice none 0 0) := cell_of_row _ _ 1 _ _ (0, 0) hx5; have z2 := set_f 0 hx5; have z3 := set_f 1 hx5; clear hq41 hs_w5
  refine hK.out _ _ ?_ (fun hHeld => ?_)
  · exact hk5
  clear hK K
  try simp only [Act.put, List.getElem_toArray, List.getElem_cons_succ, List.getElem_cons_zero, List.setIfInBounds_toArray, List.set_cons_zero, List.set_cons_succ]
  refine wpAnyH_take (i := 18) (v := ?_) rfl (by kernel_rfl) (by kernel_rfl) (by kernel_rfl) (fun _ _ _ h => h) (Or.inl ⟨by rfl, ?_⟩) (by assumption) ?_
  rotate_left
  · (intro w hSw; (try dsimp only at hSw); (try simp only [List.getElem_toArray, List.getElem_cons_succ, List.getElem_cons_zero]); first | (go_simp; done) | (go_simp; with_reducible rfl))
  try simp only [Act.put, List.getElem_toArray, List.getElem_cons_succ, List.getElem_cons_zero, List.setIfInBounds_toArray, List.set_cons_zero, List.set_cons_succ]
  refine wpAnyH_take (i := 19) (v := ?_) rfl (by kernel_rfl) (by kernel_rfl) (by kernel_rfl) (fun _ _ _ h => h) (Or.inl ⟨by rfl, ?_⟩) (by assumption) ?_
  rotate_left
  · (intro w hSw; (try dsimp only at hSw); (try simp only [List.getElem_toArray, List.getElem_cons_succ, List.getElem_cons_zero]); first | (go_simp; done) | (go_simp; with_reducible rfl))
  try simp only [Act.put, List.getElem_toArray, List.getElem_cons_succ, List.getElem_cons_zero, List.setIfInBounds_toArray, List.set_cons_zero, List.set_cons_succ]
  refine wpAnyH_take (i := 20) (v := ?_) rfl (by kernel_rfl) (by kernel_rfl) (by kernel_rfl) (fun _ _ _ h => h) (Or.inl ⟨by rfl, ?_⟩) (by assumption) ?_
  rotate_left
  · (intro w hSw; (try dsimp only at hSw); (try simp only [List.getElem_toArray, List.getElem_cons_succ, List.getElem_cons_zero]); first | (go_simp; done) | (go_simp; with_reducible rfl))
  try simp only [Act.put, List.getElem_toArray, List.getElem_cons_succ, List.getElem_cons_zero, List.setIfInBounds_toArray, List.set_cons_zero, List.set_cons_succ]
  refine wpAnyH_ready (rs := [21]) (by kernel_rfl) (by simp) ?_
  refine AllReadyH.cons rfl (fun K hK => ?_) AllReadyH.nil
  try simp only [List.getElem_toArray, List.getElem_cons_succ, List.getElem_cons_zero]
  go_simp
  
  refine hK.out _ _ ?_ (fun hHeld => ?_)
  · exact hk6
  clear hK K
  try simp only [Act.put, List.getElem_toArray, List.getElem_cons_succ, List.getElem_cons_zero, List.setIfInBounds_toArray, List.set_cons_zero, List.set_cons_succ]
  refine wpAnyH_take (i := 22) (v := ?_) rfl (by kernel_rfl) (by kernel_rfl) (by kernel_rfl) (fun _ _ _ h => h) (Or.inl ⟨by rfl, ?_⟩) (by assumption) ?_
  rotate_left
  · (intro w hSw; (try dsimp only at hSw); (try simp only [List.getElem_toArray, List.getElem_cons_succ, List.getElem_cons_zero]); first | (go_simp; done) | (go_simp; with_reducible rfl))
  try simp only [Act.put, List.getElem_toArray, List.getElem_cons_succ, List.getElem_cons_zero, List.setIfInBounds_toArray, List.set_cons_zero, List.set_cons_succ]
  refine wpAnyH_take (i := 23) (v := ?_) rfl (by kernel_rfl) (by kernel_rfl) (by kernel_rfl) (fun _ _ _ h => h) (Or.inl ⟨by rfl, ?_⟩) (by assumption) ?_
  rotate_left
  · (intro w hSw; (try dsimp only at hSw); (try simp only [List.getElem_toArray, List.getElem_cons_succ, List.getElem_cons_zero]); first | (go_simp; done) | (go_simp; with_reducible rfl))
  try simp only [Act.put, List.getElem_toArray, List.getElem_cons_succ, List.getElem_cons_zero, List.setIfInBounds_toArray, List.set_cons_zero, List.set_cons_succ]
  refine wpAnyH_done (by kernel_rfl) ?_ _
  obtain ⟨t, ht⟩ : ∃ t : Int, q2.tdiv 39 = t := ⟨_, rfl⟩
  obtain ⟨t', ht'⟩ : ∃ t : Int, q4.tdiv 39 = t := ⟨_, rfl⟩
  have ht0 : 0 ≤ t ∧ t ≤ 1 := by rw [← ht, Int.tdiv_eq_ediv_of_nonneg hq20]; omega
  have ht1 : 0 ≤ t' ∧ t' ≤ 1 := by rw [← ht', Int.tdiv_eq_ediv_of_nonneg hq40]; omega
  have e1 : IntKind.i64.wrap (q2.tdiv 39) = t := by rw [ht]; exact IntWalk.i64_in _ ⟨by omega, by omega⟩
  have e2 : IntKind.i64.wrap (t * 7) = t * 7 := IntWalk.i64_in _ ⟨by omega, by omega⟩
  have e3 : IntKind.i64.wrap (q1 + t * 7) = q1 + t * 7 := IntWalk.i64_in _ ⟨by omega, by omega⟩
  have e4 : IntKind.i64.wrap (q4.tdiv 39) = t' := by rw [ht']; exact IntWalk.i64_in _ ⟨by omega, by omega⟩
  have e5 : IntKind.i64.wrap (t' * 7) = t' * 7 := IntWalk.i64_in _ ⟨by omega, by omega⟩
  have e6 : IntKind.i64.wrap (q3 - t' * 7) = q3 - t' * 7 := IntWalk.i64_in _ ⟨by omega, by omega⟩
  have hrw5 : RW w5 w5.heap.size A' ws := by
    intro i x hx
    obtain ⟨b, o, ha, hB, g0, g1, g2⟩ := HRW.out i x hx
    have hbb := hA' _ ha
    simp at hbb
    have hk : w5.heap[b]? = w1.heap[b]? := by
      rw [hg_w5.block _ (by omega) (by intro e; injection e; omega), hg_w4.block _ (by omega) (by intro e; injection e; omega), hg_w3.block _ (by omega) (by intro e; injection e; omega), hg_w2.block _ (by simp; omega) (by intro e; injection e; omega)]
      exact Below.heap_alloc _ _ _ hB
    exact ⟨b, o, ha, by omega, (World.cell?_of_block (w := w1) hk).trans g0, (World.cell?_of_block (w := w1) hk).trans g1, (World.cell?_of_block (w := w1) hk).trans g2⟩
  have HRW5 := Lib.hid hrw5
  have HG5 := Lib.hid (below_of_only (below_of_only (below_of_only (below_of_only (HBD.out.alloc (by omega) (.cells #[.int .i64 nn, .slice A' ws.length c'] 25)).drew hg_w2 (by omega)) hg_w3 (by omega)) hg_w4 (by omega)) hg_w5 (by omega))
  clear hrw5 hr_w5 hr_w4 hr_w3 hr_w2 hg_w2 hg_w3 hg_w4 hg_w5 hk2 hk3 hk4 hk5 hk6 hx2 hx3 hx4 hx5 ht ht' hmx
  go_wp2_with fail
  obtain ⟨t0, t1⟩ := T.out
  refine bodyPost_ret (v := .tuple #[.agg #[.int .i64 nn, .slice A' ws.length c'], .int .i64 (q1 + t * 7), .int .i64 (q3 - t' * 7)]) (by simp [results, Try.results53, go_sem, t0, t1, e1, e2, e3, e4, e5, e6]) rfl
    ⟨nn, q1 + t * 7, q3 - t' * 7, A', c', ws, rfl, ?_, hl10, hcc, hn0, hn7, by omega, by omega, by omega, by omega, by have := HG5.out; go_grown⟩
  intro i x hx
  obtain ⟨b, o, ha, hB, g0, g1, g2⟩ := HRW5.out i x hx
  have hbb := hA' _ ha
  simp at hbb
  have hk : ((w5.setCell ⟨w.heap.size, 0, none⟩ (.int .i64 nn)).setCell ⟨w.heap.size, 1, none⟩ (.slice A' ws.length c')).heap[b]? = w5.heap[b]? := (Below.heap_setCell _ _ _ _ (by simp; omega)).trans (Below.heap_setCell _ _ _ _ (by simp; omega))
  exact ⟨b, o, ha, by simpa [World.setCell] using hB, (World.cell?_of_block (w := w5) hk).trans g0, (World.cell?_of_block (w := w5) hk).trans g1, (World.cell?_of_block (w := w5) hk).trans g2⟩
end Go.Proofs.Ytiioojjjpabaeaa
