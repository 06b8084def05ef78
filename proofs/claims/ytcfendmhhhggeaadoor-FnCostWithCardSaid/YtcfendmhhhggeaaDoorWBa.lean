/- Drawn nets with drawn ends and a drawn set of ways. -/
import Derived.Test.YtcfendmhhhggeaaDoorWX
import Derived.Test.YtcfendmhhhggeaaDoorWM
set_option linter.unusedSimpArgs false
set_option linter.unusedVariables false
attribute [local go_sem ↓] Go.wp_at_zero Go.wp_at_succ
namespace Go.Proofs.YtcfendmhhhggeaaDoor
open Go.ChangeShapes Go.WideShapes Go.ChangeAt Go.RowKit

def BothPost (w : World) (g : Nat) (e : Ending) (w' : World) : Prop :=
  ∃ (nn s p : Int) (A' : Option Addr) (c' : Nat) (ws : List Wy), e = .returned (.tuple #[.agg #[.int .i64 nn, .slice A' ws.length c'], .int .i64 s, .int .i64 p]) ∧ RW w' w'.heap.size A' ws ∧ (∀ ad, A' = some ad → w.heap.size ≤ ad.block) ∧
    ws.length ≤ 10 ∧ ws.length ≤ c' ∧ 0 ≤ nn ∧ nn ≤ 7 ∧ 0 ≤ s ∧ s ≤ 2000 ∧ 0 ≤ p ∧ p ≤ 2000 ∧ w.grownBy w' (some g)
def DrawnBoth (w : World) (e : Ending) (w' : World) : Prop :=
  ∃ (nn s p : Int) (A' : Option Addr) (c' : Nat) (ws : List Wy), e = .returned (.tuple #[.agg #[.int .i64 nn, .slice A' ws.length c'], .int .i64 s, .int .i64 p]) ∧ RW w' w'.heap.size A' ws ∧ ws.length ≤ 10 ∧ ws.length ≤ c' ∧ 0 ≤ nn ∧ nn ≤ 7 ∧ 0 ≤ s ∧ s ≤ 2000 ∧ 0 ≤ p ∧ p ≤ 2000 ∧ Below w.heap.size w w'
theorem bset_g {w1 w2 : World} {g h : Nat} {o o' : Obj} (hr : w1.heap[h]? = some o) (hg2 : (w1.alloc o').drew.grownBy w2 (some g)) (hl : h < w1.heap.size) (hg : g < h) : w2.heap[h]? = some o := by
  have hne : some h ≠ some g := by intro e; injection e; omega
  rw [hg2.block h (by simp; omega) hne]
  exact (Below.heap_alloc _ _ _ hl).trans hr
theorem bset_e {w3 w4 : World} {g h : Nat} {o : Obj} (hr : w3.heap[h]? = some o) (hg4 : w3.grownBy w4 (some g)) (hl : h < w3.heap.size) (hg : g < h) : w4.heap[h]? = some o := by
  rw [hg4.block h hl (by intro e; injection e; omega)]; exact hr
set_option maxHeartbeats 4000000 in
theorem l20Both_any (g : Nat) (A : Option Addr) (len cap : Nat) (m : Int) (w : World) (hr : RdrE w 68 g A len cap m) (hm : m ≤ 700000) :
    Calls Tryd.prog 39 #[.pointer (some ⟨g, 0, none⟩)] w (BothPost w g) := by
  have hg := hr.lt
  have HR := Lib.hid hr
  clear hr
  go_enter Tryd.func39, Tryd.ntmps39
  go_wp2_with fail
  refine (l20Ends_any g A len cap m 14 _ (HR.out.below (by go_grown)) (by omega) (by omega) (by omega)).mono ?_
  rintro e w1 ⟨nn, s, A', c', ws, rfl, hrw, hA', hl10, hcc, hn0, hn7, hs0, hs1, hr1, hg1⟩
  have hsz1 : w.heap.size < w1.heap.size := by have := hg1.size; simp at this; omega
  have hres : w1.heap[w.heap.size]? = some (.cells #[.int .i64 0, .slice none 0 0] 25 (0, 0)) := by
    rw [hg1.block _ (by simp) (by intro e; injection e; omega)]
    exact heap_alloc_new w _
  have HG1 := Lib.hid (only_trans (only_below ((Below.refl w.heap.size w).alloc (Nat.le_refl _) (.cells #[.int .i64 0, .slice none 0 0] 25)) (some g)) hg1)
  have HR1 := Lib.hid hr1
  have HRES := Lib.hid hres
  have HRW := Lib.hid hrw
  have hgl : g < w1.heap.size := by omega
  clear hg1 hr1 hres hrw
  have a0 : w1.cell? ⟨w.heap.size, 0, none⟩ = some (.int .i64 0) := cell_of_row _ _ 0 _ _ (0, 0) HRES.out
  have hz1 : w1.heap.size ≠ w.heap.size := by omega
  obtain ⟨M, hmn⟩ : ∃ M : Nat, (if 9 < (ws.length : Int) then (9 : Int) else (ws.length : Int)) = (M : Int) := by
    by_cases h9 : 9 < (ws.length : Int)
    · exact ⟨9, by rw [if_pos h9]; rfl⟩
    · exact ⟨ws.length, if_neg h9⟩
  have hM9 : M ≤ 9 := by
    by_cases h9 : 9 < (ws.length : Int)
    · rw [if_pos h9] at hmn; omega
    · rw [if_neg h9] at hmn; omega
  have hp2 := pow_bd (M : Int) 9 (by omega)
  rw [Int.toNat_natCast] at hp2
  have hpp : 1 ≤ (2 : Int) ^ M := hp2.1
  have hpb : (2 : Int) ^ M ≤ 1048576 := by omega
  have hp5 : (2 : Int) ^ M ≤ 512 := by omega
  have HW1 : Hid (IntKind.i64.wrap (2 ^ M) = 2 ^ M) := IntWalk.i64_in _ ⟨by omega, by omega⟩
  have HW2 : Hid (wrap64 (2 ^ M) = 2 ^ M) := IntWalk.wrap64_in _ ⟨by omega, by omega⟩
  have HM := Lib.hid hm
  clear hp2
  have hw1 := HW1.out
  have hw2 := HW2.out
  go_wp2_with fail
  refine wp_region_held_drew (S := (fun w' => w'.cell? ⟨w1.heap.size, 0, none⟩ = some (.int .i64 nn) ∧ w'.cell? ⟨w1.heap.size, 1, none⟩ = some (.slice A' ws.length c'))) (by kernel_rfl) ?_ (fun hHeld => ?_)
  · exact ⟨cell_of_row _ _ 0 _ _ (0, 0) (heap_alloc_new w1 _), cell_of_row _ _ 1 _ _ (0, 0) (heap_alloc_new w1 _)⟩
  refine wpAnyH_take (i := 0) (v := ?_) rfl (by kernel_rfl) (by kernel_rfl) (by kernel_rfl) (fun _ _ _ h => h) (Or.inl ⟨by rfl, ?_⟩) (by assumption) ?_
  rotate_left
  · (intro w hSw; (try dsimp only at hSw); (try simp only [List.getElem_toArray, List.getElem_cons_succ, List.getElem_cons_zero]); first | (go_simp; done) | (go_simp; with_reducible rfl))
  try simp only [Act.put, List.getElem_toArray, List.getElem_cons_succ, List.getElem_cons_zero, List.setIfInBounds_toArray, List.set_cons_zero, List.set_cons_succ]
  refine wpAnyH_take (i := 1) (v := ?_) rfl (by kernel_rfl) (by kernel_rfl) (by kernel_rfl) (fun _ _ _ h => h) (Or.inl ⟨by rfl, ?_⟩) (by assumption) ?_
  rotate_left
  · (intro w hSw; (try dsimp only at hSw); (try simp only [List.getElem_toArray, List.getElem_cons_succ, List.getElem_cons_zero]); first | (go_simp; done) | (go_simp; with_reducible rfl))
  try simp only [Act.put, List.getElem_toArray, List.getElem_cons_succ, List.getElem_cons_zero, List.setIfInBounds_toArray, List.set_cons_zero, List.set_cons_succ]
  refine wpAnyH_take (i := 2) (v := ?_) rfl (by kernel_rfl) (by kernel_rfl) (by kernel_rfl) (fun _ _ _ h => h) (Or.inl ⟨by rfl, ?_⟩) (by assumption) ?_
  rotate_left
  · (intro w hSw; (try dsimp only at hSw); (try simp only [List.getElem_toArray, List.getElem_cons_succ, List.getElem_cons_zero]); first | (go_simp; done) | (go_simp; with_reducible rfl))
  try simp only [Act.put, List.getElem_toArray, List.getElem_cons_succ, List.getElem_cons_zero, List.setIfInBounds_toArray, List.set_cons_zero, List.set_cons_succ]
  refine wpAnyH_take (i := 3) (v := ?_) rfl (by kernel_rfl) (by kernel_rfl) (by kernel_rfl) (fun _ _ _ h => h) (Or.inl ⟨by rfl, ?_⟩) (by assumption) ?_
  rotate_left
  · (intro w hSw; (try dsimp only at hSw); (try simp only [List.getElem_toArray, List.getElem_cons_succ, List.getElem_cons_zero]); first | (go_simp; done) | (go_simp; with_reducible rfl))
  try simp only [Act.put, List.getElem_toArray, List.getElem_cons_succ, List.getElem_cons_zero, List.setIfInBounds_toArray, List.set_cons_zero, List.set_cons_succ]
  refine wpAnyH_take (i := 4) (v := ?_) rfl (by kernel_rfl) (by kernel_rfl) (by kernel_rfl) (fun _ _ _ h => h) (Or.inl ⟨by rfl, ?_⟩) (by assumption) ?_
  rotate_left
  · (intro w hSw; (try dsimp only at hSw); (try simp only [List.getElem_toArray, List.getElem_cons_succ, List.getElem_cons_zero]); first | (go_simp; done) | (go_simp; with_reducible rfl))
  try simp only [Act.put, List.getElem_toArray, List.getElem_cons_succ, List.getElem_cons_zero, List.setIfInBounds_toArray, List.set_cons_zero, List.set_cons_succ]
  refine wpAnyH_take (i := 5) (v := ?_) rfl (by kernel_rfl) (by kernel_rfl) (by kernel_rfl) (fun _ _ _ h => h) (Or.inl ⟨by rfl, ?_⟩) (by assumption) ?_
  rotate_left
  · (intro w hSw; (try dsimp only at hSw); (try simp only [List.getElem_toArray, List.getElem_cons_succ, List.getElem_cons_zero]); first | (go_simp; done) | (go_simp; with_reducible rfl))
  try simp only [Act.put, List.getElem_toArray, List.getElem_cons_succ, List.getElem_cons_zero, List.setIfInBounds_toArray, List.set_cons_zero, List.set_cons_succ]
  refine wpAnyH_take (i := 6) (v := ?_) rfl (by kernel_rfl) (by kernel_rfl) (by kernel_rfl) (fun _ _ _ h => h) (Or.inl ⟨by rfl, ?_⟩) (by assumption) ?_
  rotate_left
  · (intro w hSw; (try dsimp only at hSw); (try simp only [List.getElem_toArray, List.getElem_cons_succ, List.getElem_cons_zero]); first | (go_simp; done) | (go_simp; with_reducible rfl))
  try simp only [Act.put, List.getElem_toArray, List.getElem_cons_succ, List.getElem_cons_zero, List.setIfInBounds_toArray, List.set_cons_zero, List.set_cons_succ]
  refine wpAnyH_take (i := 7) (v := ?_) rfl (by kernel_rfl) (by kernel_rfl) (by kernel_rfl) (fun _ _ _ h => h) (Or.inl ⟨by rfl, ?_⟩) (by assumption) ?_
  rotate_left
  · (intro w hSw; (try dsimp only at hSw); (try simp only [List.getElem_toArray, List.getElem_cons_succ, List.getElem_cons_zero]); first | (go_simp; done) | (go_simp; with_reducible rfl))
  try simp only [Act.put, List.getElem_toArray, List.getElem_cons_succ, List.getElem_cons_zero, List.setIfInBounds_toArray, List.set_cons_zero, List.set_cons_succ]
  refine wpAnyH_take (i := 9) (v := ?_) rfl (by kernel_rfl) (by kernel_rfl) (by kernel_rfl) (fun _ _ _ h => h) (Or.inl ⟨by rfl, ?_⟩) (by assumption) ?_
  rotate_left
  · (intro w hSw; (try dsimp only at hSw); (try simp only [List.getElem_toArray, List.getElem_cons_succ, List.getElem_cons_zero]); first | (go_simp; done) | (go_simp; with_reducible rfl))
  try simp only [Act.put, List.getElem_toArray, List.getElem_cons_succ, List.getElem_cons_zero, List.setIfInBounds_toArray, List.set_cons_zero, List.set_cons_succ]
  refine wpAnyH_take (i := 10) (v := ?_) rfl (by kernel_rfl) (by kernel_rfl) (by kernel_rfl) (fun _ _ _ h => h) (Or.inl ⟨by rfl, ?_⟩) (by assumption) ?_
  rotate_left
  · (intro w hSw; (try dsimp only at hSw); (try simp only [List.getElem_toArray, List.getElem_cons_succ, List.getElem_cons_zero]); first | (go_simp; done) | (go_simp; with_reducible rfl))
  try simp only [Act.put, List.getElem_toArray, List.getElem_cons_succ, List.getElem_cons_zero, List.setIfInBounds_toArray, List.set_cons_zero, List.set_cons_succ]
  refine wpAnyH_take (i := 11) (v := ?_) rfl (by kernel_rfl) (by kernel_rfl) (by kernel_rfl) (fun _ _ _ h => h) (Or.inl ⟨by rfl, ?_⟩) (by assumption) ?_
  rotate_left
  · (intro w hSw; (try dsimp only at hSw); (try simp only [List.getElem_toArray, List.getElem_cons_succ, List.getElem_cons_zero]); first | (go_simp; done) | (go_simp; with_reducible rfl))
  try simp only [Act.put, List.getElem_toArray, List.getElem_cons_succ, List.getElem_cons_zero, List.setIfInBounds_toArray, List.set_cons_zero, List.set_cons_succ]
  refine wpAnyH_take (i := 12) (v := ?_) rfl (by kernel_rfl) (by kernel_rfl) (by kernel_rfl) (fun _ _ _ h => h) (Or.inl ⟨by rfl, ?_⟩) (by assumption) ?_
  rotate_left
  · (intro w hSw; (try dsimp only at hSw); (try simp only [List.getElem_toArray, List.getElem_cons_succ, List.getElem_cons_zero]); first | (go_simp; done) | (go_simp; with_reducible rfl))
  try simp only [Act.put, List.getElem_toArray, List.getElem_cons_succ, List.getElem_cons_zero, List.setIfInBounds_toArray, List.set_cons_zero, List.set_cons_succ]
  refine wpAnyH_take (i := 13) (v := ?_) rfl (by kernel_rfl) (by kernel_rfl) (by kernel_rfl) (fun _ _ _ h => h) (Or.inl ⟨by rfl, ?_⟩) (by assumption) ?_
  rotate_left
  · (intro w hSw; (try dsimp only at hSw); (try simp only [List.getElem_toArray, List.getElem_cons_succ, List.getElem_cons_zero]); first | (go_simp; done) | (go_simp; with_reducible rfl))
  try simp only [Act.put, List.getElem_toArray, List.getElem_cons_succ, List.getElem_cons_zero, List.setIfInBounds_toArray, List.set_cons_zero, List.set_cons_succ]
  refine wpAnyH_take (i := 14) (v := ?_) rfl (by kernel_rfl) (by kernel_rfl) (by kernel_rfl) (fun _ _ _ h => h) (Or.inl ⟨by rfl, ?_⟩) (by assumption) ?_
  rotate_left
  · (intro w hSw; (try dsimp only at hSw); (try simp only [List.getElem_toArray, List.getElem_cons_succ, List.getElem_cons_zero]); first | (go_simp; done) | (go_simp; with_reducible rfl))
  try simp only [Act.put, List.getElem_toArray, List.getElem_cons_succ, List.getElem_cons_zero, List.setIfInBounds_toArray, List.set_cons_zero, List.set_cons_succ]
  refine wpAnyH_take (i := 17) (v := ?_) rfl (by kernel_rfl) (by kernel_rfl) (by kernel_rfl) (fun _ _ _ h => h) (Or.inl ⟨by rfl, ?_⟩) (by assumption) ?_
  rotate_left
  · (intro w hSw; (try dsimp only at hSw); (try simp only [List.getElem_toArray, List.getElem_cons_succ, List.getElem_cons_zero]); first | (go_simp; done) | (go_simp; with_reducible rfl))
  try simp only [Act.put, List.getElem_toArray, List.getElem_cons_succ, List.getElem_cons_zero, List.setIfInBounds_toArray, List.set_cons_zero, List.set_cons_succ]
  refine wpAnyH_ready (rs := [8]) (by kernel_rfl) (by simp) ?_
  refine AllReadyH.cons rfl (fun K hK => ?_) AllReadyH.nil
  try simp only [List.getElem_toArray, List.getElem_cons_succ, List.getElem_cons_zero]
  go_simp
  go_at_call 60; (with_reducible refine (pickE g A len cap (m + 50) (2 ^ M) (w1.alloc (.cells #[.int .i64 nn, .slice A' ws.length c'] 25)).drew (HR1.out.below (by go_grown)) (by have := HM.out; clear hw1 hw2; omega) hpb).mono ?_); rintro e w2 ⟨q1, rfl, hq10, hq11, hr_w2, hg_w2, hs_w2⟩; have hq12 : q1 < 2 ^ M := hq11 hpp; have hk2 := set_a hg_w2 hgl; have hz2 : w1.heap.size < w2.heap.size := set_z hs_w2; have hx2 := bset_g HRES.out hg_w2 hsz1 hg; have hv2 : w.heap.size < w2.heap.size := Nat.lt_trans hsz1 hz2; clear hq11 hs_w2
  refine hK.out _ _ ?_ (fun hHeld => ?_)
  · exact hk2
  clear hK K
  try simp only [Act.put, List.getElem_toArray, List.getElem_cons_succ, List.getElem_cons_zero, List.setIfInBounds_toArray, List.set_cons_zero, List.set_cons_succ]
  refine wpAnyH_ready (rs := [15]) (by kernel_rfl) (by simp) ?_
  refine AllReadyH.cons rfl (fun K hK => ?_) AllReadyH.nil
  try simp only [List.getElem_toArray, List.getElem_cons_succ, List.getElem_cons_zero]
  go_simp
  go_at_call 60; (with_reducible refine (pickE g A len cap (m + 50 + 1) (2 ^ M) w2 (hr_w2) (by have := HM.out; clear hw1 hw2; omega) hpb).mono ?_); rintro e w3 ⟨q2, rfl, hq20, hq21, hr_w3, hg_w3, hs_w3⟩; have hq22 : q2 < 2 ^ M := hq21 hpp; have hk3 := set_b hk2 hg_w3 hgl; have hz3 : w1.heap.size < w3.heap.size := hs_w3 ▸ hz2; have hx3 := bset_e hx2 hg_w3 hv2 hg; have hv3 : w.heap.size < w3.heap.size := Nat.lt_trans hsz1 hz3; clear hq21 hs_w3
  refine hK.out _ _ ?_ (fun hHeld => ?_)
  · exact hk3
  clear hK K
  try simp only [Act.put, List.getElem_toArray, List.getElem_cons_succ, List.getElem_cons_zero, List.setIfInBounds_toArray, List.set_cons_zero, List.set_cons_succ]
  refine wpAnyH_take (i := 16) (v := ?_) rfl (by kernel_rfl) (by kernel_rfl) (by kernel_rfl) (fun _ _ _ h => h) (Or.inl ⟨by rfl, ?_⟩) (by assumption) ?_
  rotate_left
  · (intro w hSw; (try dsimp only at hSw); (try simp only [List.getElem_toArray, List.getElem_cons_succ, List.getElem_cons_zero]); first | (go_simp; done) | (go_simp; with_reducible rfl))
  try simp only [Act.put, List.getElem_toArray, List.getElem_cons_succ, List.getElem_cons_zero, List.setIfInBounds_toArray, List.set_cons_zero, List.set_cons_succ]
  refine wpAnyH_ready (rs := [18]) (by kernel_rfl) (by simp) ?_
  refine AllReadyH.cons rfl (fun K hK => ?_) AllReadyH.nil
  try simp only [List.getElem_toArray, List.getElem_cons_succ, List.getElem_cons_zero]
  go_simp
  go_at_call 60; (with_reducible refine (pickE g A len cap (m + 50 + 1 + 1) 40 w3 (hr_w3) (by have := HM.out; clear hw1 hw2; omega) (by decide)).mono ?_); rintro e w4 ⟨q3, rfl, hq30, hq31, hr_w4, hg_w4, hs_w4⟩; have hq32 := hq31 (by decide); have hk4 := set_b hk3 hg_w4 hgl; have hz4 : w1.heap.size < w4.heap.size := hs_w4 ▸ hz3; have hx4 := bset_e hx3 hg_w4 hv3 hg; have hk5 := set_d (.int .i64 nn) (.slice A' ws.length c') hk4 hz1; have T := Lib.hid (two_cells (v0 := .int .i64 nn) (v1 := .slice A' ws.length c') hx4); have z0 : w4.cell? ⟨w.heap.size, 0, none⟩ = some (.int .i64 0) := cell_of_row _ _ 0 _ _ (0, 0) hx4; have z1 : w4.cell? ⟨w.heap.size, 1, none⟩ = some (.slice none 0 0) := cell_of_row _ _ 1 _ _ (0, 0) hx4; have z2 := set_f 0 hx4; have z3 := set_f 1 hx4; clear hq31 hs_w4
  refine hK.out _ _ ?_ (fun hHeld => ?_)
  · exact hk4
  clear hK K
  try simp only [Act.put, List.getElem_toArray, List.getElem_cons_succ, List.getElem_cons_zero, List.setIfInBounds_toArray, List.set_cons_zero, List.set_cons_succ]
  refine wpAnyH_take (i := 19) (v := ?_) rfl (by kernel_rfl) (by kernel_rfl) (by kernel_rfl) (fun _ _ _ h => h) (Or.inl ⟨by rfl, ?_⟩) (by assumption) ?_
  rotate_left
  · (intro w hSw; (try dsimp only at hSw); (try simp only [List.getElem_toArray, List.getElem_cons_succ, List.getElem_cons_zero]); first | (go_simp; done) | (go_simp; with_reducible rfl))
  try simp only [Act.put, List.getElem_toArray, List.getElem_cons_succ, List.getElem_cons_zero, List.setIfInBounds_toArray, List.set_cons_zero, List.set_cons_succ]
  refine wpAnyH_take (i := 20) (v := ?_) rfl (by kernel_rfl) (by kernel_rfl) (by kernel_rfl) (fun _ _ _ h => h) (Or.inl ⟨by rfl, ?_⟩) (by assumption) ?_
  rotate_left
  · (intro w hSw; (try dsimp only at hSw); (try simp only [List.getElem_toArray, List.getElem_cons_succ, List.getElem_cons_zero]); first | (go_simp; done) | (go_simp; with_reducible rfl))
  try simp only [Act.put, List.getElem_toArray, List.getElem_cons_succ, List.getElem_cons_zero, List.setIfInBounds_toArray, List.set_cons_zero, List.set_cons_succ]
  refine wpAnyH_take (i := 21) (v := ?_) rfl (by kernel_rfl) (by kernel_rfl) (by kernel_rfl) (fun _ _ _ h => h) (Or.inl ⟨by rfl, ?_⟩) (by assumption) ?_
  rotate_left
  · (intro w hSw; (try dsimp only at hSw); (try simp only [List.getElem_toArray, List.getElem_cons_succ, List.getElem_cons_zero]); first | (go_simp; done) | (go_simp; with_reducible rfl))
  try simp only [Act.put, List.getElem_toArray, List.getElem_cons_succ, List.getElem_cons_zero, List.setIfInBounds_toArray, List.set_cons_zero, List.set_cons_succ]
  refine wpAnyH_ready (rs := [22]) (by kernel_rfl) (by simp) ?_
  refine AllReadyH.cons rfl (fun K hK => ?_) AllReadyH.nil
  try simp only [List.getElem_toArray, List.getElem_cons_succ, List.getElem_cons_zero]
  go_simp
  
  refine hK.out _ _ ?_ (fun hHeld => ?_)
  · exact hk5
  clear hK K
  try simp only [Act.put, List.getElem_toArray, List.getElem_cons_succ, List.getElem_cons_zero, List.setIfInBounds_toArray, List.set_cons_zero, List.set_cons_succ]
  refine wpAnyH_take (i := 23) (v := ?_) rfl (by kernel_rfl) (by kernel_rfl) (by kernel_rfl) (fun _ _ _ h => h) (Or.inl ⟨by rfl, ?_⟩) (by assumption) ?_
  rotate_left
  · (intro w hSw; (try dsimp only at hSw); (try simp only [List.getElem_toArray, List.getElem_cons_succ, List.getElem_cons_zero]); first | (go_simp; done) | (go_simp; with_reducible rfl))
  try simp only [Act.put, List.getElem_toArray, List.getElem_cons_succ, List.getElem_cons_zero, List.setIfInBounds_toArray, List.set_cons_zero, List.set_cons_succ]
  refine wpAnyH_take (i := 24) (v := ?_) rfl (by kernel_rfl) (by kernel_rfl) (by kernel_rfl) (fun _ _ _ h => h) (Or.inl ⟨by rfl, ?_⟩) (by assumption) ?_
  rotate_left
  · (intro w hSw; (try dsimp only at hSw); (try simp only [List.getElem_toArray, List.getElem_cons_succ, List.getElem_cons_zero]); first | (go_simp; done) | (go_simp; with_reducible rfl))
  try simp only [Act.put, List.getElem_toArray, List.getElem_cons_succ, List.getElem_cons_zero, List.setIfInBounds_toArray, List.set_cons_zero, List.set_cons_succ]
  refine wpAnyH_done (by kernel_rfl) ?_ _
  clear hw1 hw2 hmn hpb
  obtain ⟨t, ht⟩ : ∃ t : Int, q3.tdiv 39 = t := ⟨_, rfl⟩
  have ht0 : 0 ≤ t ∧ t ≤ 1 := by rw [← ht, Int.tdiv_eq_ediv_of_nonneg hq30]; omega
  have hib := iand_bd q1 q2 hq10
  have e0 : bits .and .i64 q1 q2 = iand q1 q2 := bits_and _ _ (by omega) (by omega) (by omega) (by omega)
  have E1 : Hid (IntKind.i64.wrap (q3.tdiv 39) = t) := by show IntKind.i64.wrap (q3.tdiv 39) = t; rw [ht]; exact IntWalk.i64_in _ ⟨by omega, by omega⟩
  have E2 : Hid (IntKind.i64.wrap (t * 1024) = t * 1024) := IntWalk.i64_in _ ⟨by omega, by omega⟩
  have E3 : Hid (IntKind.i64.wrap (iand q1 q2 + t * 1024) = iand q1 q2 + t * 1024) := IntWalk.i64_in _ ⟨by omega, by omega⟩
  have hrw4 : RW w4 w4.heap.size A' ws := by
    clear e0
    intro i x hx
    obtain ⟨b, o, ha, hB, g0, g1, g2⟩ := HRW.out i x hx
    have hbb := hA' _ ha
    simp at hbb
    have hk : w4.heap[b]? = w1.heap[b]? := by
      rw [hg_w4.block _ (by omega) (by intro e; injection e; omega), hg_w3.block _ (by omega) (by intro e; injection e; omega), hg_w2.block _ (by simp; omega) (by intro e; injection e; omega)]
      exact Below.heap_alloc _ _ _ hB
    exact ⟨b, o, ha, by omega, (World.cell?_of_block (w := w1) hk).trans g0, (World.cell?_of_block (w := w1) hk).trans g1, (World.cell?_of_block (w := w1) hk).trans g2⟩
  have HRW4 := Lib.hid hrw4
  have HG4 := Lib.hid (only_trans (only_trans (only_trans (only_drew (only_alloc HG1.out (.cells #[.int .i64 nn, .slice A' ws.length c'] 25))) hg_w2) hg_w3) hg_w4)
  have hP0 : 0 ≤ iand q1 q2 + t * 1024 := by clear e0; omega
  have hP1 : iand q1 q2 + t * 1024 ≤ 2000 := by clear e0; omega
  clear hrw4 hr_w4 hr_w3 hr_w2 hg_w2 hg_w3 hg_w4 hk2 hk3 hk4 hk5 hx2 hx3 hx4 ht
  have e1 := E1.out
  have e2 := E2.out
  have e3 := E3.out
  go_wp2_with fail
  obtain ⟨t0, t1⟩ := T.out
  refine bodyPost_ret (v := .tuple #[.agg #[.int .i64 nn, .slice A' ws.length c'], .int .i64 s, .int .i64 (iand q1 q2 + t * 1024)]) (by simp [results, Tryd.results39, go_sem, t0, t1, e0, e1, e2, e3]) rfl
    ⟨nn, s, iand q1 q2 + t * 1024, A', c', ws, rfl, ?_, (fun ad h => by have := hA' ad h; simp at this; clear e0 e1 e2 e3; omega), hl10, hcc, hn0, hn7, hs0, hs1, hP0, hP1, only_setCell (only_setCell HG4.out (.inr (by simp)) _) (.inr (by simp)) _⟩
  clear e0 e1 e2 e3
  intro i x hx
  obtain ⟨b, o, ha, hB, g0, g1, g2⟩ := HRW4.out i x hx
  have hbb := hA' _ ha
  simp at hbb
  have hk : ((w4.setCell ⟨w.heap.size, 0, none⟩ (.int .i64 nn)).setCell ⟨w.heap.size, 1, none⟩ (.slice A' ws.length c')).heap[b]? = w4.heap[b]? := (Below.heap_setCell _ _ _ _ (by simp; omega)).trans (Below.heap_setCell _ _ _ _ (by simp; omega))
  exact ⟨b, o, ha, by simpa [World.setCell] using hB, (World.cell?_of_block (w := w4) hk).trans g0, (World.cell?_of_block (w := w4) hk).trans g1, (World.cell?_of_block (w := w4) hk).trans g2⟩
set_option maxHeartbeats 400000 in
theorem DrawMustWays_any (A : Option Addr) (len cap : Nat) (w : World) (hr : RB w w.heap.size A len) (hc : len ≤ cap) (hl : len ≤ 1048576) :
    Calls Tryd.prog 24 #[.slice A len cap] w (DrawnSet w) := by
  have HR := Lib.hid hr
  clear hr
  go_enter Tryd.func24, Tryd.ntmps24
  go_wp2_with fail
  refine (openE A len cap _ (fun i hi => ?_) hc hl).mono ?_
  · obtain ⟨b, o, v, ha, hB, h0, h1, h2⟩ := HR.out i hi
    exact ⟨b, o, v, ha, by simp; omega, h0, h1, (World.cell?_alloc_lt w _ _ hB).trans h2⟩
  rintro e w1 ⟨l1, rfl, hr1, hb1⟩
  simp only [World.size_alloc] at hr1
  have hz1 : w.heap.size < w1.heap.size := by have hq := hb1.size; simp at hq; omega
  obtain ⟨hc1, hf1⟩ := bcell hb1
  have HB1 := Lib.hid (bstep (B := w.heap.size) (W := w) (by go_grown) (by go_size) hb1)
  have HBL := Lib.hid (hb1.block w.heap.size (by simp))
  clear hb1
  go_wp2_with fail
  refine (l20Ends_any _ A l1 cap 0 _ _ hr1 (by omega) (by omega) (by omega)).mono ?_
  rintro e w2 ⟨nn, s, A', c', ws, rfl, hrw, hA', hl10, hcc, hn0, hn7, hs0, hs1, hr2, hg2⟩
  have hres : w2.heap[w.heap.size]? = some (.cells #[.int .i64 0, .slice none 0 0] 25 (0, 0)) := by
    rw [hg2.block _ hz1 (by intro e; injection e; omega), HBL.out]
    exact heap_alloc_new w _
  have c0 : w2.cell? ⟨w.heap.size, 0, none⟩ = some (.int .i64 0) := cell_of_row _ _ 0 _ _ (0, 0) hres
  have c1 : w2.cell? ⟨w.heap.size, 1, none⟩ = some (.slice none 0 0) := cell_of_row _ _ 1 _ _ (0, 0) hres
  have f0 : w2.frozen? ⟨w.heap.size, 0, none⟩ = false := by simp [World.frozen?, hres]
  have f1 : w2.frozen? ⟨w.heap.size, 1, none⟩ = false := by simp [World.frozen?, hres]
  have T := Lib.hid (two_cells (v0 := .int .i64 nn) (v1 := .slice A' ws.length c') hres)
  have HB2 := Lib.hid (below_of_only HB1.out hg2 (by omega))
  have HRW := Lib.hid hrw
  clear hrw hr2 hg2 hr1 hc1 hf1 hres
  go_wp2_with fail
  obtain ⟨t0, t1⟩ := T.out
  refine bodyPost_ret (v := .tuple #[.agg #[.int .i64 nn, .slice A' ws.length c'], .int .i64 s]) (by simp [results, Tryd.results24, go_sem, t0, t1]) rfl ⟨nn, s, A', c', ws, rfl, ?_, hl10, hcc, hn0, hn7, hs0, hs1, by have := HB2.out; go_grown⟩
  intro i x hx
  obtain ⟨b, o, ha, hB, g0, g1, g2⟩ := HRW.out i x hx
  have hne : b ≠ w.heap.size := by have := hA' _ ha; simp at this; omega
  have hk : ((w2.setCell ⟨w.heap.size, 0, none⟩ (.int .i64 nn)).setCell ⟨w.heap.size, 1, none⟩ (.slice A' ws.length c')).heap[b]? = w2.heap[b]? := (Below.heap_setCell _ _ _ _ hne).trans (Below.heap_setCell _ _ _ _ hne)
  exact ⟨b, o, ha, by simpa [World.setCell] using hB, (World.cell?_of_block (w := w2) hk).trans g0, (World.cell?_of_block (w := w2) hk).trans g1, (World.cell?_of_block (w := w2) hk).trans g2⟩
set_option maxHeartbeats 400000 in
theorem DrawMayWays_any (A : Option Addr) (len cap : Nat) (w : World) (hr : RB w w.heap.size A len) (hc : len ≤ cap) (hl : len ≤ 1048576) :
    Calls Tryd.prog 28 #[.slice A len cap] w (DrawnSet w) := by
  have HR := Lib.hid hr
  clear hr
  go_enter Tryd.func28, Tryd.ntmps28
  go_wp2_with fail
  refine (openE A len cap _ (fun i hi => ?_) hc hl).mono ?_
  · obtain ⟨b, o, v, ha, hB, h0, h1, h2⟩ := HR.out i hi
    exact ⟨b, o, v, ha, by simp; omega, h0, h1, (World.cell?_alloc_lt w _ _ hB).trans h2⟩
  rintro e w1 ⟨l1, rfl, hr1, hb1⟩
  simp only [World.size_alloc] at hr1
  have hz1 : w.heap.size < w1.heap.size := by have hq := hb1.size; simp at hq; omega
  obtain ⟨hc1, hf1⟩ := bcell hb1
  have HB1 := Lib.hid (bstep (B := w.heap.size) (W := w) (by go_grown) (by go_size) hb1)
  have HBL := Lib.hid (hb1.block w.heap.size (by simp))
  clear hb1
  go_wp2_with fail
  refine (l20Ends_any _ A l1 cap 0 _ _ hr1 (by omega) (by omega) (by omega)).mono ?_
  rintro e w2 ⟨nn, s, A', c', ws, rfl, hrw, hA', hl10, hcc, hn0, hn7, hs0, hs1, hr2, hg2⟩
  have hres : w2.heap[w.heap.size]? = some (.cells #[.int .i64 0, .slice none 0 0] 25 (0, 0)) := by
    rw [hg2.block _ hz1 (by intro e; injection e; omega), HBL.out]
    exact heap_alloc_new w _
  have c0 : w2.cell? ⟨w.heap.size, 0, none⟩ = some (.int .i64 0) := cell_of_row _ _ 0 _ _ (0, 0) hres
  have c1 : w2.cell? ⟨w.heap.size, 1, none⟩ = some (.slice none 0 0) := cell_of_row _ _ 1 _ _ (0, 0) hres
  have f0 : w2.frozen? ⟨w.heap.size, 0, none⟩ = false := by simp [World.frozen?, hres]
  have f1 : w2.frozen? ⟨w.heap.size, 1, none⟩ = false := by simp [World.frozen?, hres]
  have T := Lib.hid (two_cells (v0 := .int .i64 nn) (v1 := .slice A' ws.length c') hres)
  have HB2 := Lib.hid (below_of_only HB1.out hg2 (by omega))
  have HRW := Lib.hid hrw
  clear hrw hr2 hg2 hr1 hc1 hf1 hres
  go_wp2_with fail
  obtain ⟨t0, t1⟩ := T.out
  refine bodyPost_ret (v := .tuple #[.agg #[.int .i64 nn, .slice A' ws.length c'], .int .i64 s]) (by simp [results, Tryd.results28, go_sem, t0, t1]) rfl ⟨nn, s, A', c', ws, rfl, ?_, hl10, hcc, hn0, hn7, hs0, hs1, by have := HB2.out; go_grown⟩
  intro i x hx
  obtain ⟨b, o, ha, hB, g0, g1, g2⟩ := HRW.out i x hx
  have hne : b ≠ w.heap.size := by have := hA' _ ha; simp at this; omega
  have hk : ((w2.setCell ⟨w.heap.size, 0, none⟩ (.int .i64 nn)).setCell ⟨w.heap.size, 1, none⟩ (.slice A' ws.length c')).heap[b]? = w2.heap[b]? := (Below.heap_setCell _ _ _ _ hne).trans (Below.heap_setCell _ _ _ _ hne)
  exact ⟨b, o, ha, by simpa [World.setCell] using hB, (World.cell?_of_block (w := w2) hk).trans g0, (World.cell?_of_block (w := w2) hk).trans g1, (World.cell?_of_block (w := w2) hk).trans g2⟩
set_option maxHeartbeats 400000 in
theorem DrawCostWithout_any (A : Option Addr) (len cap : Nat) (w : World) (hr : RB w w.heap.size A len) (hc : len ≤ cap) (hl : len ≤ 1048576) :
    Calls Tryd.prog 13 #[.slice A len cap] w (DrawnBoth w) := by
  have HR := Lib.hid hr
  clear hr
  go_enter Tryd.func13, Tryd.ntmps13
  go_wp2_with fail
  refine (openE A len cap _ (fun i hi => ?_) hc hl).mono ?_
  · obtain ⟨b, o, v, ha, hB, h0, h1, h2⟩ := HR.out i hi
    exact ⟨b, o, v, ha, by simp; omega, h0, h1, (World.cell?_alloc_lt w _ _ hB).trans h2⟩
  rintro e w1 ⟨l1, rfl, hr1, hb1⟩
  simp only [World.size_alloc] at hr1
  have hz1 : w.heap.size < w1.heap.size := by have hq := hb1.size; simp at hq; omega
  obtain ⟨hc1, hf1⟩ := bcell hb1
  have HB1 := Lib.hid (bstep (B := w.heap.size) (W := w) (by go_grown) (by go_size) hb1)
  have HBL := Lib.hid (hb1.block w.heap.size (by simp))
  clear hb1
  go_wp2_with fail
  refine (l20Both_any _ A l1 cap 0 _ hr1 (by omega)).mono ?_
  rintro e w2 ⟨nn, s, p, A', c', ws, rfl, hrw, hA', hl10, hcc, hn0, hn7, hs0, hs1, hp0, hp1, hg2⟩
  have hres : w2.heap[w.heap.size]? = some (.cells #[.int .i64 0, .slice none 0 0] 25 (0, 0)) := by
    rw [hg2.block _ hz1 (by intro e; injection e; omega), HBL.out]
    exact heap_alloc_new w _
  have c0 : w2.cell? ⟨w.heap.size, 0, none⟩ = some (.int .i64 0) := cell_of_row _ _ 0 _ _ (0, 0) hres
  have c1 : w2.cell? ⟨w.heap.size, 1, none⟩ = some (.slice none 0 0) := cell_of_row _ _ 1 _ _ (0, 0) hres
  have f0 : w2.frozen? ⟨w.heap.size, 0, none⟩ = false := by simp [World.frozen?, hres]
  have f1 : w2.frozen? ⟨w.heap.size, 1, none⟩ = false := by simp [World.frozen?, hres]
  have T := Lib.hid (two_cells (v0 := .int .i64 nn) (v1 := .slice A' ws.length c') hres)
  have HB2 := Lib.hid (below_of_only HB1.out hg2 (by omega))
  have HRW := Lib.hid hrw
  clear hrw hg2 hr1 hc1 hf1 hres
  go_wp2_with fail
  obtain ⟨t0, t1⟩ := T.out
  refine bodyPost_ret (v := .tuple #[.agg #[.int .i64 nn, .slice A' ws.length c'], .int .i64 s, .int .i64 p]) (by simp [results, Tryd.results13, go_sem, t0, t1]) rfl ⟨nn, s, p, A', c', ws, rfl, ?_, hl10, hcc, hn0, hn7, hs0, hs1, hp0, hp1, by have := HB2.out; go_grown⟩
  intro i x hx
  obtain ⟨b, o, ha, hB, g0, g1, g2⟩ := HRW.out i x hx
  have hne : b ≠ w.heap.size := by have := hA' _ ha; simp at this; omega
  have hk : ((w2.setCell ⟨w.heap.size, 0, none⟩ (.int .i64 nn)).setCell ⟨w.heap.size, 1, none⟩ (.slice A' ws.length c')).heap[b]? = w2.heap[b]? := (Below.heap_setCell _ _ _ _ hne).trans (Below.heap_setCell _ _ _ _ hne)
  exact ⟨b, o, ha, by simpa [World.setCell] using hB, (World.cell?_of_block (w := w2) hk).trans g0, (World.cell?_of_block (w := w2) hk).trans g1, (World.cell?_of_block (w := w2) hk).trans g2⟩
set_option maxHeartbeats 400000 in
theorem DrawCostWith_any (A : Option Addr) (len cap : Nat) (w : World) (hr : RB w w.heap.size A len) (hc : len ≤ cap) (hl : len ≤ 1048576) :
    Calls Tryd.prog 20 #[.slice A len cap] w (DrawnBoth w) := by
  have HR := Lib.hid hr
  clear hr
  go_enter Tryd.func20, Tryd.ntmps20
  go_wp2_with fail
  refine (openE A len cap _ (fun i hi => ?_) hc hl).mono ?_
  · obtain ⟨b, o, v, ha, hB, h0, h1, h2⟩ := HR.out i hi
    exact ⟨b, o, v, ha, by simp; omega, h0, h1, (World.cell?_alloc_lt w _ _ hB).trans h2⟩
  rintro e w1 ⟨l1, rfl, hr1, hb1⟩
  simp only [World.size_alloc] at hr1
  have hz1 : w.heap.size < w1.heap.size := by have hq := hb1.size; simp at hq; omega
  obtain ⟨hc1, hf1⟩ := bcell hb1
  have HB1 := Lib.hid (bstep (B := w.heap.size) (W := w) (by go_grown) (by go_size) hb1)
  have HBL := Lib.hid (hb1.block w.heap.size (by simp))
  clear hb1
  go_wp2_with fail
  refine (l20Both_any _ A l1 cap 0 _ hr1 (by omega)).mono ?_
  rintro e w2 ⟨nn, s, p, A', c', ws, rfl, hrw, hA', hl10, hcc, hn0, hn7, hs0, hs1, hp0, hp1, hg2⟩
  have hres : w2.heap[w.heap.size]? = some (.cells #[.int .i64 0, .slice none 0 0] 25 (0, 0)) := by
    rw [hg2.block _ hz1 (by intro e; injection e; omega), HBL.out]
    exact heap_alloc_new w _
  have c0 : w2.cell? ⟨w.heap.size, 0, none⟩ = some (.int .i64 0) := cell_of_row _ _ 0 _ _ (0, 0) hres
  have c1 : w2.cell? ⟨w.heap.size, 1, none⟩ = some (.slice none 0 0) := cell_of_row _ _ 1 _ _ (0, 0) hres
  have f0 : w2.frozen? ⟨w.heap.size, 0, none⟩ = false := by simp [World.frozen?, hres]
  have f1 : w2.frozen? ⟨w.heap.size, 1, none⟩ = false := by simp [World.frozen?, hres]
  have T := Lib.hid (two_cells (v0 := .int .i64 nn) (v1 := .slice A' ws.length c') hres)
  have HB2 := Lib.hid (below_of_only HB1.out hg2 (by omega))
  have HRW := Lib.hid hrw
  clear hrw hg2 hr1 hc1 hf1 hres
  go_wp2_with fail
  obtain ⟨t0, t1⟩ := T.out
  refine bodyPost_ret (v := .tuple #[.agg #[.int .i64 nn, .slice A' ws.length c'], .int .i64 s, .int .i64 p]) (by simp [results, Tryd.results20, go_sem, t0, t1]) rfl ⟨nn, s, p, A', c', ws, rfl, ?_, hl10, hcc, hn0, hn7, hs0, hs1, hp0, hp1, by have := HB2.out; go_grown⟩
  intro i x hx
  obtain ⟨b, o, ha, hB, g0, g1, g2⟩ := HRW.out i x hx
  have hne : b ≠ w.heap.size := by have := hA' _ ha; simp at this; omega
  have hk : ((w2.setCell ⟨w.heap.size, 0, none⟩ (.int .i64 nn)).setCell ⟨w.heap.size, 1, none⟩ (.slice A' ws.length c')).heap[b]? = w2.heap[b]? := (Below.heap_setCell _ _ _ _ hne).trans (Below.heap_setCell _ _ _ _ hne)
  exact ⟨b, o, ha, by simpa [World.setCell] using hB, (World.cell?_of_block (w := w2) hk).trans g0, (World.cell?_of_block (w := w2) hk).trans g1, (World.cell?_of_block (w := w2) hk).trans g2⟩
end Go.Proofs.YtcfendmhhhggeaaDoor
