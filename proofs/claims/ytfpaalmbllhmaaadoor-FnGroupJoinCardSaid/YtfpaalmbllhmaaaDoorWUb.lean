/- DrawGroupCost: some net, some group. -/
import Derived.Test.YtfpaalmbllhmaaaDoorWP
import Derived.Test.YtfpaalmbllhmaaaDoorWX
import Derived.Deep.RegionHeld3
set_option linter.unusedSimpArgs false
set_option linter.unusedVariables false
attribute [local go_sem ↓] Go.wp_at_zero Go.wp_at_succ
namespace Go.Proofs.YtfpaalmbllhmaaaDoor
open Go.ChangeShapes Go.WideShapes Go.ChangeAt Go.RowKit

/-- some net, some group of places -/
def DrawnGrp (w : World) (e : Ending) (w' : World) : Prop :=
  ∃ (nn s : Int) (A' : Option Addr) (c' : Nat) (ws : List Wy), e = .returned (.tuple #[.agg #[.int .i64 nn, .slice A' ws.length c'], .int .i64 s]) ∧ RW w' w'.heap.size A' ws ∧ ws.length ≤ 10 ∧ ws.length ≤ c' ∧ 0 ≤ nn ∧ nn ≤ 7 ∧ 0 ≤ s ∧ s ≤ 4000 ∧ Below w.heap.size w w'
set_option maxHeartbeats 2000000 in
theorem DrawGroupCost_any (A : Option Addr) (len cap : Nat) (w : World) (hr : RB w w.heap.size A len) (hc : len ≤ cap) (hl : len ≤ 1048576) :
    Calls Tryd.prog 23 #[.slice A len cap] w (DrawnGrp w) := by
  have HR := Lib.hid hr
  clear hr
  go_enter Tryd.func23, Tryd.ntmps23
  go_wp2_with fail
  refine (openE A len cap _ (fun i hi => ?_) hc hl).mono ?_
  · obtain ⟨b, o, v, ha, hB, h0, h1, h2⟩ := HR.out i hi
    exact ⟨b, o, v, ha, by simp; omega, h0, h1, (World.cell?_alloc_lt w _ _ hB).trans h2⟩
  rintro e wo ⟨l1, rfl, hr1, hb1⟩
  simp only [World.size_alloc] at hr1
  have hzo : w.heap.size + 1 < wo.heap.size := by have := hr1.lt; omega
  have HB1 := Lib.hid (bstep (B := w.heap.size) (W := w) (by go_grown) (by go_size) hb1)
  have HBL := Lib.hid (hb1.block w.heap.size (by simp))
  obtain ⟨g, hg⟩ : ∃ g, w.heap.size + 1 = g := ⟨_, rfl⟩
  rw [hg] at hr1
  have HGG := Lib.hid hg
  have hgw : w.heap.size < g := by omega
  have hgo : g < wo.heap.size := by omega
  have HRO := Lib.hid hr1
  clear hb1 hr1
  go_wp2_with fail
  refine (l20Ends_any g A l1 cap 0 14 _ HRO.out (by omega) (by omega) (by omega)).mono ?_
  clear hg
  rintro e w1 ⟨nn, s, A', c', ws, rfl, hrw, hA', hl10, hcc, hn0, hn7, hs0, hs1, hr1, hg1⟩
  have hg := HGG.out
  have hszo : wo.heap.size ≤ w1.heap.size := hg1.size
  have hsz1 : w.heap.size < w1.heap.size := by omega
  have hgl : g < w1.heap.size := by omega
  have hres : w1.heap[w.heap.size]? = some (.cells #[.int .i64 0, .slice none 0 0] 25 (0, 0)) := by
    rw [hg1.block _ (by omega) (by intro e; injection e; omega), HBL.out]
    exact heap_alloc_new w _
  have HBD := Lib.hid (below_of_only HB1.out hg1 (by omega))
  have HR1 := Lib.hid hr1
  have HRES := Lib.hid hres
  have HRW := Lib.hid hrw
  have a0 : w1.cell? ⟨w.heap.size, 0, none⟩ = some (.int .i64 0) := cell_of_row _ _ 0 _ _ (0, 0) HRES.out
  have hz1 : w1.heap.size ≠ w.heap.size := by omega
  clear hg1 hr1 hres hrw hg
  have hsi := idiff_bd s 1 hs0
  have HAN : Hid (bits .andNot .i64 s 1 = idiff s 1) := bits_andNot _ _ hs0 (by omega) (by omega) (by omega)
  obtain ⟨u, hu⟩ : ∃ u, idiff s 1 = u := ⟨_, rfl⟩
  rw [hu] at hsi HAN
  clear hu
  have han := HAN.out
  go_wp2_with fail
  refine wp_region_held_drew (S := (fun w' => w'.cell? ⟨w1.heap.size, 0, none⟩ = some (.int .i64 nn) ∧ w'.cell? ⟨w1.heap.size, 1, none⟩ = some (.slice A' ws.length c'))) (by kernel_rfl) ?_ (fun hHeld => ?_)
  · exact ⟨cell_of_row _ _ 0 _ _ (0, 0) (heap_alloc_new w1 _), cell_of_row _ _ 1 _ _ (0, 0) (heap_alloc_new w1 _)⟩
  refine wpAnyH_take (i := 0) (v := ?_) rfl (by kernel_rfl) (by kernel_rfl) (by kernel_rfl) (fun _ _ _ h => h) (Or.inl ⟨by rfl, ?_⟩) (by assumption) ?_
  rotate_left
  · (intro w hSw; (try dsimp only at hSw); (try simp only [List.getElem_toArray, List.getElem_cons_succ, List.getElem_cons_zero]); first | (go_simp; done) | (go_simp; with_reducible rfl))
  try simp only [Act.put, List.getElem_toArray, List.getElem_cons_succ, List.getElem_cons_zero, List.setIfInBounds_toArray, List.set_cons_zero, List.set_cons_succ]
  refine wpAnyH_take (i := 1) (v := ?_) rfl (by kernel_rfl) (by kernel_rfl) (by kernel_rfl) (fun _ _ _ h => h) (Or.inl ⟨by rfl, ?_⟩) (by assumption) ?_
  rotate_left
  · (intro w hSw; (try dsimp only at hSw); (try simp only [List.getElem_toArray, List.getElem_cons_succ, List.getElem_cons_zero]); first | (go_simp; done) | (go_simp; with_reducible rfl))
  try simp only [Act.put, List.getElem_toArray, List.getElem_cons_succ, List.getElem_cons_zero, List.setIfInBounds_toArray, List.set_cons_zero, List.set_cons_succ]
  refine wpAnyH_take (i := 2) (v := ?_) rfl (by kernel_rfl) (by kernel_rfl) (by kernel_rfl) (fun _ _ _ h => h) (Or.inl ⟨by rfl, ?_⟩) (by assumption) ?_
  rotate_left
  · (intro w hSw; (try dsimp only at hSw); (try simp only [List.getElem_toArray, List.getElem_cons_succ, List.getElem_cons_zero]); first | (go_simp; done) | (go_simp; with_reducible rfl))
  try simp only [Act.put, List.getElem_toArray, List.getElem_cons_succ, List.getElem_cons_zero, List.setIfInBounds_toArray, List.set_cons_zero, List.set_cons_succ]
  refine wpAnyH_take (i := 3) (v := ?_) rfl (by kernel_rfl) (by kernel_rfl) (by kernel_rfl) (fun _ _ _ h => h) (Or.inl ⟨by rfl, ?_⟩) (by assumption) ?_
  rotate_left
  · (intro w hSw; (try dsimp only at hSw); (try simp only [List.getElem_toArray, List.getElem_cons_succ, List.getElem_cons_zero]); first | (go_simp; done) | (go_simp; with_reducible rfl))
  try simp only [Act.put, List.getElem_toArray, List.getElem_cons_succ, List.getElem_cons_zero, List.setIfInBounds_toArray, List.set_cons_zero, List.set_cons_succ]
  refine wpAnyH_ready (rs := [4]) (by kernel_rfl) (by simp) ?_
  refine AllReadyH.cons rfl (fun K hK => ?_) AllReadyH.nil
  try simp only [List.getElem_toArray, List.getElem_cons_succ, List.getElem_cons_zero]
  go_simp
  go_at_call 52; (with_reducible refine (pickE g A l1 cap (0 + 50) 9 (w1.alloc (.cells #[.int .i64 nn, .slice A' ws.length c'] 25)).drew (HR1.out.below (by go_grown)) (by decide) (by decide)).mono ?_); rintro e w3 ⟨q1, rfl, hq10, hq11, hr2, hg2, hs2⟩; have hq12 := hq11 (by decide); have hk3 := set_a hg2 hgl; have hz3 : w1.heap.size < w3.heap.size := set_z hs2; have hr3' := set_p HRES.out hg2 hsz1 hgw; have hk5 := set_d (.int .i64 nn) (.slice A' ws.length c') hk3 hz1; have T := Lib.hid (two_cells (v0 := .int .i64 nn) (v1 := .slice A' ws.length c') hr3'); have z0 : w3.cell? ⟨w.heap.size, 0, none⟩ = some (.int .i64 0) := cell_of_row _ _ 0 _ _ (0, 0) hr3'; have z1 : w3.cell? ⟨w.heap.size, 1, none⟩ = some (.slice none 0 0) := cell_of_row _ _ 1 _ _ (0, 0) hr3'; have z2 := set_f 0 hr3'; have z3 := set_f 1 hr3'; clear hq11 hs2
  refine hK.out _ _ ?_ (fun hHeld => ?_)
  · exact hk3
  clear hK K
  try simp only [Act.put, List.getElem_toArray, List.getElem_cons_succ, List.getElem_cons_zero, List.setIfInBounds_toArray, List.set_cons_zero, List.set_cons_succ]
  refine wpAnyH_take (i := 5) (v := ?_) rfl (by kernel_rfl) (by kernel_rfl) (by kernel_rfl) (fun _ _ _ h => h) (Or.inl ⟨by rfl, ?_⟩) (by assumption) ?_
  rotate_left
  · (intro w hSw; (try dsimp only at hSw); (try simp only [List.getElem_toArray, List.getElem_cons_succ, List.getElem_cons_zero]); first | (go_simp; done) | (go_simp; with_reducible rfl))
  try simp only [Act.put, List.getElem_toArray, List.getElem_cons_succ, List.getElem_cons_zero, List.setIfInBounds_toArray, List.set_cons_zero, List.set_cons_succ]
  refine wpAnyH_take (i := 6) (v := ?_) rfl (by kernel_rfl) (by kernel_rfl) (by kernel_rfl) (fun _ _ _ h => h) (Or.inl ⟨by rfl, ?_⟩) (by assumption) ?_
  rotate_left
  · (intro w hSw; (try dsimp only at hSw); (try simp only [List.getElem_toArray, List.getElem_cons_succ, List.getElem_cons_zero]); first | (go_simp; done) | (go_simp; with_reducible rfl))
  try simp only [Act.put, List.getElem_toArray, List.getElem_cons_succ, List.getElem_cons_zero, List.setIfInBounds_toArray, List.set_cons_zero, List.set_cons_succ]
  refine wpAnyH_ready (rs := [7]) (by kernel_rfl) (by simp) ?_
  refine AllReadyH.cons rfl (fun K hK => ?_) AllReadyH.nil
  try simp only [List.getElem_toArray, List.getElem_cons_succ, List.getElem_cons_zero]
  go_simp
  
  refine hK.out _ _ ?_ (fun hHeld => ?_)
  · exact hk5
  clear hK K
  try simp only [Act.put, List.getElem_toArray, List.getElem_cons_succ, List.getElem_cons_zero, List.setIfInBounds_toArray, List.set_cons_zero, List.set_cons_succ]
  refine wpAnyH_take (i := 8) (v := ?_) rfl (by kernel_rfl) (by kernel_rfl) (by kernel_rfl) (fun _ _ _ h => h) (Or.inl ⟨by rfl, ?_⟩) (by assumption) ?_
  rotate_left
  · (intro w hSw; (try dsimp only at hSw); (try simp only [List.getElem_toArray, List.getElem_cons_succ, List.getElem_cons_zero]); first | (go_simp; done) | (go_simp; with_reducible rfl))
  try simp only [Act.put, List.getElem_toArray, List.getElem_cons_succ, List.getElem_cons_zero, List.setIfInBounds_toArray, List.set_cons_zero, List.set_cons_succ]
  refine wpAnyH_done (by kernel_rfl) ?_ _
  clear han
  obtain ⟨t, ht⟩ : ∃ t : Int, q1.tdiv 8 = t := ⟨_, rfl⟩
  have ht0 : 0 ≤ t ∧ t ≤ 1 := by rw [← ht, Int.tdiv_eq_ediv_of_nonneg hq10]; omega
  have e1 : IntKind.i64.wrap (q1.tdiv 8) = t := by rw [ht]; exact IntWalk.i64_in _ ⟨by omega, by omega⟩
  have e2 : bits .or .i64 u t = ior u t := bits_or _ _ hsi.1 (by omega) (by omega) (by omega)
  have hio : 0 ≤ ior u t ∧ ior u t < 2 ^ 11 := ior_bd u t 11 (by omega) (by omega)
  obtain ⟨z, hz⟩ : ∃ z, ior u t = z := ⟨_, rfl⟩
  rw [hz] at e2 hio
  have hrw4 : RW w3 w3.heap.size A' ws := by
    intro i x hx
    obtain ⟨b, o, ha, hB, g0, g1, g2⟩ := HRW.out i x hx
    have hbb := hA' _ ha
    simp at hbb
    have hk : w3.heap[b]? = w1.heap[b]? := by
      rw [hg2.block _ (by simp; omega) (by intro e; injection e; omega)]
      exact Below.heap_alloc _ _ _ hB
    exact ⟨b, o, ha, by omega, (World.cell?_of_block (w := w1) hk).trans g0, (World.cell?_of_block (w := w1) hk).trans g1, (World.cell?_of_block (w := w1) hk).trans g2⟩
  have HRW4 := Lib.hid hrw4
  have HG4 := Lib.hid (below_of_only (HBD.out.alloc (by omega) (.cells #[.int .i64 nn, .slice A' ws.length c'] 25)).drew hg2 (by omega))
  clear hrw4 hg2 hr2 hk3 hk5 hr3' ht hz
  go_wp2_with fail
  obtain ⟨t0, t1⟩ := T.out
  refine bodyPost_ret (v := .tuple #[.agg #[.int .i64 nn, .slice A' ws.length c'], .int .i64 z]) (by simp [results, Tryd.results23, go_sem, t0, t1, e1, e2]) rfl
    ⟨nn, z, A', c', ws, rfl, ?_, hl10, hcc, hn0, hn7, by omega, by omega, by have := HG4.out; go_grown⟩
  intro i x hx
  obtain ⟨b, o, ha, hB, g0, g1, g2⟩ := HRW4.out i x hx
  have hbb := hA' _ ha
  simp at hbb
  have hk : ((w3.setCell ⟨w.heap.size, 0, none⟩ (.int .i64 nn)).setCell ⟨w.heap.size, 1, none⟩ (.slice A' ws.length c')).heap[b]? = w3.heap[b]? := (Below.heap_setCell _ _ _ _ (by simp; omega)).trans (Below.heap_setCell _ _ _ _ (by simp; omega))
  exact ⟨b, o, ha, by simpa [World.setCell] using hB, (World.cell?_of_block (w := w3) hk).trans g0, (World.cell?_of_block (w := w3) hk).trans g1, (World.cell?_of_block (w := w3) hk).trans g2⟩
end Go.Proofs.YtfpaalmbllhmaaaDoor
