/- DrawReachOf: some net, some set, some place. -/
import Derived.Test.YtadhkfebokhbcabWJ
set_option linter.unusedSimpArgs false
set_option linter.unusedVariables false
attribute [local go_sem ↓] Go.wp_at_zero Go.wp_at_succ
namespace Go.Proofs.Ytadhkfebokhbcab
open Go.ChangeShapes Go.WideShapes Go.ChangeAt Go.RowKit

def DrawnPlace (w : World) (e : Ending) (w' : World) : Prop :=
  ∃ (nn s p : Int) (A' : Option Addr) (c' : Nat) (ws : List Wy), e = .returned (.tuple #[.agg #[.int .i64 nn, .slice A' ws.length c'], .int .i64 s, .int .i64 p]) ∧ RW w' w'.heap.size A' ws ∧ ws.length ≤ 10 ∧ ws.length ≤ c' ∧ 0 ≤ nn ∧ nn ≤ 7 ∧ 0 ≤ s ∧ s ≤ 2000 ∧ 0 ≤ p ∧ p ≤ 20 ∧ Below w.heap.size w w'

theorem set_c' {w1 w2 w3 : World} {g h : Nat} {o o' : Obj} (hr : w1.heap[h]? = some o) (hg2 : (w1.alloc o').drew.grownBy w2 (some g)) (hg3 : w2.grownBy w3 (some g)) (hl : h < w1.heap.size) (hg : h < g) (hz : w1.heap.size < w2.heap.size) : w3.heap[h]? = some o := by
  have hne : some h ≠ some g := by intro e; injection e; omega
  rw [hg3.block h (by omega) hne, hg2.block h (by simp; omega) hne]
  exact (Below.heap_alloc _ _ _ hl).trans hr

set_option maxHeartbeats 2000000 in
theorem DrawReachOf_any (A : Option Addr) (len cap : Nat) (w : World) (hr : RB w w.heap.size A len) (hc : len ≤ cap) (hl : len ≤ 1048576) :
    Calls Try.prog 9 #[.slice A len cap] w (DrawnPlace w) := by
  have HR := Lib.hid hr
  clear hr
  go_enter Try.func9, Try.ntmps9
  go_wp2_with fail
  refine (openE A len cap _ (fun i hi => ?_) hc hl).mono ?_
  · obtain ⟨b, o, v, ha, hB, h0, h1, h2⟩ := HR.out i hi
    exact ⟨b, o, v, ha, by simp; omega, h0, h1, (World.cell?_alloc_lt w _ _ hB).trans h2⟩
  rintro e wo ⟨l1, rfl, hr1, hb1⟩
  simp only [World.size_alloc] at hr1
  have hzo : w.heap.size + 1 < wo.heap.size := by have := hr1.lt; omega
  have HB1 := Lib.hid (bstep (B := w.heap.size) (W := w) (by go_grown) (by go_size) hb1)
  have HBL := Lib.hid (hb1.block w.heap.size (by simp))
  obtain ⟨g, hg⟩ : ∃ g, w.heap.size + 1 = g := ⟨_, rfl⟩
  rw [hg] at hr1
  have HGG := Lib.hid hg
  have hgw : w.heap.size < g := by omega
  have hgo : g < wo.heap.size := by omega
  have HRO := Lib.hid hr1
  clear hb1 hr1
  go_wp2_with fail
  refine (l20Set_any g A l1 cap 0 14 _ HRO.out (by omega) (by omega) (by omega)).mono ?_
  clear hg
  rintro e w1 ⟨nn, s, A', c', ws, rfl, hrw, hA', hl10, hcc, hn0, hn7, hs0, hs1, hr1, hg1⟩
  have hg := HGG.out
  have hszo : wo.heap.size ≤ w1.heap.size := hg1.size
  have hsz1 : w.heap.size < w1.heap.size := by omega
  have hgl : g < w1.heap.size := by omega
  have hres : w1.heap[w.heap.size]? = some (.cells #[.int .i64 0, .slice none 0 0] 25 (0, 0)) := by
    rw [hg1.block _ (by omega) (by intro e; injection e; omega), HBL.out]
    exact heap_alloc_new w _
  have HBD := Lib.hid (below_of_only HB1.out hg1 (by omega))
  have HR1 := Lib.hid hr1
  have HRES := Lib.hid hres
  have HRW := Lib.hid hrw
  have a0 : w1.cell? ⟨w.heap.size, 0, none⟩ = some (.int .i64 0) := cell_of_row _ _ 0 _ _ (0, 0) HRES.out
  have hz1 : w1.heap.size ≠ w.heap.size := by omega
  clear hg1 hr1 hres hrw hg
  by_cases hn1 : 1 ≤ nn
  · have HMX : Hid (1 ≤ (if nn < 1 then 1 else nn) ∧ (if nn < 1 then 1 else nn) ≤ 7) := by
      show 1 ≤ (if nn < 1 then 1 else nn) ∧ (if nn < 1 then 1 else nn) ≤ 7
      split <;> omega
    go_wp2_with fail
    go_region_held3 (fun w' => w'.cell? ⟨w1.heap.size, 0, none⟩ = some (.int .i64 nn) ∧ w'.cell? ⟨w1.heap.size, 1, none⟩ = some (.slice A' ws.length c'))
      (first | exact hk5 | exact hk3 | exact hk2 | exact ⟨cell_of_row _ _ 0 _ _ (0, 0) (heap_alloc_new w1 _), cell_of_row _ _ 1 _ _ (0, 0) (heap_alloc_new w1 _)⟩)
      (first
        | (go_at_call 35; (with_reducible refine (pickE g A l1 cap (0 + 50) _ (w1.alloc (.cells #[.int .i64 nn, .slice A' ws.length c'] 25)).drew (HR1.out.below (by go_grown)) (by omega) (by have := HMX.out.2; omega)).mono ?_); rintro e w2 ⟨q1, rfl, hq10, hq11, hr2, hg2, hs2⟩; have hq12 : q1 < 7 := Int.lt_of_lt_of_le (hq11 HMX.out.1) HMX.out.2; have hk2 := set_a hg2 hgl; have hz2 : w1.heap.size < w2.heap.size := set_z hs2; clear hq11 hs2)
        | (go_at_call 35; (with_reducible refine (pickE g A l1 cap (0 + 50 + 1) 40 w2 hr2 (by omega) (by omega)).mono ?_); rintro e w3 ⟨q2, rfl, hq20, hq21, hr3, hg3, hs3⟩; have hq22 := hq21 (by omega); have hk3 := set_b hk2 hg3 hgl; have hr3' := set_c' HRES.out hg2 hg3 hsz1 (by omega) hz2; have hk5 := set_d (.int .i64 nn) (.slice A' ws.length c') hk3 hz1; have hz3 : w1.heap.size < w3.heap.size := hs3 ▸ hz2; have T := Lib.hid (two_cells (v0 := .int .i64 nn) (v1 := .slice A' ws.length c') hr3'); have z0 : w3.cell? ⟨w.heap.size, 0, none⟩ = some (.int .i64 0) := cell_of_row _ _ 0 _ _ (0, 0) hr3'; have z1 : w3.cell? ⟨w.heap.size, 1, none⟩ = some (.slice none 0 0) := cell_of_row _ _ 1 _ _ (0, 0) hr3'; have z2 := set_f 0 hr3'; have z3 := set_f 1 hr3'; clear hq21 hs3))
    obtain ⟨t, ht⟩ : ∃ t : Int, q2.tdiv 39 = t := ⟨_, rfl⟩
    have ht0 : 0 ≤ t ∧ t ≤ 1 := by rw [← ht, Int.tdiv_eq_ediv_of_nonneg hq20]; omega
    have e1 : IntKind.i64.wrap (q2.tdiv 39) = t := by rw [ht]; exact IntWalk.i64_in _ ⟨by omega, by omega⟩
    have e2 : IntKind.i64.wrap (t * 7) = t * 7 := IntWalk.i64_in _ ⟨by omega, by omega⟩
    have e3 : IntKind.i64.wrap (q1 + t * 7) = q1 + t * 7 := IntWalk.i64_in _ ⟨by omega, by omega⟩
    have hrw3 : RW w3 w3.heap.size A' ws := by
      intro i x hx
      obtain ⟨b, o, ha, hB, g0, g1, g2⟩ := HRW.out i x hx
      have hbb := hA' _ ha
      simp at hbb
      have hk : w3.heap[b]? = w1.heap[b]? := by
        rw [hg3.block _ (by omega) (by intro e; injection e; omega), hg2.block _ (by simp; omega) (by intro e; injection e; omega)]
        exact Below.heap_alloc _ _ _ hB
      exact ⟨b, o, ha, by omega, (World.cell?_of_block (w := w1) hk).trans g0, (World.cell?_of_block (w := w1) hk).trans g1, (World.cell?_of_block (w := w1) hk).trans g2⟩
    have HRW3 := Lib.hid hrw3
    have HG3 := Lib.hid (below_of_only (below_of_only (HBD.out.alloc (by omega) (.cells #[.int .i64 nn, .slice A' ws.length c'] 25)).drew hg2 (by omega)) hg3 (by omega))
    clear hrw3 hr3 hg2 hg3 hr2 hk2 hk3 hk5 hr3' ht
    go_wp2_with fail
    obtain ⟨t0, t1⟩ := T.out
    refine bodyPost_ret (v := .tuple #[.agg #[.int .i64 nn, .slice A' ws.length c'], .int .i64 s, .int .i64 (q1 + t * 7)]) (by simp [results, Try.results9, go_sem, t0, t1, e1, e2, e3]) rfl
      ⟨nn, s, q1 + t * 7, A', c', ws, rfl, ?_, hl10, hcc, hn0, hn7, hs0, hs1, by omega, by omega, by have := HG3.out; go_grown⟩
    intro i x hx
    obtain ⟨b, o, ha, hB, g0, g1, g2⟩ := HRW3.out i x hx
    have hbb := hA' _ ha
    simp at hbb
    have hk : ((w3.setCell ⟨w.heap.size, 0, none⟩ (.int .i64 nn)).setCell ⟨w.heap.size, 1, none⟩ (.slice A' ws.length c')).heap[b]? = w3.heap[b]? := (Below.heap_setCell _ _ _ _ (by simp; omega)).trans (Below.heap_setCell _ _ _ _ (by simp; omega))
    exact ⟨b, o, ha, by simpa [World.setCell] using hB, (World.cell?_of_block (w := w3) hk).trans g0, (World.cell?_of_block (w := w3) hk).trans g1, (World.cell?_of_block (w := w3) hk).trans g2⟩
  · have HMX : Hid ((1 : Int) ≤ 1 ∧ (1 : Int) ≤ 7) := by
      show (1 : Int) ≤ 1 ∧ (1 : Int) ≤ 7
      omega
    go_wp2_with fail
    go_region_held3 (fun w' => w'.cell? ⟨w1.heap.size, 0, none⟩ = some (.int .i64 nn) ∧ w'.cell? ⟨w1.heap.size, 1, none⟩ = some (.slice A' ws.length c'))
      (first | exact hk5 | exact hk3 | exact hk2 | exact ⟨cell_of_row _ _ 0 _ _ (0, 0) (heap_alloc_new w1 _), cell_of_row _ _ 1 _ _ (0, 0) (heap_alloc_new w1 _)⟩)
      (first
        | (go_at_call 35; (with_reducible refine (pickE g A l1 cap (0 + 50) _ (w1.alloc (.cells #[.int .i64 nn, .slice A' ws.length c'] 25)).drew (HR1.out.below (by go_grown)) (by omega) (by have := HMX.out.2; omega)).mono ?_); rintro e w2 ⟨q1, rfl, hq10, hq11, hr2, hg2, hs2⟩; have hq12 : q1 < 7 := Int.lt_of_lt_of_le (hq11 HMX.out.1) HMX.out.2; have hk2 := set_a hg2 hgl; have hz2 : w1.heap.size < w2.heap.size := set_z hs2; clear hq11 hs2)
        | (go_at_call 35; (with_reducible refine (pickE g A l1 cap (0 + 50 + 1) 40 w2 hr2 (by omega) (by omega)).mono ?_); rintro e w3 ⟨q2, rfl, hq20, hq21, hr3, hg3, hs3⟩; have hq22 := hq21 (by omega); have hk3 := set_b hk2 hg3 hgl; have hr3' := set_c' HRES.out hg2 hg3 hsz1 (by omega) hz2; have hk5 := set_d (.int .i64 nn) (.slice A' ws.length c') hk3 hz1; have hz3 : w1.heap.size < w3.heap.size := hs3 ▸ hz2; have T := Lib.hid (two_cells (v0 := .int .i64 nn) (v1 := .slice A' ws.length c') hr3'); have z0 : w3.cell? ⟨w.heap.size, 0, none⟩ = some (.int .i64 0) := cell_of_row _ _ 0 _ _ (0, 0) hr3'; have z1 : w3.cell? ⟨w.heap.size, 1, none⟩ = some (.slice none 0 0) := cell_of_row _ _ 1 _ _ (0, 0) hr3'; have z2 := set_f 0 hr3'; have z3 := set_f 1 hr3'; clear hq21 hs3))
    obtain ⟨t, ht⟩ : ∃ t : Int, q2.tdiv 39 = t := ⟨_, rfl⟩
    have ht0 : 0 ≤ t ∧ t ≤ 1 := by rw [← ht, Int.tdiv_eq_ediv_of_nonneg hq20]; omega
    have e1 : IntKind.i64.wrap (q2.tdiv 39) = t := by rw [ht]; exact IntWalk.i64_in _ ⟨by omega, by omega⟩
    have e2 : IntKind.i64.wrap (t * 7) = t * 7 := IntWalk.i64_in _ ⟨by omega, by omega⟩
    have e3 : IntKind.i64.wrap (q1 + t * 7) = q1 + t * 7 := IntWalk.i64_in _ ⟨by omega, by omega⟩
    have hrw3 : RW w3 w3.heap.size A' ws := by
      intro i x hx
      obtain ⟨b, o, ha, hB, g0, g1, g2⟩ := HRW.out i x hx
      have hbb := hA' _ ha
      simp at hbb
      have hk : w3.heap[b]? = w1.heap[b]? := by
        rw [hg3.block _ (by omega) (by intro e; injection e; omega), hg2.block _ (by simp; omega) (by intro e; injection e; omega)]
        exact Below.heap_alloc _ _ _ hB
      exact ⟨b, o, ha, by omega, (World.cell?_of_block (w := w1) hk).trans g0, (World.cell?_of_block (w := w1) hk).trans g1, (World.cell?_of_block (w := w1) hk).trans g2⟩
    have HRW3 := Lib.hid hrw3
    have HG3 := Lib.hid (below_of_only (below_of_only (HBD.out.alloc (by omega) (.cells #[.int .i64 nn, .slice A' ws.length c'] 25)).drew hg2 (by omega)) hg3 (by omega))
    clear hrw3 hr3 hg2 hg3 hr2 hk2 hk3 hk5 hr3' ht
    go_wp2_with fail
    obtain ⟨t0, t1⟩ := T.out
    refine bodyPost_ret (v := .tuple #[.agg #[.int .i64 nn, .slice A' ws.length c'], .int .i64 s, .int .i64 (q1 + t * 7)]) (by simp [results, Try.results9, go_sem, t0, t1, e1, e2, e3]) rfl
      ⟨nn, s, q1 + t * 7, A', c', ws, rfl, ?_, hl10, hcc, hn0, hn7, hs0, hs1, by omega, by omega, by have := HG3.out; go_grown⟩
    intro i x hx
    obtain ⟨b, o, ha, hB, g0, g1, g2⟩ := HRW3.out i x hx
    have hbb := hA' _ ha
    simp at hbb
    have hk : ((w3.setCell ⟨w.heap.size, 0, none⟩ (.int .i64 nn)).setCell ⟨w.heap.size, 1, none⟩ (.slice A' ws.length c')).heap[b]? = w3.heap[b]? := (Below.heap_setCell _ _ _ _ (by simp; omega)).trans (Below.heap_setCell _ _ _ _ (by simp; omega))
    exact ⟨b, o, ha, by simpa [World.setCell] using hB, (World.cell?_of_block (w := w3) hk).trans g0, (World.cell?_of_block (w := w3) hk).trans g1, (World.cell?_of_block (w := w3) hk).trans g2⟩
end Go.Proofs.Ytadhkfebokhbcab
