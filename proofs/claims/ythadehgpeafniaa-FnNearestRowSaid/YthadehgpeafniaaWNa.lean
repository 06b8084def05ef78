/- Drawn nets, nets with ends and nets with sets (stage 13). -/
import Derived.Test.YthadehgpeafniaaWX
import Derived.Test.YthadehgpeafniaaWI
import Derived.Test.YthadehgpeafniaaWH
import Derived.Test.YthadehgpeafniaaWJ
set_option linter.unusedSimpArgs false
set_option linter.unusedVariables false
attribute [local go_sem ↓] Go.wp_at_zero Go.wp_at_succ
namespace Go.Proofs.Ythadehgpeafniaa
open Go.ChangeShapes Go.WideShapes Go.ChangeAt Go.RowKit
set_option maxHeartbeats 400000 in
theorem DrawNearestRow_any (A : Option Addr) (len cap : Nat) (w : World) (hr : RB w w.heap.size A len) (hc : len ≤ cap) (hl : len ≤ 1048576) :
    Calls Try.prog 15 #[.slice A len cap] w (DrawnSet w) := by
  have HR := Lib.hid hr
  clear hr
  go_enter Try.func15, Try.ntmps15
  go_wp2_with fail
  refine (openE A len cap _ (fun i hi => ?_) hc hl).mono ?_
  · obtain ⟨b, o, v, ha, hB, h0, h1, h2⟩ := HR.out i hi
    exact ⟨b, o, v, ha, by simp; omega, h0, h1, (World.cell?_alloc_lt w _ _ hB).trans h2⟩
  rintro e w1 ⟨l1, rfl, hr1, hb1⟩
  simp only [World.size_alloc] at hr1
  have hz1 : w.heap.size < w1.heap.size := by have hq := hb1.size; simp at hq; omega
  obtain ⟨hc1, hf1⟩ := bcell hb1
  have HB1 := Lib.hid (bstep (B := w.heap.size) (W := w) (by go_grown) (by go_size) hb1)
  have HBL := Lib.hid (hb1.block w.heap.size (by simp))
  clear hb1
  go_wp2_with fail
  refine (l20Ends_any _ A l1 cap 0 _ _ hr1 (by omega) (by omega) (by omega)).mono ?_
  rintro e w2 ⟨nn, s, A', c', ws, rfl, hrw, hA', hl10, hcc, hn0, hn7, hs0, hs1, hr2, hg2⟩
  have hres : w2.heap[w.heap.size]? = some (.cells #[.int .i64 0, .slice none 0 0] 25 (0, 0)) := by
    rw [hg2.block _ hz1 (by intro e; injection e; omega), HBL.out]
    exact heap_alloc_new w _
  have c0 : w2.cell? ⟨w.heap.size, 0, none⟩ = some (.int .i64 0) := cell_of_row _ _ 0 _ _ (0, 0) hres
  have c1 : w2.cell? ⟨w.heap.size, 1, none⟩ = some (.slice none 0 0) := cell_of_row _ _ 1 _ _ (0, 0) hres
  have f0 : w2.frozen? ⟨w.heap.size, 0, none⟩ = false := by simp [World.frozen?, hres]
  have f1 : w2.frozen? ⟨w.heap.size, 1, none⟩ = false := by simp [World.frozen?, hres]
  have T := Lib.hid (two_cells (v0 := .int .i64 nn) (v1 := .slice A' ws.length c') hres)
  have HB2 := Lib.hid (below_of_only HB1.out hg2 (by omega))
  have HRW := Lib.hid hrw
  clear hrw hr2 hg2 hr1 hc1 hf1 hres
  go_wp2_with fail
  obtain ⟨t0, t1⟩ := T.out
  refine bodyPost_ret (v := .tuple #[.agg #[.int .i64 nn, .slice A' ws.length c'], .int .i64 s]) (by simp [results, Try.results15, go_sem, t0, t1]) rfl ⟨nn, s, A', c', ws, rfl, ?_, hl10, hcc, hn0, hn7, hs0, hs1, by have := HB2.out; go_grown⟩
  intro i x hx
  obtain ⟨b, o, ha, hB, g0, g1, g2⟩ := HRW.out i x hx
  have hne : b ≠ w.heap.size := by have := hA' _ ha; simp at this; omega
  have hk : ((w2.setCell ⟨w.heap.size, 0, none⟩ (.int .i64 nn)).setCell ⟨w.heap.size, 1, none⟩ (.slice A' ws.length c')).heap[b]? = w2.heap[b]? := (Below.heap_setCell _ _ _ _ hne).trans (Below.heap_setCell _ _ _ _ hne)
  exact ⟨b, o, ha, by simpa [World.setCell] using hB, (World.cell?_of_block (w := w2) hk).trans g0, (World.cell?_of_block (w := w2) hk).trans g1, (World.cell?_of_block (w := w2) hk).trans g2⟩
set_option maxHeartbeats 400000 in
theorem DrawCoverCost_any (A : Option Addr) (len cap : Nat) (w : World) (hr : RB w w.heap.size A len) (hc : len ≤ cap) (hl : len ≤ 1048576) :
    Calls Try.prog 20 #[.slice A len cap] w (DrawnSet w) := by
  have HR := Lib.hid hr
  clear hr
  go_enter Try.func20, Try.ntmps20
  go_wp2_with fail
  refine (openE A len cap _ (fun i hi => ?_) hc hl).mono ?_
  · obtain ⟨b, o, v, ha, hB, h0, h1, h2⟩ := HR.out i hi
    exact ⟨b, o, v, ha, by simp; omega, h0, h1, (World.cell?_alloc_lt w _ _ hB).trans h2⟩
  rintro e w1 ⟨l1, rfl, hr1, hb1⟩
  simp only [World.size_alloc] at hr1
  have hz1 : w.heap.size < w1.heap.size := by have hq := hb1.size; simp at hq; omega
  obtain ⟨hc1, hf1⟩ := bcell hb1
  have HB1 := Lib.hid (bstep (B := w.heap.size) (W := w) (by go_grown) (by go_size) hb1)
  have HBL := Lib.hid (hb1.block w.heap.size (by simp))
  clear hb1
  go_wp2_with fail
  refine (l20Ends_any _ A l1 cap 0 _ _ hr1 (by omega) (by omega) (by omega)).mono ?_
  rintro e w2 ⟨nn, s, A', c', ws, rfl, hrw, hA', hl10, hcc, hn0, hn7, hs0, hs1, hr2, hg2⟩
  have hres : w2.heap[w.heap.size]? = some (.cells #[.int .i64 0, .slice none 0 0] 25 (0, 0)) := by
    rw [hg2.block _ hz1 (by intro e; injection e; omega), HBL.out]
    exact heap_alloc_new w _
  have c0 : w2.cell? ⟨w.heap.size, 0, none⟩ = some (.int .i64 0) := cell_of_row _ _ 0 _ _ (0, 0) hres
  have c1 : w2.cell? ⟨w.heap.size, 1, none⟩ = some (.slice none 0 0) := cell_of_row _ _ 1 _ _ (0, 0) hres
  have f0 : w2.frozen? ⟨w.heap.size, 0, none⟩ = false := by simp [World.frozen?, hres]
  have f1 : w2.frozen? ⟨w.heap.size, 1, none⟩ = false := by simp [World.frozen?, hres]
  have T := Lib.hid (two_cells (v0 := .int .i64 nn) (v1 := .slice A' ws.length c') hres)
  have HB2 := Lib.hid (below_of_only HB1.out hg2 (by omega))
  have HRW := Lib.hid hrw
  clear hrw hr2 hg2 hr1 hc1 hf1 hres
  go_wp2_with fail
  obtain ⟨t0, t1⟩ := T.out
  refine bodyPost_ret (v := .tuple #[.agg #[.int .i64 nn, .slice A' ws.length c'], .int .i64 s]) (by simp [results, Try.results20, go_sem, t0, t1]) rfl ⟨nn, s, A', c', ws, rfl, ?_, hl10, hcc, hn0, hn7, hs0, hs1, by have := HB2.out; go_grown⟩
  intro i x hx
  obtain ⟨b, o, ha, hB, g0, g1, g2⟩ := HRW.out i x hx
  have hne : b ≠ w.heap.size := by have := hA' _ ha; simp at this; omega
  have hk : ((w2.setCell ⟨w.heap.size, 0, none⟩ (.int .i64 nn)).setCell ⟨w.heap.size, 1, none⟩ (.slice A' ws.length c')).heap[b]? = w2.heap[b]? := (Below.heap_setCell _ _ _ _ hne).trans (Below.heap_setCell _ _ _ _ hne)
  exact ⟨b, o, ha, by simpa [World.setCell] using hB, (World.cell?_of_block (w := w2) hk).trans g0, (World.cell?_of_block (w := w2) hk).trans g1, (World.cell?_of_block (w := w2) hk).trans g2⟩
set_option maxHeartbeats 400000 in
theorem DrawDearestOf_any (A : Option Addr) (len cap : Nat) (w : World) (hr : RB w w.heap.size A len) (hc : len ≤ cap) (hl : len ≤ 1048576) :
    Calls Try.prog 10 #[.slice A len cap] w (DrawnSet w) := by
  have HR := Lib.hid hr
  clear hr
  go_enter Try.func10, Try.ntmps10
  go_wp2_with fail
  refine (openE A len cap _ (fun i hi => ?_) hc hl).mono ?_
  · obtain ⟨b, o, v, ha, hB, h0, h1, h2⟩ := HR.out i hi
    exact ⟨b, o, v, ha, by simp; omega, h0, h1, (World.cell?_alloc_lt w _ _ hB).trans h2⟩
  rintro e w1 ⟨l1, rfl, hr1, hb1⟩
  simp only [World.size_alloc] at hr1
  have hz1 : w.heap.size < w1.heap.size := by have hq := hb1.size; simp at hq; omega
  obtain ⟨hc1, hf1⟩ := bcell hb1
  have HB1 := Lib.hid (bstep (B := w.heap.size) (W := w) (by go_grown) (by go_size) hb1)
  have HBL := Lib.hid (hb1.block w.heap.size (by simp))
  clear hb1
  go_wp2_with fail
  refine (l20Set_any _ A l1 cap 0 _ _ hr1 (by omega) (by omega) (by omega)).mono ?_
  rintro e w2 ⟨nn, s, A', c', ws, rfl, hrw, hA', hl10, hcc, hn0, hn7, hs0, hs1, hr2, hg2⟩
  have hres : w2.heap[w.heap.size]? = some (.cells #[.int .i64 0, .slice none 0 0] 25 (0, 0)) := by
    rw [hg2.block _ hz1 (by intro e; injection e; omega), HBL.out]
    exact heap_alloc_new w _
  have c0 : w2.cell? ⟨w.heap.size, 0, none⟩ = some (.int .i64 0) := cell_of_row _ _ 0 _ _ (0, 0) hres
  have c1 : w2.cell? ⟨w.heap.size, 1, none⟩ = some (.slice none 0 0) := cell_of_row _ _ 1 _ _ (0, 0) hres
  have f0 : w2.frozen? ⟨w.heap.size, 0, none⟩ = false := by simp [World.frozen?, hres]
  have f1 : w2.frozen? ⟨w.heap.size, 1, none⟩ = false := by simp [World.frozen?, hres]
  have T := Lib.hid (two_cells (v0 := .int .i64 nn) (v1 := .slice A' ws.length c') hres)
  have HB2 := Lib.hid (below_of_only HB1.out hg2 (by omega))
  have HRW := Lib.hid hrw
  clear hrw hr2 hg2 hr1 hc1 hf1 hres
  go_wp2_with fail
  obtain ⟨t0, t1⟩ := T.out
  refine bodyPost_ret (v := .tuple #[.agg #[.int .i64 nn, .slice A' ws.length c'], .int .i64 s]) (by simp [results, Try.results10, go_sem, t0, t1]) rfl ⟨nn, s, A', c', ws, rfl, ?_, hl10, hcc, hn0, hn7, hs0, hs1, by have := HB2.out; go_grown⟩
  intro i x hx
  obtain ⟨b, o, ha, hB, g0, g1, g2⟩ := HRW.out i x hx
  have hne : b ≠ w.heap.size := by have := hA' _ ha; simp at this; omega
  have hk : ((w2.setCell ⟨w.heap.size, 0, none⟩ (.int .i64 nn)).setCell ⟨w.heap.size, 1, none⟩ (.slice A' ws.length c')).heap[b]? = w2.heap[b]? := (Below.heap_setCell _ _ _ _ hne).trans (Below.heap_setCell _ _ _ _ hne)
  exact ⟨b, o, ha, by simpa [World.setCell] using hB, (World.cell?_of_block (w := w2) hk).trans g0, (World.cell?_of_block (w := w2) hk).trans g1, (World.cell?_of_block (w := w2) hk).trans g2⟩
end Go.Proofs.Ythadehgpeafniaa
