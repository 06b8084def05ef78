/- DrawPathCuts: some net, two numbers. -/
import Derived.Test.YtiioojjjpabaeaaWQ
import Derived.Test.YtiioojjjpabaeaaWX
set_option linter.unusedSimpArgs false
set_option linter.unusedVariables false
attribute [local go_sem ↓] Go.wp_at_zero Go.wp_at_succ
namespace Go.Proofs.Ytiioojjjpabaeaa
open Go.ChangeShapes Go.WideShapes Go.ChangeAt Go.RowKit
theorem not_pair {w : World} {b j : Nat} {t : TypeId} (hres : w.heap[b]? = some (.cells #[.int .i64 0, .slice none 0 0] t (0, 0))) {x y : Int} (h0 : w.cell? ⟨b, j, none⟩ = some (.int .i64 x)) (h1 : w.cell? ⟨b, j + 1, none⟩ = some (.int .i64 y)) : False := by
  rw [cell_of_row _ _ _ _ _ (0, 0) hres] at h0 h1
  match j with
  | 0 => simp at h1
  | j + 1 => simp at h1
set_option maxHeartbeats 1000000 in
theorem DrawPathCuts_any (A : Option Addr) (len cap : Nat) (w : World) (hr : RB w w.heap.size A len) (hc : len ≤ cap) (hl : len ≤ 1048576) :
    Calls Try.prog 21 #[.slice A len cap] w (DrawnTwo w) := by
  have HR := Lib.hid hr
  clear hr
  go_enter Try.func21, Try.ntmps21
  go_wp2_with fail
  refine (DrawPathOf_any A len cap _ (fun i hi => ?_) hc hl).mono ?_
  · obtain ⟨b, o, v, ha, hB, h0, h1, h2⟩ := HR.out i hi
    exact ⟨b, o, v, ha, by simp; omega, h0, h1, (World.cell?_alloc_lt w _ _ hB).trans h2⟩
  rintro e w1 ⟨nn, a, b, A', c', ws, rfl, hrw, h10, hcc, hn0, hn7, ha0, ha1, hb0, hb1, hb⟩
  have hz1 : w.heap.size < w1.heap.size := by have hq := hb.size; simp at hq; omega
  have hres : w1.heap[w.heap.size]? = some (.cells #[.int .i64 0, .slice none 0 0] 25 (0, 0)) := by
    rw [hb.block _ (by simp)]
    exact heap_alloc_new w _
  have c0 : w1.cell? ⟨w.heap.size, 0, none⟩ = some (.int .i64 0) := cell_of_row _ _ 0 _ _ (0, 0) hres
  have c1 : w1.cell? ⟨w.heap.size, 1, none⟩ = some (.slice none 0 0) := cell_of_row _ _ 1 _ _ (0, 0) hres
  have f0 : w1.frozen? ⟨w.heap.size, 0, none⟩ = false := by simp [World.frozen?, hres]
  have f1 : w1.frozen? ⟨w.heap.size, 1, none⟩ = false := by simp [World.frozen?, hres]
  have T := Lib.hid (two_cells (v0 := .int .i64 nn) (v1 := .slice A' ws.length c') hres)
  have HB1 := Lib.hid (bstep (B := w.heap.size) (W := w) (by go_grown) (by go_size) hb)
  have HRW := Lib.hid hrw
  have HRES := Lib.hid hres
  clear hb hrw hres
  go_wp2_with fail
  obtain ⟨t0, t1⟩ := T.out
  refine bodyPost_ret (v := .tuple #[.agg #[.int .i64 nn, .slice A' ws.length c'], .int .i64 a, .int .i64 b]) (by simp [results, Try.results21, go_sem, t0, t1]) rfl ?_
  refine ⟨nn, a, b, A', c', ws, rfl, fun i x hx => ?_, h10, hcc, hn0, hn7, ha0, ha1, hb0, hb1, by have := HB1.out; go_grown⟩
  obtain ⟨b, o, ha, hB, g0, g1, g2⟩ := HRW.out i x hx
  have hne : b ≠ w.heap.size := fun e => by subst e; exact not_pair HRES.out g0 g1
  have hk : ((w1.setCell ⟨w.heap.size, 0, none⟩ (.int .i64 nn)).setCell ⟨w.heap.size, 1, none⟩ (.slice A' ws.length c')).heap[b]? = w1.heap[b]? := (Below.heap_setCell _ _ _ _ (by simpa using hne)).trans (Below.heap_setCell _ _ _ _ (by simpa using hne))
  exact ⟨b, o, ha, by simpa [World.setCell] using hB, (World.cell?_of_block (w := w1) hk).trans g0, (World.cell?_of_block (w := w1) hk).trans g1, (World.cell?_of_block (w := w1) hk).trans g2⟩
end Go.Proofs.Ytiioojjjpabaeaa
