/- DrawFewestEnds: some net, some number. -/
import Derived.Test.YthadehgpeafniaaWM
set_option linter.unusedSimpArgs false
set_option linter.unusedVariables false
attribute [local go_sem ↓] Go.wp_at_zero Go.wp_at_succ
namespace Go.Proofs.Ythadehgpeafniaa
open Go.ChangeShapes Go.WideShapes Go.ChangeAt Go.RowKit

def DrawnFar (w : World) (e : Ending) (w' : World) : Prop :=
  ∃ (nn a : Int) (A' : Option Addr) (c' : Nat) (ws : List Wy), e = .returned (.tuple #[.agg #[.int .i64 nn, .slice A' ws.length c'], .int .i64 a]) ∧ RW w' w'.heap.size A' ws ∧ ws.length ≤ 10 ∧ ws.length ≤ c' ∧ 0 ≤ nn ∧ nn ≤ 7 ∧ -20 ≤ a ∧ a ≤ 20 ∧ Below w.heap.size w w'
set_option maxRecDepth 100000 in
set_option maxHeartbeats 3000000 in
theorem DrawFewestEnds_any (A : Option Addr) (len cap : Nat) (w : World) (hr : RB w w.heap.size A len) (hc : len ≤ cap) (hl : len ≤ 1048576) :
    Calls Try.prog 23 #[.slice A len cap] w (DrawnFar w) := by
  have HR := Lib.hid hr
  clear hr
  go_enter Try.func23, Try.ntmps23
  go_wp2_with fail
  refine (openE A len cap _ (fun i hi => ?_) hc hl).mono ?_
  · obtain ⟨b, o, v, ha, hB, h0, h1, h2⟩ := HR.out i hi
    exact ⟨b, o, v, ha, by simp; omega, h0, h1, (World.cell?_alloc_lt w _ _ hB).trans h2⟩
  rintro e wo ⟨l1, rfl, hr1, hb1⟩
  simp only [World.size_alloc] at hr1
  have hzo : w.heap.size + 1 < wo.heap.size := by have := hr1.lt; omega
  have HB1 := Lib.hid (bstep (B := w.heap.size) (W := w) (by go_grown) (by go_size) hb1)
  have HBL := Lib.hid (hb1.block w.heap.size (by simp))
  obtain ⟨g, hg⟩ : ∃ g, w.heap.size + 1 = g := ⟨_, rfl⟩
  rw [hg] at hr1
  have HGG := Lib.hid hg
  have hgw : w.heap.size < g := by omega
  have hgo : g < wo.heap.size := by omega
  have HRO := Lib.hid hr1
  clear hb1 hr1
  go_wp2_with fail
  refine (l20Net_any g A l1 cap 0 12 _ HRO.out (by omega) (by omega) (by omega)).mono ?_
  clear hg
  rintro e w1 ⟨nn, A', c', ws, rfl, hrw, hA', hl10, hcc, hn0, hn7, hr1, hg1⟩
  have hg := HGG.out
  have hszo : wo.heap.size ≤ w1.heap.size := hg1.size
  have hsz1 : w.heap.size < w1.heap.size := by omega
  have hgl : g < w1.heap.size := by omega
  have hres : w1.heap[w.heap.size]? = some (.cells #[.int .i64 0, .slice none 0 0] 25 (0, 0)) := by
    rw [hg1.block _ (by omega) (by intro e; injection e; omega), HBL.out]
    exact heap_alloc_new w _
  have HBD := Lib.hid (below_of_only HB1.out hg1 (by omega))
  have HR1 := Lib.hid hr1
  have HRES := Lib.hid hres
  have HRW := Lib.hid hrw
  clear hg1 hr1 hres hrw hg
  go_wp2_with fail
  refine (pickE g A l1 cap (0 + 40) 14 w1 HR1.out (by decide) (by decide)).mono ?_; rintro e w2 ⟨q1, rfl, hq10, hq11, hr_w2, hg_w2, hs_w2⟩
  have hq12 := hq11 (by decide)
  have HRB2 := Lib.hid hr_w2
  clear hr_w2
  go_wp2_with fail
  refine (pickE g A l1 cap (0 + 40 + 1) 40 w2 HRB2.out (by decide) (by decide)).mono ?_; rintro e w3 ⟨q2, rfl, hq20, hq21, hr_w3, hg_w3, hs_w3⟩
  have hq22 := hq21 (by decide)
  obtain ⟨t, ht⟩ : ∃ t : Int, q2.tdiv 39 = t := ⟨_, rfl⟩
  have ht0 : 0 ≤ t ∧ t ≤ 1 := by rw [← ht, Int.tdiv_eq_ediv_of_nonneg hq20]; omega
  have e1 : IntKind.i64.wrap (q2.tdiv 39) = t := by rw [ht]; exact IntWalk.i64_in _ ⟨by omega, by omega⟩
  have e2 : IntKind.i64.wrap (t * 20) = t * 20 := IntWalk.i64_in _ ⟨by omega, by omega⟩
  have e3 : IntKind.i64.wrap (q1 - t * 20) = q1 - t * 20 := IntWalk.i64_in _ ⟨by omega, by omega⟩
  have e4 : wrap64 (t * 20) = t * 20 := IntWalk.wrap64_in _ ⟨by omega, by omega⟩
  have e5 : wrap64 (q1 - t * 20) = q1 - t * 20 := IntWalk.wrap64_in _ ⟨by omega, by omega⟩
  have hs2 : w1.heap.size ≤ w2.heap.size := hg_w2.size
  have hs3 : w2.heap.size ≤ w3.heap.size := hg_w3.size
  have hk2 : ∀ b, b < w1.heap.size → b ≠ g → w3.heap[b]? = w1.heap[b]? := fun b hb hne => by
    rw [hg_w3.block _ (by omega) (by intro e; injection e; omega), hg_w2.block _ (by omega) (by intro e; injection e; omega)]
  have hres3 : w3.heap[w.heap.size]? = some (.cells #[.int .i64 0, .slice none 0 0] 25 (0, 0)) := by rw [hk2 _ hsz1 (by omega)]; exact HRES.out
  have HRW3 : Hid (∀ (i : Nat) (x : Wy), ws[i]? = some x → ∃ b o, A' = some ⟨b, o, none⟩ ∧ b ≠ w.heap.size ∧ b < w3.heap.size ∧ w3.cell? ⟨b, o + i * 3, none⟩ = some (.int .i64 x.a) ∧ w3.cell? ⟨b, o + i * 3 + 1, none⟩ = some (.int .i64 x.b) ∧ w3.cell? ⟨b, o + i * 3 + 2, none⟩ = some (.int .i64 x.c)) := fun i x hx => by
    obtain ⟨b, o, ha, hB, g0, g1, g2⟩ := HRW.out i x hx
    have hbb := hA' _ ha
    simp at hbb
    have hk := hk2 b hB (by omega)
    exact ⟨b, o, ha, by omega, by omega, (World.cell?_of_block (w := w1) hk).trans g0, (World.cell?_of_block (w := w1) hk).trans g1, (World.cell?_of_block (w := w1) hk).trans g2⟩
  have HG3 := Lib.hid (below_of_only (below_of_only HBD.out hg_w2 (by omega)) hg_w3 (by omega))
  have f0 : w3.frozen? ⟨w.heap.size, 0, none⟩ = false := by simp [World.frozen?, hres3]
  have f1 : w3.frozen? ⟨w.heap.size, 1, none⟩ = false := by simp [World.frozen?, hres3]
  have k0 : w3.cell? ⟨w.heap.size, 0, none⟩ = some (.int .i64 0) := cell_of_row _ _ 0 _ _ (0, 0) hres3
  have k1 : w3.cell? ⟨w.heap.size, 1, none⟩ = some (.slice none 0 0) := cell_of_row _ _ 1 _ _ (0, 0) hres3
  have T := Lib.hid (two_cells (v0 := .int .i64 nn) (v1 := .slice A' ws.length c') hres3)
  clear hr_w3 hg_w2 hg_w3 hk2 hres3 ht
  go_wp2_with fail
  obtain ⟨t0, t1⟩ := T.out
  refine bodyPost_ret (v := .tuple #[.agg #[.int .i64 nn, .slice A' ws.length c'], .int .i64 (q1 - t * 20)]) (by simp [results, Try.results23, go_sem, t0, t1, e1, e2, e3]) rfl
    ⟨nn, q1 - t * 20, A', c', ws, rfl, ?_, hl10, hcc, hn0, hn7, by omega, by omega, (HG3.out.setCell (p := ⟨w.heap.size, 0, none⟩) (Nat.le_refl _) _).setCell (p := ⟨w.heap.size, 1, none⟩) (Nat.le_refl _) _⟩
  intro i x hx
  obtain ⟨b, o, ha, hne, hB, g0, g1, g2⟩ := HRW3.out i x hx
  have hk : ((w3.setCell ⟨w.heap.size, 0, none⟩ (.int .i64 nn)).setCell ⟨w.heap.size, 1, none⟩ (.slice A' ws.length c')).heap[b]? = w3.heap[b]? := by
    simp [World.setCell, Array.getElem?_modify, Ne.symm hne]
  exact ⟨b, o, ha, by simpa [World.setCell] using hB, (World.cell?_of_block (w := w3) hk).trans g0, (World.cell?_of_block (w := w3) hk).trans g1, (World.cell?_of_block (w := w3) hk).trans g2⟩
end Go.Proofs.Ythadehgpeafniaa
