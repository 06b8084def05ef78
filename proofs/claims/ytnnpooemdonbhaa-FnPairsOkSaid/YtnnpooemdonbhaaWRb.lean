/- The draws of chapter 9. -/
import Derived.Test.YtnnpooemdonbhaaWRa
import Derived.Test.YtnnpooemdonbhaaWP
import Derived.Test.YtnnpooemdonbhaaWM
set_option linter.unusedSimpArgs false
set_option linter.unusedVariables false
attribute [local go_sem ↓] Go.wp_at_zero Go.wp_at_succ
namespace Go.Proofs.Ytnnpooemdonbhaa
open Go.ChangeShapes Go.WideShapes Go.ChangeAt Go.RowKit

/-- some net, some pairs -/
def DrawnPq (w : World) (e : Ending) (w' : World) : Prop :=
  ∃ (nn : Int) (A' : Option Addr) (c' : Nat) (ws : List Wy) (bc cc : Nat) (pz : List (Int × Int)), e = .returned (.tuple #[.agg #[.int .i64 nn, .slice A' ws.length c'], .slice (some ⟨bc, 0, none⟩) pz.length cc]) ∧ RW w' w'.heap.size A' ws ∧ ws.length ≤ 10 ∧ ws.length ≤ c' ∧ 0 ≤ nn ∧ nn ≤ 7 ∧ RC w' w'.heap.size (some ⟨bc, 0, none⟩) pz ∧ pz.length ≤ 8 ∧ pz.length ≤ cc ∧ Below w.heap.size w w'
/-- some net, some pairs, some number -/
def DrawnPqN (w : World) (e : Ending) (w' : World) : Prop :=
  ∃ (nn s : Int) (A' : Option Addr) (c' : Nat) (ws : List Wy) (bc cc : Nat) (pz : List (Int × Int)), e = .returned (.tuple #[.agg #[.int .i64 nn, .slice A' ws.length c'], .slice (some ⟨bc, 0, none⟩) pz.length cc, .int .i64 s]) ∧ RW w' w'.heap.size A' ws ∧ ws.length ≤ 10 ∧ ws.length ≤ c' ∧ 0 ≤ nn ∧ nn ≤ 7 ∧ 0 ≤ s ∧ s ≤ 4000 ∧ RC w' w'.heap.size (some ⟨bc, 0, none⟩) pz ∧ pz.length ≤ 8 ∧ pz.length ≤ cc ∧ Below w.heap.size w w'
theorem pq_stays {W : World} {h : Nat} {A' : Option Addr} {ws : List Wy} {bc : Nat} {pz : List (Int × Int)} {B : Nat} (hrw : RW W B A' ws) (hri : RC W B (some ⟨bc, 0, none⟩) pz) (hA : ∀ ad, A' = some ad → h < ad.block) (hb : h < bc) (hB : B ≤ W.heap.size) (x y : Value) :
    RW ((W.setCell ⟨h, 0, none⟩ x).setCell ⟨h, 1, none⟩ y) ((W.setCell ⟨h, 0, none⟩ x).setCell ⟨h, 1, none⟩ y).heap.size A' ws ∧ RC ((W.setCell ⟨h, 0, none⟩ x).setCell ⟨h, 1, none⟩ y) ((W.setCell ⟨h, 0, none⟩ x).setCell ⟨h, 1, none⟩ y).heap.size (some ⟨bc, 0, none⟩) pz := by
  have hk : ∀ b, b ≠ h → ((W.setCell ⟨h, 0, none⟩ x).setCell ⟨h, 1, none⟩ y).heap[b]? = W.heap[b]? := fun b hb => (Below.heap_setCell _ _ _ _ hb).trans (Below.heap_setCell _ _ _ _ hb)
  constructor
  · intro i z hz
    obtain ⟨b, o, ha, hB', g0, g1, g2⟩ := hrw i z hz
    have hbb := hA _ ha
    simp at hbb
    have hq := hk b (by omega)
    exact ⟨b, o, ha, by simp [World.setCell]; omega, (World.cell?_of_block (w := W) hq).trans g0, (World.cell?_of_block (w := W) hq).trans g1, (World.cell?_of_block (w := W) hq).trans g2⟩
  · intro i z hz
    obtain ⟨b, o, ha, hB', g0, g1⟩ := hri i z hz
    injection ha with ha; injection ha with h1 h2; subst h1; subst h2
    have hq := hk bc (by omega)
    exact ⟨bc, 0, rfl, by simp [World.setCell]; omega, (World.cell?_of_block (w := W) hq).trans g0, (World.cell?_of_block (w := W) hq).trans g1⟩
set_option maxHeartbeats 2000000 in
theorem DrawPairsOk_any (A : Option Addr) (len cap : Nat) (w : World) (hr : RB w w.heap.size A len) (hc : len ≤ cap) (hl : len ≤ 1048576) :
    Calls Try.prog 5 #[.slice A len cap] w (DrawnPq w) := by
  have HR := Lib.hid hr
  clear hr
  go_enter Try.func5, Try.ntmps5
  go_wp2_with fail
  refine (openE A len cap _ (fun i hi => ?_) hc hl).mono ?_
  · obtain ⟨b, o, v, ha, hB, h0, h1, h2⟩ := HR.out i hi
    exact ⟨b, o, v, ha, by simp; omega, h0, h1, (World.cell?_alloc_lt w _ _ hB).trans h2⟩
  rintro e wo ⟨l1, rfl, hr1, hb1⟩
  simp only [World.size_alloc] at hr1
  have hzo : w.heap.size + 1 < wo.heap.size := by have := hr1.lt; omega
  have HB1 := Lib.hid (bstep (B := w.heap.size) (W := w) (by go_grown) (by go_size) hb1)
  have HBL := Lib.hid (hb1.block w.heap.size (by simp))
  obtain ⟨g, hg⟩ : ∃ g, w.heap.size + 1 = g := ⟨_, rfl⟩
  rw [hg] at hr1
  have hgw : w.heap.size < g := by omega
  have hgo : g < wo.heap.size := by omega
  clear hb1
  go_wp2_with fail
  refine (l20Pairs_any g A l1 cap 0 2 _ hr1 (by omega) (by omega) (by omega)).mono ?_
  rintro e w1 ⟨nn, A', c', ws, bc, cc, pz, rfl, hrw, hA', hri, hbc, hl10, hcc, hpz8, hpzc, hn0, hn7, hr2, hg2⟩
  have hs1 : wo.heap.size ≤ w1.heap.size := hg2.size
  have hres : w1.heap[w.heap.size]? = some (.cells #[.int .i64 0, .slice none 0 0] 25 (0, 0)) := by
    rw [hg2.block _ (by omega) (by intro e; injection e; omega), HBL.out]
    exact heap_alloc_new w _
  have HBD := Lib.hid (below_of_only HB1.out hg2 (by omega))
  have HRES := Lib.hid hres
  have HRW := Lib.hid hrw
  have HRI := Lib.hid hri
  have HAN : Hid (∀ ad, A' = some ad → w.heap.size < ad.block) := fun ad h => by have := hA' ad h; omega
  clear hres hrw hri hA' hr1 hg hg2
  clear hr2
  have z0 : w1.cell? ⟨w.heap.size, 0, none⟩ = some (.int .i64 0) := cell_of_row _ _ 0 _ _ (0, 0) HRES.out
  have z1 : w1.cell? ⟨w.heap.size, 1, none⟩ = some (.slice none 0 0) := cell_of_row _ _ 1 _ _ (0, 0) HRES.out
  have z2 : w1.frozen? ⟨w.heap.size, 0, none⟩ = false := by have := HRES.out; simp [World.frozen?, this]
  have z3 : w1.frozen? ⟨w.heap.size, 1, none⟩ = false := by have := HRES.out; simp [World.frozen?, this]
  have TT := Lib.hid (two_cells (v0 := .int .i64 nn) (v1 := .slice A' ws.length c') HRES.out)
  go_wp2_with fail
  obtain ⟨t0, t1⟩ := TT.out
  obtain ⟨s1, s2⟩ := pq_stays HRW.out HRI.out HAN.out (by omega) (Nat.le_refl _) (.int .i64 nn) (.slice A' ws.length c')
  refine bodyPost_ret (v := .tuple #[.agg #[.int .i64 nn, .slice A' ws.length c'], .slice (some ⟨bc, 0, none⟩) pz.length cc]) (by simp [results, Try.results5, go_sem, t0, t1]) rfl ?_
  exact ⟨nn, A', c', ws, bc, cc, pz, rfl, s1, hl10, hcc, hn0, hn7, s2, hpz8, hpzc, (HBD.out.setCell (p := ⟨w.heap.size, 0, none⟩) (Nat.le_refl _) _).setCell (p := ⟨w.heap.size, 1, none⟩) (Nat.le_refl _) _⟩
end Go.Proofs.Ytnnpooemdonbhaa
