/- FnNetOk: its walk. -/
import Derived.Test.YtimccjmphdkbjaaDoorMC
import Derived.Test.YtimccjmphdkbjaaDoorWH
import Derived.Test.YtimccjmphdkbjaaDoorOrd
import Derived.Deep.DrawnRows
set_option linter.unusedSimpArgs false
set_option linter.unusedVariables false
attribute [local go_sem ↓] Go.wp_at_zero Go.wp_at_succ
namespace Go.Proofs.YtimccjmphdkbjaaDoor
open Go.ChangeShapes Go.WideShapes Go.ChangeAt Go.RowKit

def flip (x : Wy) : Wy := ⟨x.b, x.a, x.c⟩
theorem wayOk_flip (n : Int) (x : Wy) : wayOk n (flip x) = wayOk n x := by
  rw [Bool.eq_iff_iff, wayOk_iff, wayOk_iff]
  simp only [flip]
  constructor <;> rintro ⟨h1, h2, h3, h4, h5, h6⟩ <;> exact ⟨h3, h4, h1, h2, fun e => h5 e.symm, h6⟩
theorem netOk_flip (n : Int) (ws : List Wy) : netOk n (ws.map flip) = netOk n ws := by
  unfold netOk
  rw [List.length_map, List.all_map]
  congr 2
  funext x
  exact wayOk_flip n x

/-- a net is built in the box B: its ways lie in memory from B + 1 on -/
structure BoxSt (w0 w : World) (B : Nat) (tn tw : TypeId) (nn : Int) (v : Value) (ws : List Wy) : Prop where
  low : Below B w0 w
  blk : w.heap[B]? = some (.cells #[.int .i64 nn, v] tn (0, 0))
  own : w.ownsRow (B + 1) tw 3 v ws.length (wyCells ws)
section
variable {w0 w : World} {B : Nat} {tn tw : TypeId} {nn : Int} {v : Value} {ws : List Wy}
theorem BoxSt.lt (h : BoxSt w0 w B tn tw nn v ws) : B < w.heap.size := (Array.getElem?_eq_some_iff.1 h.blk).1
theorem BoxSt.cells (h : BoxSt w0 w B tn tw nn v ws) : w.cell? ⟨B, 0, none⟩ = some (.int .i64 nn) ∧ w.cell? ⟨B, 1, none⟩ = some v ∧ w.frozen? ⟨B, 1, none⟩ = false :=
  ⟨cell_of_row _ _ 0 _ _ (0, 0) h.blk, cell_of_row _ _ 1 _ _ (0, 0) h.blk, by simp [World.frozen?, h.blk]⟩
theorem BoxSt.drew (h : BoxSt w0 w B tn tw nn v ws) : BoxSt w0 w.drew B tn tw nn v ws := ⟨h.low.drew, h.blk, h.own⟩
theorem BoxSt.app_low (h : BoxSt w0 w B tn tw nn v ws) {o : Obj} {w3 : World} (hg : (w.alloc o).grownBy w3 v.ownBlock) : ∀ k, k ≤ B → w3.heap[k]? = w.heap[k]? := fun k hk => by
  have := h.lt
  rw [hg.block k (by simp; omega) (fun e => by have := (h.own.lt k e.symm).1; omega)]
  exact Below.heap_alloc _ _ _ (by omega)
theorem BoxSt.app_cells (h : BoxSt w0 w B tn tw nn v ws) {o : Obj} {w3 : World} (hg : (w.alloc o).grownBy w3 v.ownBlock) : w3.cell? ⟨B, 1, none⟩ = some v ∧ w3.frozen? ⟨B, 1, none⟩ = false :=
  ⟨(World.cell?_of_block (w := w) (h.app_low hg B (Nat.le_refl _))).trans h.cells.2.1, (World.frozen?_of_block (w := w) (h.app_low hg B (Nat.le_refl _))).trans h.cells.2.2⟩
theorem BoxSt.append (h : BoxSt w0 w B tn tw nn v ws) (x : Wy) {w3 : World} {o : Obj} {gg c : Nat}
    (hown : w3.ownsRow (B + 1) tw 3 (.slice (some ⟨gg, 0, none⟩) (ws.length + 1) c) (ws.length + 1) (wyCells ws ++ [.int .i64 x.a, .int .i64 x.b, .int .i64 x.c])) (hg : (w.alloc o).grownBy w3 v.ownBlock) :
    BoxSt w0 (w3.setCell ⟨B, 1, none⟩ (.slice (some ⟨gg, 0, none⟩) (ws.length + 1) c)) B tn tw nn (.slice (some ⟨gg, 0, none⟩) (ws.length + 1) c) (ws ++ [x]) := by
  have hlt := h.lt
  have hl := h.app_low hg
  refine ⟨⟨hg.os.trans h.low.os, hg.tape.trans h.low.tape, hg.output.trans h.low.output, ?_, fun k hk => ?_⟩, ?_, ?_⟩
  · have := hg.size; have := h.low.size; simp [World.setCell] at *; omega
  · rw [Below.heap_setCell _ _ _ _ (by simp; omega), hl k (by omega)]; exact h.low.block k hk
  · have := (hl B (Nat.le_refl _)).trans h.blk
    simp [World.setCell, Array.getElem?_modify, this]
  · have := ownsRow_setCell_below hown (a := ⟨B, 1, none⟩) (by simp) (.slice (some ⟨gg, 0, none⟩) (ws.length + 1) c)
    simpa [wyCells_snoc] using this
theorem BoxSt.form (h : BoxSt w0 w B tn tw nn v ws) : ∃ A1 c1, v = .slice A1 ws.length c1 := by
  rcases h.own.2 with ⟨hv, h0⟩ | ⟨g', c, cur, hv, _⟩
  · exact ⟨none, 0, by rw [hv, h0]⟩
  · exact ⟨_, c, hv⟩
theorem BoxSt.rw {A1 : Option Addr} {l1 c1 : Nat} (h : BoxSt w0 w B tn tw nn (.slice A1 l1 c1) ws) : RW w w.heap.size A1 ws := by
  intro i x hx
  have hl := (List.getElem?_eq_some_iff.1 hx).1
  obtain ⟨g', c', hv, hb, hlt⟩ := h.own.form (by omega)
  injection hv with hv1 hv2 hv3
  obtain ⟨e0, e1, e2⟩ := wyCells_get ws i x hx
  have hc := h.own.cells (g := g') (by rw [hv1]; rfl)
  have a0 := hc _ _ e0
  have a1 := hc _ _ e1
  have a2 := hc _ _ e2
  have add0 : ∀ n, (⟨g', 0, none⟩ : Addr).add n = ⟨g', n, none⟩ := fun n => by unfold Addr.add; split <;> simp_all
  rw [add0] at a0 a1 a2
  exact ⟨g', 0, hv1, hlt, by simpa using a0, by simpa using a1, by simpa using a2⟩
end

end Go.Proofs.YtimccjmphdkbjaaDoor
