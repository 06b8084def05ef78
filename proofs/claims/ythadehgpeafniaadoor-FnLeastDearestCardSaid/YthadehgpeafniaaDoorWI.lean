/- Drawn nets with drawn sets. -/
import Derived.Test.YthadehgpeafniaaDoorWH
set_option linter.unusedSimpArgs false
set_option linter.unusedVariables false
attribute [local go_sem ↓] Go.wp_at_zero Go.wp_at_succ
namespace Go.Proofs.YthadehgpeafniaaDoor
open Go.ChangeShapes Go.WideShapes Go.ChangeAt Go.RowKit

/-- a drawn net and a set: the reader at g has read on -/
def SetPost (w : World) (t : TypeId) (g : Nat) (A : Option Addr) (len cap : Nat) (m : Int) (e : Ending) (w' : World) : Prop :=
  ∃ (nn s : Int) (A' : Option Addr) (c' : Nat) (ws : List Wy), e = .returned (.tuple #[.agg #[.int .i64 nn, .slice A' ws.length c'], .int .i64 s]) ∧ RW w' w'.heap.size A' ws ∧ (∀ ad, A' = some ad → w.heap.size ≤ ad.block) ∧
    ws.length ≤ 10 ∧ ws.length ≤ c' ∧ 0 ≤ nn ∧ nn ≤ 7 ∧ 0 ≤ s ∧ s ≤ 2000 ∧ RdrE w' t g A len cap (m + 50) ∧ w.grownBy w' (some g)

section
variable {w1 w2 w3 : World} {g h : Nat} {x0 x1 : Value} {t : TypeId}
theorem set_a (hg2 : (w1.alloc (.cells #[x0, x1] t)).drew.grownBy w2 (some g)) (hgl : g < w1.heap.size) : w2.cell? ⟨w1.heap.size, 0, none⟩ = some x0 ∧ w2.cell? ⟨w1.heap.size, 1, none⟩ = some x1 := by
  have e : w2.heap[w1.heap.size]? = some (.cells #[x0, x1] t (0, 0)) := by
    rw [hg2.block _ (by simp) (by intro e; injection e; omega)]
    exact heap_alloc_new w1 _
  exact ⟨cell_of_row _ _ 0 _ _ (0, 0) e, cell_of_row _ _ 1 _ _ (0, 0) e⟩
theorem set_z {o : Obj} (hs : w2.heap.size = (w1.alloc o).drew.heap.size) : w1.heap.size < w2.heap.size := by
  rw [hs]; simp
theorem set_b (hk : w2.cell? ⟨h, 0, none⟩ = some x0 ∧ w2.cell? ⟨h, 1, none⟩ = some x1) (hg3 : w2.grownBy w3 (some g)) (hgl : g < h) : w3.cell? ⟨h, 0, none⟩ = some x0 ∧ w3.cell? ⟨h, 1, none⟩ = some x1 := by
  have hne : some h ≠ some g := by intro e; injection e; omega
  exact ⟨hg3.cell hk.1 hne, hg3.cell hk.2 hne⟩
theorem set_c {o o' : Obj} (hr : w1.heap[h]? = some o) (hg2 : (w1.alloc o').drew.grownBy w2 (some g)) (hg3 : w2.grownBy w3 (some g)) (hl : h < w1.heap.size) (hg : g < h) (hz : w1.heap.size < w2.heap.size) : w3.heap[h]? = some o := by
  have hne : some h ≠ some g := by intro e; injection e; omega
  rw [hg3.block h (by omega) hne, hg2.block h (by simp; omega) hne]
  exact (Below.heap_alloc _ _ _ hl).trans hr
theorem set_d (u0 u1 : Value) {k : Nat} (hk : w3.cell? ⟨h, 0, none⟩ = some x0 ∧ w3.cell? ⟨h, 1, none⟩ = some x1) (hne : h ≠ k) :
    ((w3.setCell ⟨k, 0, none⟩ u0).setCell ⟨k, 1, none⟩ u1).cell? ⟨h, 0, none⟩ = some x0 ∧ ((w3.setCell ⟨k, 0, none⟩ u0).setCell ⟨k, 1, none⟩ u1).cell? ⟨h, 1, none⟩ = some x1 := by
  have e : ((w3.setCell ⟨k, 0, none⟩ u0).setCell ⟨k, 1, none⟩ u1).heap[h]? = w3.heap[h]? := (Below.heap_setCell _ _ _ _ hne).trans (Below.heap_setCell _ _ _ _ hne)
  exact ⟨(World.cell?_of_block (w := w3) e).trans hk.1, (World.cell?_of_block (w := w3) e).trans hk.2⟩
theorem set_f (i : Nat) {cs : Array Value} (hr : w3.heap[h]? = some (.cells cs t (0, 0))) : w3.frozen? ⟨h, i, none⟩ = false := by simp [World.frozen?, hr]
end

end Go.Proofs.YthadehgpeafniaaDoor
