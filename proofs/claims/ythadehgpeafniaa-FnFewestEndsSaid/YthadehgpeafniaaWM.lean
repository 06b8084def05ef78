/- DrawJoinsEnds: some net, some set, some ends. -/
import Derived.Test.YthadehgpeafniaaWJ
import Derived.Deep.RegionHeld3
set_option linter.unusedSimpArgs false
set_option linter.unusedVariables false
attribute [local go_sem ↓] Go.wp_at_zero Go.wp_at_succ
namespace Go.Proofs.Ythadehgpeafniaa
open Go.ChangeShapes Go.WideShapes Go.ChangeAt Go.RowKit

def DrawnEnds (w : World) (e : Ending) (w' : World) : Prop :=
  ∃ (nn s p : Int) (A' : Option Addr) (c' : Nat) (ws : List Wy), e = .returned (.tuple #[.agg #[.int .i64 nn, .slice A' ws.length c'], .int .i64 s, .int .i64 p]) ∧ RW w' w'.heap.size A' ws ∧ ws.length ≤ 10 ∧ ws.length ≤ c' ∧ 0 ≤ nn ∧ nn ≤ 7 ∧ 0 ≤ s ∧ s ≤ 2000 ∧ 0 ≤ p ∧ p ≤ 300 ∧ Below w.heap.size w w'

theorem set_c' {w1 w2 w3 : World} {g h : Nat} {o o' : Obj} (hr : w1.heap[h]? = some o) (hg2 : (w1.alloc o').drew.grownBy w2 (some g)) (hg3 : w2.grownBy w3 (some g)) (hl : h < w1.heap.size) (hg : h < g) (hz : w1.heap.size < w2.heap.size) : w3.heap[h]? = some o := by
  have hne : some h ≠ some g := by intro e; injection e; omega
  rw [hg3.block h (by omega) hne, hg2.block h (by simp; omega) hne]
  exact (Below.heap_alloc _ _ _ hl).trans hr

theorem set_e {w3 w4 : World} {g h : Nat} {o : Obj} (hr : w3.heap[h]? = some o) (hg4 : w3.grownBy w4 (some g)) (hl : h < w3.heap.size) (hg : h < g) : w4.heap[h]? = some o := by
  rw [hg4.block h hl (by intro e; injection e; omega)]; exact hr

end Go.Proofs.Ythadehgpeafniaa
