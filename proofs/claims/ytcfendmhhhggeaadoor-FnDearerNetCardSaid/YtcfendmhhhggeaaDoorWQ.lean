/- DrawPathOf: some net, two numbers. -/
import Derived.Test.YtcfendmhhhggeaaDoorWM
set_option linter.unusedSimpArgs false
set_option linter.unusedVariables false
attribute [local go_sem ↓] Go.wp_at_zero Go.wp_at_succ
namespace Go.Proofs.YtcfendmhhhggeaaDoor
open Go.ChangeShapes Go.WideShapes Go.ChangeAt Go.RowKit

def DrawnTwo (w : World) (e : Ending) (w' : World) : Prop :=
  ∃ (nn a b : Int) (A' : Option Addr) (c' : Nat) (ws : List Wy), e = .returned (.tuple #[.agg #[.int .i64 nn, .slice A' ws.length c'], .int .i64 a, .int .i64 b]) ∧ RW w' w'.heap.size A' ws ∧ ws.length ≤ 10 ∧ ws.length ≤ c' ∧ 0 ≤ nn ∧ nn ≤ 7 ∧ -10 ≤ a ∧ a ≤ 20 ∧ -10 ≤ b ∧ b ≤ 20 ∧ Below w.heap.size w w'
theorem set_g {w1 w2 : World} {g h : Nat} {o o' : Obj} (hr : w1.heap[h]? = some o) (hg2 : (w1.alloc o').drew.grownBy w2 (some g)) (hl : h < w1.heap.size) (hg : h < g) : w2.heap[h]? = some o := by
  have hne : some h ≠ some g := by intro e; injection e; omega
  rw [hg2.block h (by simp; omega) hne]
  exact (Below.heap_alloc _ _ _ hl).trans hr

end Go.Proofs.YtcfendmhhhggeaaDoor
