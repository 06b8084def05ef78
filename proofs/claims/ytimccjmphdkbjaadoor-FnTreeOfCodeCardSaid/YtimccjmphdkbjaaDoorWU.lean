/- What the model draws where often a tree is wanted: some net, some set. -/
import Derived.Test.YtimccjmphdkbjaaDoorWT
import Derived.Test.YtimccjmphdkbjaaDoorWJ
set_option linter.unusedSimpArgs false
set_option linter.unusedVariables false
attribute [local go_sem ↓] Go.wp_at_zero Go.wp_at_succ
namespace Go.Proofs.YtimccjmphdkbjaaDoor
open Go.ChangeShapes Go.WideShapes Go.ChangeAt Go.RowKit

theorem or64 {a b : Int} (a0 : 0 ≤ a) (a1 : a < 64) (b0 : 0 ≤ b) (b1 : b < 64) : 0 ≤ bits .or .i64 a b ∧ bits .or .i64 a b ≤ 1048576 := by
  rw [bits_or _ _ a0 (by omega) b0 (by omega)]
  have := ior_bd a b 6 (by omega) (by omega)
  omega
theorem RdrE.drewR {w : World} {t : TypeId} {g : Nat} {A : Option Addr} {n cap : Nat} {m : Int} (h : RdrE w t g A n cap m) : RdrE w.drew t g A n cap m := h.keep fun _ _ => rfl
/-- what is kept from the set's draw on: the ways, the reader, the result's cells; nothing but the reader has changed -/
def Kept (w w' : World) (t tn : TypeId) (g : Nat) (A : Option Addr) (len cap : Nat) (m : Int) (A' : Option Addr) (ws : List Wy) : Prop :=
  RW w' w'.heap.size A' ws ∧ RdrE w' t g A len cap m ∧ w'.heap[w.heap.size]? = some (.cells #[.int .i64 0, .slice none 0 0] tn (0, 0)) ∧ w.grownBy w' (some g) ∧ w.heap.size < w'.heap.size
section
variable {w w1 w2 w3 w4 w5 w6 : World} {t tn : TypeId} {g : Nat} {A : Option Addr} {len cap : Nat} {m : Int} {A' : Option Addr} {ws : List Wy} {o : Obj}
theorem Kept.below (h : Kept w w1 t tn g A len cap m A' ws) (hb : Below w1.heap.size w1 w2) (hg : g < w.heap.size) : Kept w w2 t tn g A len cap m A' ws :=
  ⟨h.1.later hb, h.2.1.below hb, (hb.block _ h.2.2.2.2).trans h.2.2.1, only_trans h.2.2.2.1 (only_below hb _), Nat.lt_of_lt_of_le h.2.2.2.2 hb.size⟩
theorem Kept.pick {m' : Int} (h : Kept w w1 t tn g A len cap m A' ws) (hr : RdrE w2 t g A len cap m') (hg2 : w1.grownBy w2 (some g)) (hg : g < w.heap.size) (hA : ∀ ad, A' = some ad → w.heap.size ≤ ad.block) : Kept w w2 t tn g A len cap m' A' ws := by
  refine ⟨?_, hr, ?_, only_trans h.2.2.2.1 hg2, Nat.lt_of_lt_of_le h.2.2.2.2 hg2.size⟩
  · intro i x hx
    obtain ⟨b, o, ha, hB, g0, g1, g2⟩ := h.1 i x hx
    have hbb := hA _ ha
    simp at hbb
    have hk : w2.heap[b]? = w1.heap[b]? := hg2.block _ hB (by intro e; injection e; omega)
    exact ⟨b, o, ha, Nat.lt_of_lt_of_le hB hg2.size, (World.cell?_of_block (w := w1) hk).trans g0, (World.cell?_of_block (w := w1) hk).trans g1, (World.cell?_of_block (w := w1) hk).trans g2⟩
  · rw [hg2.block _ h.2.2.2.2 (by intro e; injection e; omega)]; exact h.2.2.1
theorem Kept.drew (h : Kept w w1 t tn g A len cap m A' ws) : Kept w w1.drew t tn g A len cap m A' ws := ⟨h.1, h.2.1.drewR, h.2.2.1, only_drew h.2.2.2.1, h.2.2.2.2⟩
end

end Go.Proofs.YtimccjmphdkbjaaDoor
