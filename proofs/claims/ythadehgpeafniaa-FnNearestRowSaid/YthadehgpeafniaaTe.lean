/- Tables compared, marked and read again. -/
import Derived.Test.YthadehgpeafniaaTc
import Derived.Test.YthadehgpeafniaaMH
set_option linter.unusedSimpArgs false
set_option linter.unusedVariables false
attribute [local go_sem ↓] Go.wp_at_zero Go.wp_at_succ
namespace Go.Proofs.Ythadehgpeafniaa
open Go.ChangeShapes Go.WideShapes Go.ChangeAt Go.RowKit

theorem TabM.rowF {w : World} {lo hi T m : Nat} {R C : Nat → Nat} {f : Nat → Nat → Int} (h : TabM w lo hi T m R C f) {a : Nat} (ha : a < m) : RowF w (R a) (R a + 1) (some ⟨R a, 0, none⟩) m (f a) :=
  ⟨fun j hj => ⟨R a, 0, rfl, Nat.le_refl _, Nat.lt_succ_self _, by rw [Nat.zero_add]; exact (h.row a j ha hj).1, by rw [Nat.zero_add]; exact (h.row a j ha hj).2⟩, by have := (h.rlo a ha).2; have := h.his; omega⟩
theorem TabM.mark {w w' : World} {lo hi T m : Nat} {R C : Nat → Nat} {f : Nat → Nat → Int} (h : TabM w lo hi T m R C f) {k : Nat} {g : Nat → Int} (hk : k < m) (hr : RowF w' (R k) (R k + 1) (some ⟨R k, 0, none⟩) m g) (ho : Only (R k) (R k + 1) w w') :
    TabM w' lo hi T m R C (fun i j => if i = k then g j else f i j) := by
  have hblk : ∀ b, b < w.heap.size → b ≠ R k → w'.heap[b]? = w.heap[b]? := fun b hb hne => ho.block b hb (by omega)
  have hT : T < w.heap.size := Nat.lt_of_lt_of_le h.los.2 h.his
  have hR : ∀ a, a < m → R a < w.heap.size := fun a ha => Nat.lt_of_lt_of_le (h.rlo a ha).2 h.his
  refine ⟨fun a ha => (World.cell?_of_block (w := w) (hblk T hT (fun e => h.neT k hk e.symm))).trans (h.top a ha), fun a b ha hb => ?_, h.inj, h.neT, h.los, h.rlo, Nat.le_trans h.his ho.size⟩
  by_cases e : a = k
  · subst e
    rw [if_pos rfl]
    obtain ⟨b', o', e1, _, _, c1, f1⟩ := hr.at_ b hb
    injection e1 with e1
    injection e1 with e1 e2
    subst e1
    subst e2
    rw [Nat.zero_add] at c1 f1
    exact ⟨c1, f1⟩
  · rw [if_neg e]
    have hb2 := hblk (R a) (hR a ha) (fun e2 => e (h.inj a k ha hk e2))
    exact ⟨(World.cell?_of_block (w := w) hb2).trans (h.row a b ha hb).1, (World.frozen?_of_block (w := w) hb2).trans (h.row a b ha hb).2⟩
theorem Only.wider {lo hi lo' hi' : Nat} {w w' : World} (h : Only lo hi w w') (h1 : lo' ≤ lo) (h2 : hi ≤ hi') : Only lo' hi' w w' := ⟨h.os, h.tape, h.output, h.size, fun k hk hd => h.block k hk (by omega)⟩

end Go.Proofs.Ythadehgpeafniaa
