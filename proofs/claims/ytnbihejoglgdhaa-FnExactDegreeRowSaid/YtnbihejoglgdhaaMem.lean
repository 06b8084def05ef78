/- More on memory. -/
import Derived.Test.YtnbihejoglgdhaaNets
namespace Go.Proofs.Ytnbihejoglgdhaa
open Go.RowKit

theorem RW.keepb {w w' : World} {B B' b o : Nat} {ws : List Wy} (h : RW w B (some ⟨b, o, none⟩) ws) (hb : w'.heap[b]? = w.heap[b]?) (hB : b < B') : RW w' B' (some ⟨b, o, none⟩) ws := by
  intro i x hx
  obtain ⟨b', o', ha, _, h0, h1, h2⟩ := h i x hx
  injection ha with ha
  injection ha with ha1 ha2
  subst ha1; subst ha2
  exact ⟨b, o, rfl, hB, (World.cell?_of_block (w := w) hb).trans h0, (World.cell?_of_block (w := w) hb).trans h1, (World.cell?_of_block (w := w) hb).trans h2⟩
/-- two cells are written, and read again -/
theorem two_cells {w : World} {b : Nat} {x0 x1 v0 v1 : Value} {t : TypeId} (h : w.heap[b]? = some (.cells #[x0, x1] t (0, 0))) :
    ((w.setCell ⟨b, 0, none⟩ v0).setCell ⟨b, 1, none⟩ v1).cell? ⟨b, 0, none⟩ = some v0 ∧ ((w.setCell ⟨b, 0, none⟩ v0).setCell ⟨b, 1, none⟩ v1).cell? ⟨b, 1, none⟩ = some v1 := by
  have e : ((w.setCell ⟨b, 0, none⟩ v0).setCell ⟨b, 1, none⟩ v1).heap[b]? = some (.cells #[v0, v1] t (0, 0)) := by
    simp [World.setCell, Array.getElem?_modify, h]
  exact ⟨cell_of_row _ _ 0 _ _ (0, 0) e, cell_of_row _ _ 1 _ _ (0, 0) e⟩
theorem RW.drewR {w : World} {B : Nat} {A : Option Addr} {ws : List Wy} (h : RW w B A ws) : RW w.drew B A ws := h
end Go.Proofs.Ytnbihejoglgdhaa
