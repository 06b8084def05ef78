/- DegreeRow of the model: each way of the set counted at both its places. -/
import Derived.Test.YtnbihejoglgdhaaDoorWC
import Derived.Test.YtnbihejoglgdhaaDoorDgM
import Derived.Test.YtnbihejoglgdhaaDoorMH
import Derived.Test.YtnbihejoglgdhaaDoorOrd
set_option linter.unusedSimpArgs false
set_option linter.unusedVariables false
namespace Go.Proofs.YtnbihejoglgdhaaDoor
open Go.ChangeShapes Go.WideShapes Go.ChangeAt Go.RowKit

def degLen (n : Int) (ws : List Wy) (s : Int) : Nat := if setOk n ws s = true then n.toNat else 0
/-- a new row of degrees -/
def NewDeg (n : Int) (ws : List Wy) (s : Int) (w : World) (e : Ending) (w' : World) : Prop :=
  ∃ A1 c1, e = .returned (.slice A1 (degLen n ws s) c1) ∧ RowF w' w.heap.size w'.heap.size A1 (degLen n ws s) (fun j => dg ws s j) ∧ Below w.heap.size w w'
theorem newDeg_none {n : Int} {ws : List Wy} {s : Int} {w w' : World} {e : Ending} {A1 : Option Addr} {c1 : Nat} (hl : degLen n ws s = 0) (he : e = .returned (.slice A1 0 c1)) (hb : Below w.heap.size w w') : NewDeg n ws s w e w' := by
  unfold NewDeg
  rw [hl]
  exact ⟨A1, c1, he, RowF.none _ _ _ _ _ (Nat.le_refl _), hb⟩
theorem RowF.same {w w' : World} {lo hi : Nat} {A : Option Addr} {m : Nat} {f : Nat → Int} (h : RowF w lo hi A m f) (e : w'.heap = w.heap) : RowF w' lo hi A m f :=
  ⟨fun j hj => by
    obtain ⟨b, o, ha, hl, hh, hc, hf⟩ := h.at_ j hj
    exact ⟨b, o, ha, hl, hh, by unfold World.cell? at hc ⊢; rw [e]; exact hc, by unfold World.frozen? at hf ⊢; rw [e]; exact hf⟩, by rw [e]; exact h.top⟩
/-- one way more -/
theorem RowF.deg {w : World} {lo hi b m k ia ib : Nat} {ws : List Wy} {s : Int} {x : Wy} (h : RowF w lo hi (some ⟨b, 0, Option.none⟩) m (fun j => dgTo ws s j k)) (hx : ws[k]? = some x) (hb : bit s k = true) (ha : x.a = (ia : Int)) (hbb : x.b = (ib : Int)) (hne : ia ≠ ib) (hia : ia < m) (hib : ib < m) :
    RowF ((w.setCell ⟨b, ia, Option.none⟩ (.int .i64 (dgTo ws s ia k + 1))).setCell ⟨b, ib, Option.none⟩ (.int .i64 (dgTo ws s ib k + 1))) lo hi (some ⟨b, 0, Option.none⟩) m (fun j => dgTo ws s j (k + 1)) := by
  have h1 := (h.put hia (dgTo ws s ia k + 1)).put hib (dgTo ws s ib k + 1)
  rw [Nat.zero_add, Nat.zero_add] at h1
  refine h1.congr fun j _ => ?_
  (try dsimp only)
  by_cases e1 : j = ib
  · rw [if_pos e1, dgTo_yes hx hb (.inr (by rw [hbb, e1])), e1]
  · rw [if_neg e1]
    by_cases e2 : j = ia
    · rw [if_pos e2, dgTo_yes hx hb (.inl (by rw [ha, e2])), e2]
    · rw [if_neg e2, dgTo_no hx (fun h => h.2.elim (fun h => e2 (by omega)) (fun h => e1 (by omega)))]
end Go.Proofs.YtnbihejoglgdhaaDoor
