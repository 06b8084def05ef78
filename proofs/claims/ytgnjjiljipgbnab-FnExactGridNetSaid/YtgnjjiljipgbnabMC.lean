/- More on memory. The leaves: what the small functions of the program compute. NetOk and CostOf, of the program and of its model. Small facts for the walks of laws; the fixed answer. -/
import Derived.Test.YtgnjjiljipgbnabMA
import Derived.Test.YtgnjjiljipgbnabRows
import Derived.ProofKit
import Derived.OpenShut
import Derived.Deep.QuietTactic
import Derived.BigQuiet
import Derived.Handy
set_option linter.unusedSimpArgs false
set_option linter.unusedVariables false
namespace Go.Proofs.Ytgnjjiljipgbnab
open Go.RowKit

theorem RW.keepb {w w' : World} {B B' b o : Nat} {ws : List Wy} (h : RW w B (some ⟨b, o, none⟩) ws) (hb : w'.heap[b]? = w.heap[b]?) (hB : b < B') : RW w' B' (some ⟨b, o, none⟩) ws := by
  intro i x hx
  obtain ⟨b', o', ha, _, h0, h1, h2⟩ := h i x hx
  injection ha with ha
  injection ha with ha1 ha2
  subst ha1; subst ha2
  exact ⟨b, o, rfl, hB, (World.cell?_of_block (w := w) hb).trans h0, (World.cell?_of_block (w := w) hb).trans h1, (World.cell?_of_block (w := w) hb).trans h2⟩
/-- two cells are written, and read again -/
theorem two_cells {w : World} {b : Nat} {x0 x1 v0 v1 : Value} {t : TypeId} (h : w.heap[b]? = some (.cells #[x0, x1] t (0, 0))) :
    ((w.setCell ⟨b, 0, none⟩ v0).setCell ⟨b, 1, none⟩ v1).cell? ⟨b, 0, none⟩ = some v0 ∧ ((w.setCell ⟨b, 0, none⟩ v0).setCell ⟨b, 1, none⟩ v1).cell? ⟨b, 1, none⟩ = some v1 := by
  have e : ((w.setCell ⟨b, 0, none⟩ v0).setCell ⟨b, 1, none⟩ v1).heap[b]? = some (.cells #[v0, v1] t (0, 0)) := by
    simp [World.setCell, Array.getElem?_modify, h]
  exact ⟨cell_of_row _ _ 0 _ _ (0, 0) e, cell_of_row _ _ 1 _ _ (0, 0) e⟩
theorem RW.drewR {w : World} {B : Nat} {A : Option Addr} {ws : List Wy} (h : RW w B A ws) : RW w.drew B A ws := h
end Go.Proofs.Ytgnjjiljipgbnab
namespace Go.Proofs.Ytgnjjiljipgbnab
open Go.ChangeShapes Go.WideShapes Go.ChangeAt Go.RowKit

theorem below_drewN {B : Nat} {a w : World} (h : Below B a w) (n : Nat) : Below B a (w.drewN n) := ⟨h.os, h.tape, h.output, h.size, h.block⟩


def shl1 (i : Int) : Int := 2 ^ i.toNat
theorem shl1_bd (i : Int) (h : i ≤ 5) : 1 ≤ shl1 i ∧ shl1 i ≤ 32 := by
  have := pow_bd i 5 (by omega)
  unfold shl1; omega
theorem wrap_shl1 (i : Int) (h : i ≤ 5) : wrap64 (2 ^ i.toNat) = shl1 i := by
  have := shl1_bd i h
  exact IntWalk.wrap64_in _ ⟨by unfold shl1 at this; omega, by unfold shl1 at this; omega⟩
def wayPl (x : Wy) : Int := ior (shl1 x.a) (shl1 x.b)
end Go.Proofs.Ytgnjjiljipgbnab
namespace Go.Proofs.Ytgnjjiljipgbnab
open Go.ChangeShapes Go.WideShapes Go.ChangeAt Go.RowKit

theorem all_take (n : Int) (ws : List Wy) (k : Nat) (x : Wy) (hx : ws[k]? = some x) : (ws.take (k + 1)).all (wayOk n) = ((ws.take k).all (wayOk n) && wayOk n x) := by
  rw [List.take_add_one, hx]; simp
theorem all_false (n : Int) (ws : List Wy) (k : Nat) (x : Wy) (hx : ws[k]? = some x) (h : wayOk n x = false) : ws.all (wayOk n) = false := by
  rw [List.all_eq_false]; exact ⟨x, List.mem_of_getElem? hx, by simp [h]⟩


def costOf (n : Int) (ws : List Wy) (s : Int) : Int := if setOk n ws s = true then cost ws s else -1
end Go.Proofs.Ytgnjjiljipgbnab
namespace Go.Proofs.Ytgnjjiljipgbnab
open Go.ChangeShapes Go.WideShapes Go.ChangeAt Go.RowKit

theorem bit_iand (a b i : Int) : bit (iand a b) i = (bit a i && bit b i) := by
  unfold bit iand
  rw [Int.toNat_natCast, Nat.testBit_and]
theorem costFrom_join (s o : Int) : ∀ (ws : List Wy) (k : Int), costFrom ws s k + costFrom ws o k = costFrom ws (ior s o) k + costFrom ws (iand s o) k
  | [], _ => rfl
  | x :: ws, k => by
    have ih := costFrom_join s o ws (k + 1)
    simp only [costFrom, bit_ior, bit_iand]
    cases bit s k <;> cases bit o k <;> simp <;> omega
theorem cost_join (ws : List Wy) (s o : Int) : cost ws s + cost ws o = cost ws (ior s o) + cost ws (iand s o) := costFrom_join s o ws 0
theorem full_lt (len : Nat) (s : Int) : s ≤ full len ↔ s < 2 ^ len := by unfold full; omega
theorem setOk_mk {n : Int} {ws : List Wy} {s : Int} (hn : netOk n ws = true) (h0 : 0 ≤ s) (h1 : s ≤ full ws.length) : setOk n ws s = true := by
  unfold setOk; simp [hn, h0, h1]
theorem cost_zero (ws : List Wy) : cost ws 0 = 0 := by
  have : ∀ (ws : List Wy) (k : Int), costFrom ws 0 k = 0 := fun ws => by
    induction ws with
    | nil => intro k; rfl
    | cons x ws ih => intro k; simp [costFrom, bit, ih]
  exact this ws 0

theorem costOf_ok {n : Int} {ws : List Wy} {s : Int} (h : setOk n ws s = true) : costOf n ws s = cost ws s := by unfold costOf; rw [if_pos h]
theorem cost_all {n : Int} {ws : List Wy} (hn : netOk n ws = true) (s : Int) : 0 ≤ cost ws s ∧ cost ws s ≤ 81 := by
  have := cost_bd (netOk_t hn) s ws.length
  rwa [List.take_of_length_le (Nat.le_refl _)] at this
theorem keep2 {w w' : World} {h : Nat} {x0 x1 : Value} (hb : Below w.heap.size w w') (hk : w.cell? ⟨h, 0, none⟩ = some x0 ∧ w.cell? ⟨h, 1, none⟩ = some x1) (hl : h < w.heap.size) : w'.cell? ⟨h, 0, none⟩ = some x0 ∧ w'.cell? ⟨h, 1, none⟩ = some x1 :=
  ⟨(hb.cell (p := ⟨h, 0, none⟩) hl).trans hk.1, (hb.cell (p := ⟨h, 1, none⟩) hl).trans hk.2⟩
theorem RW.drewNR {w : World} {A : Option Addr} {ws : List Wy} (h : RW w w.heap.size A ws) (k : Nat) : RW (w.drewN k) (w.drewN k).heap.size A ws := h
theorem und {w w' : World} {k : Nat} (h : Below (w.drewN k).heap.size (w.drewN k) w') : Below w.heap.size w w' := ⟨h.os, h.tape, h.output, h.size, h.block⟩
theorem RW.nil_ (w : World) : RW w w.heap.size none [] := fun i x hx => by simp at hx
end Go.Proofs.Ytgnjjiljipgbnab
