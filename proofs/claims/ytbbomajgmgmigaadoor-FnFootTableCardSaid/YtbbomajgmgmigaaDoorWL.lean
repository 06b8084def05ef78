/- LeavesOf, of the program and of its model. -/
import Derived.Test.YtbbomajgmgmigaaDoorWG
import Derived.Test.YtbbomajgmgmigaaDoorSets
set_option linter.unusedSimpArgs false
set_option linter.unusedVariables false
namespace Go.Proofs.YtbbomajgmgmigaaDoor
open Go.ChangeShapes Go.WideShapes Go.ChangeAt Go.RowKit

/-- the places of the first k ways, as far as they are of the set, and those that are met again -/
def lvTo (ws : List Wy) (s : Int) : Nat → Int × Int
  | 0 => (0, 0)
  | k + 1 => match ws[k]? with
    | some x => if bit s k then (ior (lvTo ws s k).1 (wayPl x), ior (lvTo ws s k).2 (iand (lvTo ws s k).1 (wayPl x))) else lvTo ws s k
    | none => lvTo ws s k
theorem lvTo_yes {ws : List Wy} {s : Int} {k : Nat} {x : Wy} (hx : ws[k]? = some x) (hb : bit s k = true) :
    (lvTo ws s (k + 1)).1 = ior (lvTo ws s k).1 (wayPl x) ∧ (lvTo ws s (k + 1)).2 = ior (lvTo ws s k).2 (iand (lvTo ws s k).1 (wayPl x)) := by
  simp only [lvTo, hx, hb, if_true]; exact ⟨trivial, trivial⟩
theorem lvTo_no {ws : List Wy} {s : Int} {k : Nat} {x : Wy} (hx : ws[k]? = some x) (hb : bit s k = false) : lvTo ws s (k + 1) = lvTo ws s k := by
  simp [lvTo, hx, hb]
theorem lvTo_bd {n : Int} {ws : List Wy} (hn : NetIs n ws) (s : Int) : ∀ k, (0 ≤ (lvTo ws s k).1 ∧ (lvTo ws s k).1 < 64) ∧ (0 ≤ (lvTo ws s k).2 ∧ (lvTo ws s k).2 < 64)
  | 0 => by simp [lvTo]
  | k + 1 => by
    have ih := lvTo_bd hn s k
    cases hx : ws[k]? with
    | none => simp only [lvTo, hx]; exact ih
    | some x =>
      cases hb : bit s k
      · rw [lvTo_no hx hb]; exact ih
      · rw [(lvTo_yes hx hb).1, (lvTo_yes hx hb).2]
        have hw := wayPl_bd hn hx
        have ha := iand_bd (lvTo ws s k).1 (wayPl x) ih.1.1
        exact ⟨ior_bd _ _ 6 (by omega) (by omega), ior_bd _ _ 6 (by omega) (by omega)⟩
/-- the places with just one way -/
def lvs (ws : List Wy) (s : Int) : Int := idiff (lvTo ws s ws.length).1 (lvTo ws s ws.length).2
def leavesOf (n : Int) (ws : List Wy) (s : Int) : Int := if setOk n ws s = true then lvs ws s else -1


theorem two_shl (x : Wy) (ha0 : 0 ≤ x.a) (ha1 : x.a ≤ 5) (hb0 : 0 ≤ x.b) (hb1 : x.b ≤ 5) :
    bits .or .i64 (wrap64 (2 ^ x.a.toNat)) (wrap64 (2 ^ x.b.toNat)) = wayPl x := by
  rw [wrap_shl1 _ ha1, wrap_shl1 _ hb1]
  have sa := shl1_bd x.a ha1
  have sb := shl1_bd x.b hb1
  exact bits_or _ _ (by omega) (by omega) (by omega) (by omega)


end Go.Proofs.YtbbomajgmgmigaaDoor
