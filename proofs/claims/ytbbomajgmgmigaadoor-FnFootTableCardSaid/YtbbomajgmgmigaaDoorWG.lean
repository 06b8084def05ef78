/- NodesOf, of the program and of its model. -/
import Derived.Test.YtbbomajgmgmigaaDoorWD
set_option linter.unusedSimpArgs false
set_option linter.unusedVariables false
namespace Go.Proofs.YtbbomajgmgmigaaDoor
open Go.ChangeShapes Go.WideShapes Go.ChangeAt Go.RowKit

/-- the places of the first k ways, as far as they are of the set -/
def nodesTo (ws : List Wy) (s : Int) : Nat → Int
  | 0 => 0
  | k + 1 => match ws[k]? with
    | some x => if bit s k then ior (nodesTo ws s k) (wayPl x) else nodesTo ws s k
    | none => nodesTo ws s k
theorem nodesTo_yes {ws : List Wy} {s : Int} {k : Nat} {x : Wy} (hx : ws[k]? = some x) (hb : bit s k = true) : nodesTo ws s (k + 1) = ior (nodesTo ws s k) (wayPl x) := by
  simp only [nodesTo, hx, hb, if_true]
theorem nodesTo_no {ws : List Wy} {s : Int} {k : Nat} {x : Wy} (hx : ws[k]? = some x) (hb : bit s k = false) : nodesTo ws s (k + 1) = nodesTo ws s k := by
  simp [nodesTo, hx, hb]
theorem wayPl_bd {n : Int} {ws : List Wy} (hn : NetIs n ws) {x : Wy} {k : Nat} (hx : ws[k]? = some x) : 0 ≤ wayPl x ∧ wayPl x < 64 := by
  have h := hn.at_ hx
  have hh := hn.hi
  have ha := shl1_bd x.a (by omega)
  have hb := shl1_bd x.b (by omega)
  exact ior_bd _ _ 6 (by omega) (by omega)
theorem nodesTo_bd {n : Int} {ws : List Wy} (hn : NetIs n ws) (s : Int) : ∀ k, 0 ≤ nodesTo ws s k ∧ nodesTo ws s k < 64
  | 0 => by simp [nodesTo]
  | k + 1 => by
    have ih := nodesTo_bd hn s k
    cases hx : ws[k]? with
    | none => simp only [nodesTo, hx]; exact ih
    | some x =>
      cases hb : bit s k
      · rw [nodesTo_no hx hb]; exact ih
      · rw [nodesTo_yes hx hb]
        have := wayPl_bd hn hx
        exact ior_bd _ _ 6 (by omega) (by omega)
def nodesOf (n : Int) (ws : List Wy) (s : Int) : Int := if setOk n ws s = true then nodesTo ws s ws.length else -1

theorem ior_assoc (a b c : Int) : ior (ior a b) c = ior a (ior b c) := by
  unfold ior
  simp only [Int.toNat_natCast]
  rw [Nat.or_assoc]

theorem or_shl (m : Int) (x : Wy) (h0 : 0 ≤ m) (h1 : m < 64) (ha0 : 0 ≤ x.a) (ha1 : x.a ≤ 5) (hb0 : 0 ≤ x.b) (hb1 : x.b ≤ 5) :
    bits .or .i64 (bits .or .i64 m (wrap64 (2 ^ x.a.toNat))) (wrap64 (2 ^ x.b.toNat)) = ior m (wayPl x) := by
  rw [wrap_shl1 _ ha1, wrap_shl1 _ hb1]
  have sa := shl1_bd x.a ha1
  have sb := shl1_bd x.b hb1
  have e3 := ior_bd m (shl1 x.a) 6 (by omega) (by omega)
  rw [bits_or m _ (by omega) (by omega) (by omega) (by omega), bits_or _ _ (by omega) (by omega) (by omega) (by omega), ior_assoc]
  rfl


end Go.Proofs.YtbbomajgmgmigaaDoor
