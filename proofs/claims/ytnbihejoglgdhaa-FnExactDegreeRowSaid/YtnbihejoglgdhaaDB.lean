/- How many members sets have, and whether sets of ways are trees: of the program and of its model. -/
import Derived.Test.YtnbihejoglgdhaaDA
import Derived.Test.YtnbihejoglgdhaaWG
set_option linter.unusedSimpArgs false
set_option linter.unusedVariables false
namespace Go.Proofs.Ytnbihejoglgdhaa
open Go.ChangeShapes Go.WideShapes Go.ChangeAt Go.RowKit


theorem ior_lt {a b : Int} {k : Nat} (ha : a < 2 ^ k) (hb : b < 2 ^ k) : ior a b < 2 ^ k := (ior_bd a b k ha hb).2
theorem shl_lt {a n : Int} (h0 : 0 ≤ a) (h1 : a < n) : (2 : Int) ^ a.toNat < 2 ^ n.toNat := by
  have h : 2 ^ a.toNat < 2 ^ n.toNat := Nat.pow_lt_pow_right (by omega) (by omega)
  have e1 : ((2 : Int) ^ a.toNat) = ((2 ^ a.toNat : Nat) : Int) := by simp
  have e2 : ((2 : Int) ^ n.toNat) = ((2 ^ n.toNat : Nat) : Int) := by simp
  omega
theorem wayPl_lt {n : Int} {ws : List Wy} (hn : NetIs n ws) {x : Wy} {k : Nat} (hx : ws[k]? = some x) : wayPl x < 2 ^ n.toNat := by
  obtain ⟨a0, a1, b0, b1, _⟩ := hn.at_ hx
  exact ior_lt (shl_lt a0 a1) (shl_lt b0 b1)
theorem nodesTo_lt {n : Int} {ws : List Wy} (hn : NetIs n ws) (s : Int) : ∀ k, nodesTo ws s k < 2 ^ n.toNat
  | 0 => by have := pow_bd n n.toNat (Nat.le_refl _); simp only [nodesTo]; omega
  | k + 1 => by
    have ih := nodesTo_lt hn s k
    cases hx : ws[k]? with
    | none => simp only [nodesTo, hx]; exact ih
    | some x =>
      cases hb : bit s k
      · rw [nodesTo_no hx hb]; exact ih
      · rw [nodesTo_yes hx hb]; exact ior_lt ih (wayPl_lt hn hx)
def nds (ws : List Wy) (s : Int) : Int := nodesTo ws s ws.length
theorem nds_bd {n : Int} {ws : List Wy} (hn : NetIs n ws) (s : Int) : 0 ≤ nds ws s ∧ nds ws s < 64 ∧ nds ws s < 2 ^ n.toNat :=
  ⟨(nodesTo_bd hn s _).1, (nodesTo_bd hn s _).2, nodesTo_lt hn s _⟩
noncomputable def tree (ws : List Wy) (s : Int) : Bool := s == 0 || (pop s == pop (nds ws s) - 1 && joins ws s (nds ws s))
noncomputable def treeOk (n : Int) (ws : List Wy) (s : Int) : Bool := setOk n ws s && tree ws s



end Go.Proofs.Ytnbihejoglgdhaa
