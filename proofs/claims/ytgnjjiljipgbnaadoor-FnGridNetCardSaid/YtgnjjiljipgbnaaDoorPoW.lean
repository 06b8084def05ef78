/- The ways of a grid. Plain mathematics. -/
import Derived.Test.YtgnjjiljipgbnaaDoorMA
set_option linter.unusedVariables false
set_option linter.unusedSimpArgs false
namespace Go.Proofs.YtgnjjiljipgbnaaDoor
open Go.RowKit

/-- the ways of a grid of n places and C columns, from its first k places -/
def gwTo (n C : Nat) : Nat → List Wy
  | 0 => []
  | k + 1 => gwTo n C k ++ ((if k % C < C - 1 then [⟨(k : Int), ((k + 1 : Nat) : Int), 1⟩] else []) ++ (if k + C < n then [⟨(k : Int), ((k + C : Nat) : Int), 1⟩] else []))
def gridWs (R C : Nat) : List Wy := gwTo (R * C) C (R * C)
def gOk (R C : Nat) : Bool := decide (2 ≤ R * C) && decide (R * C ≤ 6)
theorem gwTo_step (n C k : Nat) : gwTo n C (k + 1) = gwTo n C k ++ ((if k % C < C - 1 then [⟨(k : Int), ((k + 1 : Nat) : Int), 1⟩] else []) ++ (if k + C < n then [⟨(k : Int), ((k + C : Nat) : Int), 1⟩] else [])) := rfl
theorem gwTo_len (n C : Nat) : ∀ k, (gwTo n C k).length ≤ 2 * k
  | 0 => by simp [gwTo]
  | k + 1 => by
    have ih := gwTo_len n C k
    rw [gwTo_step, List.length_append, List.length_append]
    split <;> split <;> simp <;> omega
end Go.Proofs.YtgnjjiljipgbnaaDoor
