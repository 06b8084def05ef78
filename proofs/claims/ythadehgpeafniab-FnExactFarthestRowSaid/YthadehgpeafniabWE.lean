/- The reader of a code. -/
import Derived.Test.YthadehgpeafniabMD
set_option linter.unusedSimpArgs false
set_option linter.unusedVariables false
namespace Go.Proofs.Ythadehgpeafniab
open Go.ChangeShapes Go.WideShapes Go.ChangeAt Go.RowKit

def PickPost (g : Nat) (p n : Int) (w : World) (e : Ending) (w' : World) : Prop :=
  ∃ (q : Int) (k : Nat), e = .returned (.int .i64 q) ∧ 0 ≤ q ∧ (1 ≤ n → q < n) ∧ (n < 1 → q = 0) ∧ w' = (w.setCell ⟨g, 1, none⟩ (.int .i64 (p + 1))).drewN k


/-- the reader read one byte more, and nothing else was written -/
def PickE (t : TypeId) (g : Nat) (A : Option Addr) (len cap : Nat) (m n : Int) (w : World) (e : Ending) (w' : World) : Prop :=
  ∃ q : Int, e = .returned (.int .i64 q) ∧ 0 ≤ q ∧ (1 ≤ n → q < n) ∧ RdrE w' t g A len cap (m + 1) ∧ w.grownBy w' (some g) ∧ w'.heap.size = w.heap.size


/-- a truth, one byte more at the most -/
def OddE (t : TypeId) (g : Nat) (A : Option Addr) (len cap : Nat) (m : Int) (w : World) (e : Ending) (w' : World) : Prop :=
  ∃ q : Bool, e = .returned (.bool q) ∧ RdrE w' t g A len cap (m + 1) ∧ w.grownBy w' (some g) ∧ w'.heap.size = w.heap.size

/-- the reader is made -/
def OpenE (t : TypeId) (A : Option Addr) (cap : Nat) (w : World) (e : Ending) (w' : World) : Prop :=
  ∃ len : Nat, e = .returned (.pointer (some ⟨w.heap.size, 0, none⟩)) ∧ RdrE w' t w.heap.size A len cap 0 ∧ Below w.heap.size w w'
end Go.Proofs.Ythadehgpeafniab
