/- The model's farthest places. -/
import Derived.Test.YthadehgpeafniaaNxO
import Derived.Test.YthadehgpeafniaaMD
import Derived.Test.YthadehgpeafniaaRI
import Derived.Test.YthadehgpeafniaaTf
import Derived.Test.YthadehgpeafniaaWC
set_option linter.unusedSimpArgs false
set_option linter.unusedVariables false
attribute [local go_sem ↓] Go.wp_at_zero Go.wp_at_succ
namespace Go.Proofs.Ythadehgpeafniaa
open Go.ChangeShapes Go.WideShapes Go.ChangeAt Go.RowKit

/-- a table that stands, and a row of one's own that grows -/
structure TbOwn (w0 W : World) (tt : TypeId) (base lo hi T m : Nat) (R C : Nat → Nat) (F : Nat → Nat → Int) (v : Value) (L : List Int) : Prop where
  low : Below w0.heap.size w0 W
  bb : w0.heap.size ≤ base
  bs : base ≤ W.heap.size
  own : W.ownsRow base tt 1 v L.length (rlCells L)
  tab : TabM W lo hi T m R C F
  apart : ∀ g, v.ownBlock = some g → g < lo ∨ hi ≤ g
theorem TbOwn.append {w0 W w5 : World} {tt : TypeId} {base lo hi T m gg cc : Nat} {R C : Nat → Nat} {F : Nat → Nat → Int} {v : Value} {L : List Int} (h : TbOwn w0 W tt base lo hi T m R C F v L) (x : Int) {o : Obj}
    (hown : w5.ownsRow base tt 1 (.slice (some ⟨gg, 0, none⟩) (L.length + 1) cc) (L.length + 1) (rlCells L ++ [.int .i64 x])) (hg : (W.alloc o).grownBy w5 v.ownBlock)
    (hat : v.ownBlock = some gg ∨ gg = W.heap.size + 1) :
    TbOwn w0 w5 tt base lo hi T m R C F (.slice (some ⟨gg, 0, none⟩) (L.length + 1) cc) (L ++ [x]) := by
  have h9 := h.low.alloc h.low.size o
  have hbs := h.bs
  have hbb := h.bb
  refine ⟨⟨hg.os.trans h9.os, hg.tape.trans h9.tape, hg.output.trans h9.output, Nat.le_trans h9.size hg.size, fun i hi => (hg.block i (by have := h9.size; omega) (fun e => by have := (h.own.lt i e.symm).1; omega)).trans (h9.block i hi)⟩, h.bb, ?_, ?_, ?_, ?_⟩
  · have := hg.size; simp at this; omega
  · rw [List.length_append, rlCells_snoc]; exact hown
  · refine (h.tab.below ((Below.refl _ _).alloc (Nat.le_refl _) o)).keep (fun k h1 h2 => hg.block k (by have := h.tab.his; simp; omega) fun e => ?_) hg.size
    rcases h.apart k e.symm with h8 | h8 <;> omega
  · intro g hgo
    have e9 : gg = g := by injection hgo
    subst e9
    rcases hat with h8 | h8
    · exact h.apart gg h8
    · have := h.tab.his; right; omega
/-- a list of m numbers, told one by one -/
theorem rangeM_take {m : Nat} {f : Nat → Int} {a : Nat} (h : a < m) : ((List.range m).map f).take (a + 1) = ((List.range m).map f).take a ++ [f a] := by
  rw [List.take_add_one]
  simp [h]
theorem rangeM_len {m : Nat} {f : Nat → Int} : ((List.range m).map f).length = m := by simp
theorem rangeM_at {m : Nat} {f : Nat → Int} {a : Nat} (h : a < m) : ((List.range m).map f).getD a 0 = f a := by
  rw [List.getD_eq_getElem?_getD]; simp [h]
end Go.Proofs.Ythadehgpeafniaa
