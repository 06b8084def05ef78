/- PartsOf of the model. -/
import Derived.Test.YtnbihejoglgdhaaRp
import Derived.Test.YtnbihejoglgdhaaWS
import Derived.Test.YtnbihejoglgdhaaWF
set_option linter.unusedSimpArgs false
set_option linter.unusedVariables false
attribute [local go_sem ↓] Go.wp_at_zero Go.wp_at_succ
namespace Go.Proofs.Ytnbihejoglgdhaa
open Go.ChangeShapes Go.WideShapes Go.ChangeAt Go.RowKit

theorem own_below {w w' : World} {base size n : Nat} {e : TypeId} {v : Value} {xs : List Value} (h : w.ownsRow base e size v n xs) (hb : Below w.heap.size w w') : w'.ownsRow base e size v n xs := by
  refine ⟨h.1, ?_⟩
  rcases h.2 with h2 | ⟨g, cap, cur, hv, h3, h4, h5⟩
  · exact .inl h2
  · exact .inr ⟨g, cap, cur, hv, h3, (hb.block g (Array.getElem?_eq_some_iff.1 h4).1).trans h4, h5⟩
theorem rowF_of_own {w : World} {base m c1 : Nat} {e : TypeId} {A1 : Option Addr} {xs : List Value} {f : Nat → Int} (h : w.ownsRow base e 1 (.slice A1 m c1) m xs) (hf : ∀ j, j < m → xs[j]? = some (.int .i64 (f j))) : RowF w base w.heap.size A1 m f := by
  refine ⟨fun j hj => ?_, Nat.le_refl _⟩
  rcases h.2 with ⟨_, h2⟩ | ⟨g, cap, cur, hv, h3, h4, h5, h6, h7, h8⟩
  · omega
  · injection hv with hv1 hv2 hv3
    have hg := (Array.getElem?_eq_some_iff.1 h4).1
    refine ⟨g, 0, hv1, h3, hg, ?_, by simp [World.frozen?, h4]⟩
    rw [cell_of_row _ _ _ _ _ (0, 0) h4, Nat.zero_add, ← Array.getElem?_toList]
    have h9 := hf j hj
    rw [← h8, List.getElem?_take] at h9
    split at h9
    · exact h9
    · cases h9
theorem infoInt : (Try.prog.info? 3).map (fun i => (i.zero, i.size, i.bytes)) = some (some (.int .i64 0), 1, 8) := by kernel_rfl
theorem emptyInts (W : World) : (Instr.buildSlice 28 0 #[]).run Try.prog W = .ok (.slice (some ⟨W.heap.size, 0, none⟩) 0 0) (W.alloc (.cells #[] 3)) := by kernel_rfl
/-- the numbers of the first k -/
def numCells (f : Nat → Int) (k : Nat) : List Value := (List.range k).map fun j => .int .i64 (f j)
theorem numCells_snoc (f : Nat → Int) (k : Nat) : numCells f (k + 1) = numCells f k ++ [.int .i64 (f k)] := by unfold numCells; rw [List.range_succ, List.map_append]; rfl
theorem numCells_len (f : Nat → Int) (k : Nat) : (numCells f k).length = k := by unfold numCells; simp
theorem numCells_at (f : Nat → Int) {k j : Nat} (h : j < k) : (numCells f k)[j]? = some (.int .i64 (f j)) := by unfold numCells; simp [h]
theorem own_form {w : World} {base size n : Nat} {e : TypeId} {v : Value} {xs : List Value} (h : w.ownsRow base e size v n xs) : ∃ A1 c1, v = .slice A1 n c1 := by
  rcases h.2 with ⟨hv, h0⟩ | ⟨g', c, cur, hv, _⟩
  · exact ⟨none, 0, by rw [hv, h0]⟩
  · exact ⟨_, c, hv⟩

theorem newParts_none {n : Int} {ws : List Wy} {w w' : World} {e : Ending} {A1 : Option Addr} {c1 : Nat} (hl : partsLen n ws = 0) (he : e = .returned (.slice A1 0 c1)) (hb : Below w.heap.size w w') : NewParts n ws w e w' := by
  unfold NewParts
  rw [hl]
  exact ⟨A1, c1, he, RowF.none _ _ _ _ _ (Nat.le_refl _), hb⟩

end Go.Proofs.Ytnbihejoglgdhaa
