/- PartsOf of the program and of its model. -/
import Derived.Test.YtnbihejoglgdhaaRm
import Derived.Test.YtnbihejoglgdhaaDA
import Derived.Test.YtnbihejoglgdhaaLO
import Derived.Deep.DrawnRows
set_option linter.unusedSimpArgs false
set_option linter.unusedVariables false
attribute [local go_sem ↓] Go.wp_at_zero Go.wp_at_succ
namespace Go.Proofs.Ytnbihejoglgdhaa
open Go.ChangeShapes Go.WideShapes Go.ChangeAt Go.RowKit


/-! ### the parts -/
noncomputable def partAt (ws : List Wy) (p : Nat) : Int := low (reach ws (full ws.length) p)
def partsLen (n : Int) (ws : List Wy) : Nat := if netOk n ws = true then n.toNat else 0
/-- a new row of parts -/
def NewParts (n : Int) (ws : List Wy) (w : World) (e : Ending) (w' : World) : Prop :=
  ∃ A1 c1, e = .returned (.slice A1 (partsLen n ws) c1) ∧ RowF w' w.heap.size w'.heap.size A1 (partsLen n ws) (partAt ws) ∧ Below w.heap.size w w'
theorem mkInts' (W : World) (m : Nat) (hm : m ≤ 6) : (Instr.makeSlice 28 (.int .i64 (m : Int)) (.int .i64 (m : Int))).run Try.prog W = .ok (.slice (some ⟨W.heap.size, 0, none⟩) m m) (W.alloc (.cells (Array.replicate m (.int .i64 0)) 3)) := by
  have k0 : ∀ W, (Instr.makeSlice 28 (.int .i64 ((0 : Nat) : Int)) (.int .i64 ((0 : Nat) : Int))).run Try.prog W = .ok (.slice (some ⟨W.heap.size, 0, none⟩) 0 0) (W.alloc (.cells (Array.replicate 0 (.int .i64 0)) 3)) := fun W => by kernel_rfl
  have k1 : ∀ W, (Instr.makeSlice 28 (.int .i64 ((1 : Nat) : Int)) (.int .i64 ((1 : Nat) : Int))).run Try.prog W = .ok (.slice (some ⟨W.heap.size, 0, none⟩) 1 1) (W.alloc (.cells (Array.replicate 1 (.int .i64 0)) 3)) := fun W => by kernel_rfl
  have k2 : ∀ W, (Instr.makeSlice 28 (.int .i64 ((2 : Nat) : Int)) (.int .i64 ((2 : Nat) : Int))).run Try.prog W = .ok (.slice (some ⟨W.heap.size, 0, none⟩) 2 2) (W.alloc (.cells (Array.replicate 2 (.int .i64 0)) 3)) := fun W => by kernel_rfl
  have k3 : ∀ W, (Instr.makeSlice 28 (.int .i64 ((3 : Nat) : Int)) (.int .i64 ((3 : Nat) : Int))).run Try.prog W = .ok (.slice (some ⟨W.heap.size, 0, none⟩) 3 3) (W.alloc (.cells (Array.replicate 3 (.int .i64 0)) 3)) := fun W => by kernel_rfl
  have k4 : ∀ W, (Instr.makeSlice 28 (.int .i64 ((4 : Nat) : Int)) (.int .i64 ((4 : Nat) : Int))).run Try.prog W = .ok (.slice (some ⟨W.heap.size, 0, none⟩) 4 4) (W.alloc (.cells (Array.replicate 4 (.int .i64 0)) 3)) := fun W => by kernel_rfl
  have k5 : ∀ W, (Instr.makeSlice 28 (.int .i64 ((5 : Nat) : Int)) (.int .i64 ((5 : Nat) : Int))).run Try.prog W = .ok (.slice (some ⟨W.heap.size, 0, none⟩) 5 5) (W.alloc (.cells (Array.replicate 5 (.int .i64 0)) 3)) := fun W => by kernel_rfl
  have k6 : ∀ W, (Instr.makeSlice 28 (.int .i64 ((6 : Nat) : Int)) (.int .i64 ((6 : Nat) : Int))).run Try.prog W = .ok (.slice (some ⟨W.heap.size, 0, none⟩) 6 6) (W.alloc (.cells (Array.replicate 6 (.int .i64 0)) 3)) := fun W => by kernel_rfl
  have h7 : m = 0 ∨ m = 1 ∨ m = 2 ∨ m = 3 ∨ m = 4 ∨ m = 5 ∨ m = 6 := by omega
  rcases h7 with h | h | h | h | h | h | h <;> subst h
  · exact k0 W
  · exact k1 W
  · exact k2 W
  · exact k3 W
  · exact k4 W
  · exact k5 W
  · exact k6 W
theorem new_rowF (w : World) (m : Nat) (t : TypeId) : RowF (w.alloc (.cells (Array.replicate m (.int .i64 0)) t)) w.heap.size (w.heap.size + 1) (some ⟨w.heap.size, 0, none⟩) m (fun _ => 0) :=
  ⟨fun j hj => by
    have h := heap_alloc_new w (.cells (Array.replicate m (.int .i64 0)) t)
    refine ⟨w.heap.size, 0, rfl, Nat.le_refl _, Nat.lt_succ_self _, ?_, ?_⟩
    · unfold World.cell?
      simp only [h]
      simp [hj]
    · unfold World.frozen?
      simp only [h]
      simp, by simp⟩

theorem RowF.fill0 {w : World} {lo hi b m k : Nat} {f : Nat → Int} (h : RowF w lo hi (some ⟨b, 0, Option.none⟩) m (fun j => if j < k then f j else 0)) (hk : k < m) :
    RowF (w.setCell ⟨b, k, Option.none⟩ (.int .i64 (f k))) lo hi (some ⟨b, 0, Option.none⟩) m (fun j => if j < k + 1 then f j else 0) := by
  have h8 := (h.put hk (f k)).congr (g := fun j => if j < k + 1 then f j else 0) (fun j _ => by
    (try dsimp only)
    by_cases e : j = k
    · subst e; simp
    · rw [if_neg e]
      by_cases e2 : j < k
      · rw [if_pos e2, if_pos (by omega)]
      · rw [if_neg e2, if_neg (by omega)])
  rw [Nat.zero_add] at h8
  exact h8
end Go.Proofs.Ytnbihejoglgdhaa
