/- Draws of grids. -/
import Derived.Test.YtgnjjiljipgbnaaDoorWE
import Derived.Test.YtgnjjiljipgbnaaDoorWC
import Derived.Test.YtgnjjiljipgbnaaDoorMC
import Derived.Test.YtgnjjiljipgbnaaDoorWX
set_option linter.unusedSimpArgs false
set_option linter.unusedVariables false
attribute [local go_sem ↓] Go.wp_at_zero Go.wp_at_succ
namespace Go.Proofs.YtgnjjiljipgbnaaDoor
open Go.ChangeShapes Go.WideShapes Go.ChangeAt Go.RowKit

theorem cell_up {w : World} {o : Obj} {b j : Nat} {v : Value} (h : w.cell? ⟨b, j, none⟩ = some v) (hb : b < w.heap.size) : (w.alloc o).cell? ⟨b, j, none⟩ = some v := (World.cell?_alloc_lt _ _ _ hb).trans h
/-- memory that holds the grids that are drawn from -/
def GridRows (w W : World) : Prop := W.cell? ⟨w.heap.size + 1 + 1 + 1 + 1 + 1 + 1 + 1 + 1 + 1 + 1, 0, none⟩ = some (.slice (some ⟨w.heap.size, 0, none⟩) 2 2) ∧ W.cell? ⟨w.heap.size, 0, none⟩ = some (.int .i64 2) ∧ W.cell? ⟨w.heap.size, 1, none⟩ = some (.int .i64 2) ∧ W.cell? ⟨w.heap.size + 1 + 1 + 1 + 1 + 1 + 1 + 1 + 1 + 1 + 1, 1, none⟩ = some (.slice (some ⟨w.heap.size + 1, 0, none⟩) 2 2) ∧ W.cell? ⟨w.heap.size + 1, 0, none⟩ = some (.int .i64 2) ∧ W.cell? ⟨w.heap.size + 1, 1, none⟩ = some (.int .i64 3) ∧ W.cell? ⟨w.heap.size + 1 + 1 + 1 + 1 + 1 + 1 + 1 + 1 + 1 + 1, 2, none⟩ = some (.slice (some ⟨w.heap.size + 1 + 1, 0, none⟩) 2 2) ∧ W.cell? ⟨w.heap.size + 1 + 1, 0, none⟩ = some (.int .i64 3) ∧ W.cell? ⟨w.heap.size + 1 + 1, 1, none⟩ = some (.int .i64 2) ∧ W.cell? ⟨w.heap.size + 1 + 1 + 1 + 1 + 1 + 1 + 1 + 1 + 1 + 1, 3, none⟩ = some (.slice (some ⟨w.heap.size + 1 + 1 + 1, 0, none⟩) 2 2) ∧ W.cell? ⟨w.heap.size + 1 + 1 + 1, 0, none⟩ = some (.int .i64 1) ∧ W.cell? ⟨w.heap.size + 1 + 1 + 1, 1, none⟩ = some (.int .i64 4) ∧ W.cell? ⟨w.heap.size + 1 + 1 + 1 + 1 + 1 + 1 + 1 + 1 + 1 + 1, 4, none⟩ = some (.slice (some ⟨w.heap.size + 1 + 1 + 1 + 1, 0, none⟩) 2 2) ∧ W.cell? ⟨w.heap.size + 1 + 1 + 1 + 1, 0, none⟩ = some (.int .i64 5) ∧ W.cell? ⟨w.heap.size + 1 + 1 + 1 + 1, 1, none⟩ = some (.int .i64 1) ∧ W.cell? ⟨w.heap.size + 1 + 1 + 1 + 1 + 1 + 1 + 1 + 1 + 1 + 1, 5, none⟩ = some (.slice (some ⟨w.heap.size + 1 + 1 + 1 + 1 + 1, 0, none⟩) 2 2) ∧ W.cell? ⟨w.heap.size + 1 + 1 + 1 + 1 + 1, 0, none⟩ = some (.int .i64 1) ∧ W.cell? ⟨w.heap.size + 1 + 1 + 1 + 1 + 1, 1, none⟩ = some (.int .i64 1) ∧ W.cell? ⟨w.heap.size + 1 + 1 + 1 + 1 + 1 + 1 + 1 + 1 + 1 + 1, 6, none⟩ = some (.slice (some ⟨w.heap.size + 1 + 1 + 1 + 1 + 1 + 1, 0, none⟩) 2 2) ∧ W.cell? ⟨w.heap.size + 1 + 1 + 1 + 1 + 1 + 1, 0, none⟩ = some (.int .i64 2) ∧ W.cell? ⟨w.heap.size + 1 + 1 + 1 + 1 + 1 + 1, 1, none⟩ = some (.int .i64 2) ∧ W.cell? ⟨w.heap.size + 1 + 1 + 1 + 1 + 1 + 1 + 1 + 1 + 1 + 1, 7, none⟩ = some (.slice (some ⟨w.heap.size + 1 + 1 + 1 + 1 + 1 + 1 + 1, 0, none⟩) 2 2) ∧ W.cell? ⟨w.heap.size + 1 + 1 + 1 + 1 + 1 + 1 + 1, 0, none⟩ = some (.int .i64 2) ∧ W.cell? ⟨w.heap.size + 1 + 1 + 1 + 1 + 1 + 1 + 1, 1, none⟩ = some (.int .i64 3) ∧ W.cell? ⟨w.heap.size + 1 + 1 + 1 + 1 + 1 + 1 + 1 + 1 + 1 + 1, 8, none⟩ = some (.slice (some ⟨w.heap.size + 1 + 1 + 1 + 1 + 1 + 1 + 1 + 1, 0, none⟩) 2 2) ∧ W.cell? ⟨w.heap.size + 1 + 1 + 1 + 1 + 1 + 1 + 1 + 1, 0, none⟩ = some (.int .i64 3) ∧ W.cell? ⟨w.heap.size + 1 + 1 + 1 + 1 + 1 + 1 + 1 + 1, 1, none⟩ = some (.int .i64 3) ∧ W.cell? ⟨w.heap.size + 1 + 1 + 1 + 1 + 1 + 1 + 1 + 1 + 1 + 1, 9, none⟩ = some (.slice (some ⟨w.heap.size + 1 + 1 + 1 + 1 + 1 + 1 + 1 + 1 + 1, 0, none⟩) 2 2) ∧ W.cell? ⟨w.heap.size + 1 + 1 + 1 + 1 + 1 + 1 + 1 + 1 + 1, 0, none⟩ = some (.int .i64 0) ∧ W.cell? ⟨w.heap.size + 1 + 1 + 1 + 1 + 1 + 1 + 1 + 1 + 1, 1, none⟩ = some (.int .i64 2)
theorem gridRows_below {w W W' : World} (h : GridRows w W) (hb : Below W.heap.size W W') (hs : w.heap.size + 1 + 1 + 1 + 1 + 1 + 1 + 1 + 1 + 1 + 1 < W.heap.size) : GridRows w W' := by
  unfold GridRows at h ⊢
  have key : ∀ (b j : Nat) (v : Value), b < W.heap.size → W.cell? ⟨b, j, none⟩ = some v → W'.cell? ⟨b, j, none⟩ = some v := fun b j v hlt hc => (hb.cell (p := ⟨b, j, none⟩) hlt).trans hc
  obtain ⟨h0, h1, h2, h3, h4, h5, h6, h7, h8, h9, h10, h11, h12, h13, h14, h15, h16, h17, h18, h19, h20, h21, h22, h23, h24, h25, h26, h27, h28, h29⟩ := h
  exact ⟨key _ _ _ (by omega) h0, key _ _ _ (by omega) h1, key _ _ _ (by omega) h2, key _ _ _ (by omega) h3, key _ _ _ (by omega) h4, key _ _ _ (by omega) h5, key _ _ _ (by omega) h6, key _ _ _ (by omega) h7, key _ _ _ (by omega) h8, key _ _ _ (by omega) h9, key _ _ _ (by omega) h10, key _ _ _ (by omega) h11, key _ _ _ (by omega) h12, key _ _ _ (by omega) h13, key _ _ _ (by omega) h14, key _ _ _ (by omega) h15, key _ _ _ (by omega) h16, key _ _ _ (by omega) h17, key _ _ _ (by omega) h18, key _ _ _ (by omega) h19, key _ _ _ (by omega) h20, key _ _ _ (by omega) h21, key _ _ _ (by omega) h22, key _ _ _ (by omega) h23, key _ _ _ (by omega) h24, key _ _ _ (by omega) h25, key _ _ _ (by omega) h26, key _ _ _ (by omega) h27, key _ _ _ (by omega) h28, key _ _ _ (by omega) h29⟩
set_option maxHeartbeats 600000 in
theorem grid_made (w : World) : ∃ W1, (((((((((((w.alloc (.cells #[.int .i64 2, .int .i64 2] 3)).alloc (.cells #[.int .i64 2, .int .i64 3] 3)).alloc (.cells #[.int .i64 3, .int .i64 2] 3)).alloc (.cells #[.int .i64 1, .int .i64 4] 3)).alloc (.cells #[.int .i64 5, .int .i64 1] 3)).alloc (.cells #[.int .i64 1, .int .i64 1] 3)).alloc (.cells #[.int .i64 2, .int .i64 2] 3)).alloc (.cells #[.int .i64 2, .int .i64 3] 3)).alloc (.cells #[.int .i64 3, .int .i64 3] 3)).alloc (.cells #[.int .i64 0, .int .i64 2] 3)).alloc (.cells #[.slice (some ⟨w.heap.size, 0, none⟩) 2 2, .slice (some ⟨w.heap.size + 1, 0, none⟩) 2 2, .slice (some ⟨w.heap.size + 1 + 1, 0, none⟩) 2 2, .slice (some ⟨w.heap.size + 1 + 1 + 1, 0, none⟩) 2 2, .slice (some ⟨w.heap.size + 1 + 1 + 1 + 1, 0, none⟩) 2 2, .slice (some ⟨w.heap.size + 1 + 1 + 1 + 1 + 1, 0, none⟩) 2 2, .slice (some ⟨w.heap.size + 1 + 1 + 1 + 1 + 1 + 1, 0, none⟩) 2 2, .slice (some ⟨w.heap.size + 1 + 1 + 1 + 1 + 1 + 1 + 1, 0, none⟩) 2 2, .slice (some ⟨w.heap.size + 1 + 1 + 1 + 1 + 1 + 1 + 1 + 1, 0, none⟩) 2 2, .slice (some ⟨w.heap.size + 1 + 1 + 1 + 1 + 1 + 1 + 1 + 1 + 1, 0, none⟩) 2 2] 38)) = W1 ∧ W1.heap.size = w.heap.size + 1 + 1 + 1 + 1 + 1 + 1 + 1 + 1 + 1 + 1 + 1 ∧ Below w.heap.size w W1 ∧ GridRows w W1 := by
  obtain ⟨v1, h1⟩ : ∃ v, w.alloc (.cells #[.int .i64 2, .int .i64 2] 3) = v := ⟨_, rfl⟩
  rw [h1]
  have s1 : v1.heap.size = w.heap.size + 1 := by rw [← h1, World.size_alloc]
  have b1 : Below w.heap.size w v1 := by rw [← h1]; exact (Below.refl _ _).alloc (Nat.le_refl _) _
  have n1 : v1.cell? ⟨w.heap.size, 0, none⟩ = some (.int .i64 2) ∧ v1.cell? ⟨w.heap.size, 1, none⟩ = some (.int .i64 2) := by
    have h := heap_alloc_new w (.cells #[.int .i64 2, .int .i64 2] 3)
    rw [h1] at h
    exact ⟨cell_of_row _ _ 0 _ _ (0, 0) h, cell_of_row _ _ 1 _ _ (0, 0) h⟩
  obtain ⟨v2, h2⟩ : ∃ v, v1.alloc (.cells #[.int .i64 2, .int .i64 3] 3) = v := ⟨_, rfl⟩
  rw [h2]
  have s2 : v2.heap.size = w.heap.size + 1 + 1 := by rw [← h2, World.size_alloc, s1]
  have b2 : Below v1.heap.size v1 v2 := by rw [← h2]; exact (Below.refl _ _).alloc (Nat.le_refl _) _
  have n2 : v2.cell? ⟨w.heap.size + 1, 0, none⟩ = some (.int .i64 2) ∧ v2.cell? ⟨w.heap.size + 1, 1, none⟩ = some (.int .i64 3) := by
    have h := heap_alloc_new v1 (.cells #[.int .i64 2, .int .i64 3] 3)
    rw [h2, s1] at h
    exact ⟨cell_of_row _ _ 0 _ _ (0, 0) h, cell_of_row _ _ 1 _ _ (0, 0) h⟩
  obtain ⟨v3, h3⟩ : ∃ v, v2.alloc (.cells #[.int .i64 3, .int .i64 2] 3) = v := ⟨_, rfl⟩
  rw [h3]
  have s3 : v3.heap.size = w.heap.size + 1 + 1 + 1 := by rw [← h3, World.size_alloc, s2]
  have b3 : Below v2.heap.size v2 v3 := by rw [← h3]; exact (Below.refl _ _).alloc (Nat.le_refl _) _
  have n3 : v3.cell? ⟨w.heap.size + 1 + 1, 0, none⟩ = some (.int .i64 3) ∧ v3.cell? ⟨w.heap.size + 1 + 1, 1, none⟩ = some (.int .i64 2) := by
    have h := heap_alloc_new v2 (.cells #[.int .i64 3, .int .i64 2] 3)
    rw [h3, s2] at h
    exact ⟨cell_of_row _ _ 0 _ _ (0, 0) h, cell_of_row _ _ 1 _ _ (0, 0) h⟩
  obtain ⟨v4, h4⟩ : ∃ v, v3.alloc (.cells #[.int .i64 1, .int .i64 4] 3) = v := ⟨_, rfl⟩
  rw [h4]
  have s4 : v4.heap.size = w.heap.size + 1 + 1 + 1 + 1 := by rw [← h4, World.size_alloc, s3]
  have b4 : Below v3.heap.size v3 v4 := by rw [← h4]; exact (Below.refl _ _).alloc (Nat.le_refl _) _
  have n4 : v4.cell? ⟨w.heap.size + 1 + 1 + 1, 0, none⟩ = some (.int .i64 1) ∧ v4.cell? ⟨w.heap.size + 1 + 1 + 1, 1, none⟩ = some (.int .i64 4) := by
    have h := heap_alloc_new v3 (.cells #[.int .i64 1, .int .i64 4] 3)
    rw [h4, s3] at h
    exact ⟨cell_of_row _ _ 0 _ _ (0, 0) h, cell_of_row _ _ 1 _ _ (0, 0) h⟩
  obtain ⟨v5, h5⟩ : ∃ v, v4.alloc (.cells #[.int .i64 5, .int .i64 1] 3) = v := ⟨_, rfl⟩
  rw [h5]
  have s5 : v5.heap.size = w.heap.size + 1 + 1 + 1 + 1 + 1 := by rw [← h5, World.size_alloc, s4]
  have b5 : Below v4.heap.size v4 v5 := by rw [← h5]; exact (Below.refl _ _).alloc (Nat.le_refl _) _
  have n5 : v5.cell? ⟨w.heap.size + 1 + 1 + 1 + 1, 0, none⟩ = some (.int .i64 5) ∧ v5.cell? ⟨w.heap.size + 1 + 1 + 1 + 1, 1, none⟩ = some (.int .i64 1) := by
    have h := heap_alloc_new v4 (.cells #[.int .i64 5, .int .i64 1] 3)
    rw [h5, s4] at h
    exact ⟨cell_of_row _ _ 0 _ _ (0, 0) h, cell_of_row _ _ 1 _ _ (0, 0) h⟩
  obtain ⟨v6, h6⟩ : ∃ v, v5.alloc (.cells #[.int .i64 1, .int .i64 1] 3) = v := ⟨_, rfl⟩
  rw [h6]
  have s6 : v6.heap.size = w.heap.size + 1 + 1 + 1 + 1 + 1 + 1 := by rw [← h6, World.size_alloc, s5]
  have b6 : Below v5.heap.size v5 v6 := by rw [← h6]; exact (Below.refl _ _).alloc (Nat.le_refl _) _
  have n6 : v6.cell? ⟨w.heap.size + 1 + 1 + 1 + 1 + 1, 0, none⟩ = some (.int .i64 1) ∧ v6.cell? ⟨w.heap.size + 1 + 1 + 1 + 1 + 1, 1, none⟩ = some (.int .i64 1) := by
    have h := heap_alloc_new v5 (.cells #[.int .i64 1, .int .i64 1] 3)
    rw [h6, s5] at h
    exact ⟨cell_of_row _ _ 0 _ _ (0, 0) h, cell_of_row _ _ 1 _ _ (0, 0) h⟩
  obtain ⟨v7, h7⟩ : ∃ v, v6.alloc (.cells #[.int .i64 2, .int .i64 2] 3) = v := ⟨_, rfl⟩
  rw [h7]
  have s7 : v7.heap.size = w.heap.size + 1 + 1 + 1 + 1 + 1 + 1 + 1 := by rw [← h7, World.size_alloc, s6]
  have b7 : Below v6.heap.size v6 v7 := by rw [← h7]; exact (Below.refl _ _).alloc (Nat.le_refl _) _
  have n7 : v7.cell? ⟨w.heap.size + 1 + 1 + 1 + 1 + 1 + 1, 0, none⟩ = some (.int .i64 2) ∧ v7.cell? ⟨w.heap.size + 1 + 1 + 1 + 1 + 1 + 1, 1, none⟩ = some (.int .i64 2) := by
    have h := heap_alloc_new v6 (.cells #[.int .i64 2, .int .i64 2] 3)
    rw [h7, s6] at h
    exact ⟨cell_of_row _ _ 0 _ _ (0, 0) h, cell_of_row _ _ 1 _ _ (0, 0) h⟩
  obtain ⟨v8, h8⟩ : ∃ v, v7.alloc (.cells #[.int .i64 2, .int .i64 3] 3) = v := ⟨_, rfl⟩
  rw [h8]
  have s8 : v8.heap.size = w.heap.size + 1 + 1 + 1 + 1 + 1 + 1 + 1 + 1 := by rw [← h8, World.size_alloc, s7]
  have b8 : Below v7.heap.size v7 v8 := by rw [← h8]; exact (Below.refl _ _).alloc (Nat.le_refl _) _
  have n8 : v8.cell? ⟨w.heap.size + 1 + 1 + 1 + 1 + 1 + 1 + 1, 0, none⟩ = some (.int .i64 2) ∧ v8.cell? ⟨w.heap.size + 1 + 1 + 1 + 1 + 1 + 1 + 1, 1, none⟩ = some (.int .i64 3) := by
    have h := heap_alloc_new v7 (.cells #[.int .i64 2, .int .i64 3] 3)
    rw [h8, s7] at h
    exact ⟨cell_of_row _ _ 0 _ _ (0, 0) h, cell_of_row _ _ 1 _ _ (0, 0) h⟩
  obtain ⟨v9, h9⟩ : ∃ v, v8.alloc (.cells #[.int .i64 3, .int .i64 3] 3) = v := ⟨_, rfl⟩
  rw [h9]
  have s9 : v9.heap.size = w.heap.size + 1 + 1 + 1 + 1 + 1 + 1 + 1 + 1 + 1 := by rw [← h9, World.size_alloc, s8]
  have b9 : Below v8.heap.size v8 v9 := by rw [← h9]; exact (Below.refl _ _).alloc (Nat.le_refl _) _
  have n9 : v9.cell? ⟨w.heap.size + 1 + 1 + 1 + 1 + 1 + 1 + 1 + 1, 0, none⟩ = some (.int .i64 3) ∧ v9.cell? ⟨w.heap.size + 1 + 1 + 1 + 1 + 1 + 1 + 1 + 1, 1, none⟩ = some (.int .i64 3) := by
    have h := heap_alloc_new v8 (.cells #[.int .i64 3, .int .i64 3] 3)
    rw [h9, s8] at h
    exact ⟨cell_of_row _ _ 0 _ _ (0, 0) h, cell_of_row _ _ 1 _ _ (0, 0) h⟩
  obtain ⟨v10, h10⟩ : ∃ v, v9.alloc (.cells #[.int .i64 0, .int .i64 2] 3) = v := ⟨_, rfl⟩
  rw [h10]
  have s10 : v10.heap.size = w.heap.size + 1 + 1 + 1 + 1 + 1 + 1 + 1 + 1 + 1 + 1 := by rw [← h10, World.size_alloc, s9]
  have b10 : Below v9.heap.size v9 v10 := by rw [← h10]; exact (Below.refl _ _).alloc (Nat.le_refl _) _
  have n10 : v10.cell? ⟨w.heap.size + 1 + 1 + 1 + 1 + 1 + 1 + 1 + 1 + 1, 0, none⟩ = some (.int .i64 0) ∧ v10.cell? ⟨w.heap.size + 1 + 1 + 1 + 1 + 1 + 1 + 1 + 1 + 1, 1, none⟩ = some (.int .i64 2) := by
    have h := heap_alloc_new v9 (.cells #[.int .i64 0, .int .i64 2] 3)
    rw [h10, s9] at h
    exact ⟨cell_of_row _ _ 0 _ _ (0, 0) h, cell_of_row _ _ 1 _ _ (0, 0) h⟩
  obtain ⟨v11, h11⟩ : ∃ v, v10.alloc (.cells #[.slice (some ⟨w.heap.size, 0, none⟩) 2 2, .slice (some ⟨w.heap.size + 1, 0, none⟩) 2 2, .slice (some ⟨w.heap.size + 1 + 1, 0, none⟩) 2 2, .slice (some ⟨w.heap.size + 1 + 1 + 1, 0, none⟩) 2 2, .slice (some ⟨w.heap.size + 1 + 1 + 1 + 1, 0, none⟩) 2 2, .slice (some ⟨w.heap.size + 1 + 1 + 1 + 1 + 1, 0, none⟩) 2 2, .slice (some ⟨w.heap.size + 1 + 1 + 1 + 1 + 1 + 1, 0, none⟩) 2 2, .slice (some ⟨w.heap.size + 1 + 1 + 1 + 1 + 1 + 1 + 1, 0, none⟩) 2 2, .slice (some ⟨w.heap.size + 1 + 1 + 1 + 1 + 1 + 1 + 1 + 1, 0, none⟩) 2 2, .slice (some ⟨w.heap.size + 1 + 1 + 1 + 1 + 1 + 1 + 1 + 1 + 1, 0, none⟩) 2 2] 38) = v := ⟨_, rfl⟩
  rw [h11]
  have s11 : v11.heap.size = w.heap.size + 1 + 1 + 1 + 1 + 1 + 1 + 1 + 1 + 1 + 1 + 1 := by rw [← h11, World.size_alloc, s10]
  have b11 : Below v10.heap.size v10 v11 := by rw [← h11]; exact (Below.refl _ _).alloc (Nat.le_refl _) _
  have n11 : v11.cell? ⟨w.heap.size + 1 + 1 + 1 + 1 + 1 + 1 + 1 + 1 + 1 + 1, 0, none⟩ = some (.slice (some ⟨w.heap.size, 0, none⟩) 2 2) ∧ v11.cell? ⟨w.heap.size + 1 + 1 + 1 + 1 + 1 + 1 + 1 + 1 + 1 + 1, 1, none⟩ = some (.slice (some ⟨w.heap.size + 1, 0, none⟩) 2 2) ∧ v11.cell? ⟨w.heap.size + 1 + 1 + 1 + 1 + 1 + 1 + 1 + 1 + 1 + 1, 2, none⟩ = some (.slice (some ⟨w.heap.size + 1 + 1, 0, none⟩) 2 2) ∧ v11.cell? ⟨w.heap.size + 1 + 1 + 1 + 1 + 1 + 1 + 1 + 1 + 1 + 1, 3, none⟩ = some (.slice (some ⟨w.heap.size + 1 + 1 + 1, 0, none⟩) 2 2) ∧ v11.cell? ⟨w.heap.size + 1 + 1 + 1 + 1 + 1 + 1 + 1 + 1 + 1 + 1, 4, none⟩ = some (.slice (some ⟨w.heap.size + 1 + 1 + 1 + 1, 0, none⟩) 2 2) ∧ v11.cell? ⟨w.heap.size + 1 + 1 + 1 + 1 + 1 + 1 + 1 + 1 + 1 + 1, 5, none⟩ = some (.slice (some ⟨w.heap.size + 1 + 1 + 1 + 1 + 1, 0, none⟩) 2 2) ∧ v11.cell? ⟨w.heap.size + 1 + 1 + 1 + 1 + 1 + 1 + 1 + 1 + 1 + 1, 6, none⟩ = some (.slice (some ⟨w.heap.size + 1 + 1 + 1 + 1 + 1 + 1, 0, none⟩) 2 2) ∧ v11.cell? ⟨w.heap.size + 1 + 1 + 1 + 1 + 1 + 1 + 1 + 1 + 1 + 1, 7, none⟩ = some (.slice (some ⟨w.heap.size + 1 + 1 + 1 + 1 + 1 + 1 + 1, 0, none⟩) 2 2) ∧ v11.cell? ⟨w.heap.size + 1 + 1 + 1 + 1 + 1 + 1 + 1 + 1 + 1 + 1, 8, none⟩ = some (.slice (some ⟨w.heap.size + 1 + 1 + 1 + 1 + 1 + 1 + 1 + 1, 0, none⟩) 2 2) ∧ v11.cell? ⟨w.heap.size + 1 + 1 + 1 + 1 + 1 + 1 + 1 + 1 + 1 + 1, 9, none⟩ = some (.slice (some ⟨w.heap.size + 1 + 1 + 1 + 1 + 1 + 1 + 1 + 1 + 1, 0, none⟩) 2 2) := by
    have h := heap_alloc_new v10 (.cells #[.slice (some ⟨w.heap.size, 0, none⟩) 2 2, .slice (some ⟨w.heap.size + 1, 0, none⟩) 2 2, .slice (some ⟨w.heap.size + 1 + 1, 0, none⟩) 2 2, .slice (some ⟨w.heap.size + 1 + 1 + 1, 0, none⟩) 2 2, .slice (some ⟨w.heap.size + 1 + 1 + 1 + 1, 0, none⟩) 2 2, .slice (some ⟨w.heap.size + 1 + 1 + 1 + 1 + 1, 0, none⟩) 2 2, .slice (some ⟨w.heap.size + 1 + 1 + 1 + 1 + 1 + 1, 0, none⟩) 2 2, .slice (some ⟨w.heap.size + 1 + 1 + 1 + 1 + 1 + 1 + 1, 0, none⟩) 2 2, .slice (some ⟨w.heap.size + 1 + 1 + 1 + 1 + 1 + 1 + 1 + 1, 0, none⟩) 2 2, .slice (some ⟨w.heap.size + 1 + 1 + 1 + 1 + 1 + 1 + 1 + 1 + 1, 0, none⟩) 2 2] 38)
    rw [h11, s10] at h
    exact ⟨cell_of_row _ _ 0 _ _ (0, 0) h, cell_of_row _ _ 1 _ _ (0, 0) h, cell_of_row _ _ 2 _ _ (0, 0) h, cell_of_row _ _ 3 _ _ (0, 0) h, cell_of_row _ _ 4 _ _ (0, 0) h, cell_of_row _ _ 5 _ _ (0, 0) h, cell_of_row _ _ 6 _ _ (0, 0) h, cell_of_row _ _ 7 _ _ (0, 0) h, cell_of_row _ _ 8 _ _ (0, 0) h, cell_of_row _ _ 9 _ _ (0, 0) h⟩
  have g11 : Below v11.heap.size v11 v11 := Below.refl _ _
  have g10 : Below v10.heap.size v10 v11 := bstep b11 b11.size g11
  have g9 : Below v9.heap.size v9 v11 := bstep b10 b10.size g10
  have g8 : Below v8.heap.size v8 v11 := bstep b9 b9.size g9
  have g7 : Below v7.heap.size v7 v11 := bstep b8 b8.size g8
  have g6 : Below v6.heap.size v6 v11 := bstep b7 b7.size g7
  have g5 : Below v5.heap.size v5 v11 := bstep b6 b6.size g6
  have g4 : Below v4.heap.size v4 v11 := bstep b5 b5.size g5
  have g3 : Below v3.heap.size v3 v11 := bstep b4 b4.size g4
  have g2 : Below v2.heap.size v2 v11 := bstep b3 b3.size g3
  have g1 : Below v1.heap.size v1 v11 := bstep b2 b2.size g2
  have g0 : Below w.heap.size w v11 := bstep b1 b1.size g1
  refine ⟨v11, rfl, s11, g0, ?_⟩
  unfold GridRows
  exact ⟨n11.1, (g1.cell (p := ⟨w.heap.size, 0, none⟩) (by show w.heap.size < v1.heap.size; omega)).trans n1.1, (g1.cell (p := ⟨w.heap.size, 1, none⟩) (by show w.heap.size < v1.heap.size; omega)).trans n1.2, n11.2.1, (g2.cell (p := ⟨w.heap.size + 1, 0, none⟩) (by show w.heap.size + 1 < v2.heap.size; omega)).trans n2.1, (g2.cell (p := ⟨w.heap.size + 1, 1, none⟩) (by show w.heap.size + 1 < v2.heap.size; omega)).trans n2.2, n11.2.2.1, (g3.cell (p := ⟨w.heap.size + 1 + 1, 0, none⟩) (by show w.heap.size + 1 + 1 < v3.heap.size; omega)).trans n3.1, (g3.cell (p := ⟨w.heap.size + 1 + 1, 1, none⟩) (by show w.heap.size + 1 + 1 < v3.heap.size; omega)).trans n3.2, n11.2.2.2.1, (g4.cell (p := ⟨w.heap.size + 1 + 1 + 1, 0, none⟩) (by show w.heap.size + 1 + 1 + 1 < v4.heap.size; omega)).trans n4.1, (g4.cell (p := ⟨w.heap.size + 1 + 1 + 1, 1, none⟩) (by show w.heap.size + 1 + 1 + 1 < v4.heap.size; omega)).trans n4.2, n11.2.2.2.2.1, (g5.cell (p := ⟨w.heap.size + 1 + 1 + 1 + 1, 0, none⟩) (by show w.heap.size + 1 + 1 + 1 + 1 < v5.heap.size; omega)).trans n5.1, (g5.cell (p := ⟨w.heap.size + 1 + 1 + 1 + 1, 1, none⟩) (by show w.heap.size + 1 + 1 + 1 + 1 < v5.heap.size; omega)).trans n5.2, n11.2.2.2.2.2.1, (g6.cell (p := ⟨w.heap.size + 1 + 1 + 1 + 1 + 1, 0, none⟩) (by show w.heap.size + 1 + 1 + 1 + 1 + 1 < v6.heap.size; omega)).trans n6.1, (g6.cell (p := ⟨w.heap.size + 1 + 1 + 1 + 1 + 1, 1, none⟩) (by show w.heap.size + 1 + 1 + 1 + 1 + 1 < v6.heap.size; omega)).trans n6.2, n11.2.2.2.2.2.2.1, (g7.cell (p := ⟨w.heap.size + 1 + 1 + 1 + 1 + 1 + 1, 0, none⟩) (by show w.heap.size + 1 + 1 + 1 + 1 + 1 + 1 < v7.heap.size; omega)).trans n7.1, (g7.cell (p := ⟨w.heap.size + 1 + 1 + 1 + 1 + 1 + 1, 1, none⟩) (by show w.heap.size + 1 + 1 + 1 + 1 + 1 + 1 < v7.heap.size; omega)).trans n7.2, n11.2.2.2.2.2.2.2.1, (g8.cell (p := ⟨w.heap.size + 1 + 1 + 1 + 1 + 1 + 1 + 1, 0, none⟩) (by show w.heap.size + 1 + 1 + 1 + 1 + 1 + 1 + 1 < v8.heap.size; omega)).trans n8.1, (g8.cell (p := ⟨w.heap.size + 1 + 1 + 1 + 1 + 1 + 1 + 1, 1, none⟩) (by show w.heap.size + 1 + 1 + 1 + 1 + 1 + 1 + 1 < v8.heap.size; omega)).trans n8.2, n11.2.2.2.2.2.2.2.2.1, (g9.cell (p := ⟨w.heap.size + 1 + 1 + 1 + 1 + 1 + 1 + 1 + 1, 0, none⟩) (by show w.heap.size + 1 + 1 + 1 + 1 + 1 + 1 + 1 + 1 < v9.heap.size; omega)).trans n9.1, (g9.cell (p := ⟨w.heap.size + 1 + 1 + 1 + 1 + 1 + 1 + 1 + 1, 1, none⟩) (by show w.heap.size + 1 + 1 + 1 + 1 + 1 + 1 + 1 + 1 < v9.heap.size; omega)).trans n9.2, n11.2.2.2.2.2.2.2.2.2, (g10.cell (p := ⟨w.heap.size + 1 + 1 + 1 + 1 + 1 + 1 + 1 + 1 + 1, 0, none⟩) (by show w.heap.size + 1 + 1 + 1 + 1 + 1 + 1 + 1 + 1 + 1 < v10.heap.size; omega)).trans n10.1, (g10.cell (p := ⟨w.heap.size + 1 + 1 + 1 + 1 + 1 + 1 + 1 + 1 + 1, 1, none⟩) (by show w.heap.size + 1 + 1 + 1 + 1 + 1 + 1 + 1 + 1 + 1 < v10.heap.size; omega)).trans n10.2⟩
theorem gridRows_pick {w W : World} (h : GridRows w W) (j : Nat) (hj : j < 10) : ∃ b R C : Nat, R < 7 ∧ C < 7 ∧ W.cell? ⟨w.heap.size + 1 + 1 + 1 + 1 + 1 + 1 + 1 + 1 + 1 + 1, j, none⟩ = some (.slice (some ⟨b, 0, none⟩) 2 2) ∧ W.cell? ⟨b, 0, none⟩ = some (.int .i64 R) ∧ W.cell? ⟨b, 1, none⟩ = some (.int .i64 C) := by
  unfold GridRows at h
  have hq : j = 0 ∨ j = 1 ∨ j = 2 ∨ j = 3 ∨ j = 4 ∨ j = 5 ∨ j = 6 ∨ j = 7 ∨ j = 8 ∨ j = 9 := by omega
  rcases hq with rfl | rfl | rfl | rfl | rfl | rfl | rfl | rfl | rfl | rfl
  · exact ⟨_, 2, 2, by decide, by decide, h.1, h.2.1, h.2.2.1⟩
  · exact ⟨_, 2, 3, by decide, by decide, h.2.2.2.1, h.2.2.2.2.1, h.2.2.2.2.2.1⟩
  · exact ⟨_, 3, 2, by decide, by decide, h.2.2.2.2.2.2.1, h.2.2.2.2.2.2.2.1, h.2.2.2.2.2.2.2.2.1⟩
  · exact ⟨_, 1, 4, by decide, by decide, h.2.2.2.2.2.2.2.2.2.1, h.2.2.2.2.2.2.2.2.2.2.1, h.2.2.2.2.2.2.2.2.2.2.2.1⟩
  · exact ⟨_, 5, 1, by decide, by decide, h.2.2.2.2.2.2.2.2.2.2.2.2.1, h.2.2.2.2.2.2.2.2.2.2.2.2.2.1, h.2.2.2.2.2.2.2.2.2.2.2.2.2.2.1⟩
  · exact ⟨_, 1, 1, by decide, by decide, h.2.2.2.2.2.2.2.2.2.2.2.2.2.2.2.1, h.2.2.2.2.2.2.2.2.2.2.2.2.2.2.2.2.1, h.2.2.2.2.2.2.2.2.2.2.2.2.2.2.2.2.2.1⟩
  · exact ⟨_, 2, 2, by decide, by decide, h.2.2.2.2.2.2.2.2.2.2.2.2.2.2.2.2.2.2.1, h.2.2.2.2.2.2.2.2.2.2.2.2.2.2.2.2.2.2.2.1, h.2.2.2.2.2.2.2.2.2.2.2.2.2.2.2.2.2.2.2.2.1⟩
  · exact ⟨_, 2, 3, by decide, by decide, h.2.2.2.2.2.2.2.2.2.2.2.2.2.2.2.2.2.2.2.2.2.1, h.2.2.2.2.2.2.2.2.2.2.2.2.2.2.2.2.2.2.2.2.2.2.1, h.2.2.2.2.2.2.2.2.2.2.2.2.2.2.2.2.2.2.2.2.2.2.2.1⟩
  · exact ⟨_, 3, 3, by decide, by decide, h.2.2.2.2.2.2.2.2.2.2.2.2.2.2.2.2.2.2.2.2.2.2.2.2.1, h.2.2.2.2.2.2.2.2.2.2.2.2.2.2.2.2.2.2.2.2.2.2.2.2.2.1, h.2.2.2.2.2.2.2.2.2.2.2.2.2.2.2.2.2.2.2.2.2.2.2.2.2.2.1⟩
  · exact ⟨_, 0, 2, by decide, by decide, h.2.2.2.2.2.2.2.2.2.2.2.2.2.2.2.2.2.2.2.2.2.2.2.2.2.2.2.1, h.2.2.2.2.2.2.2.2.2.2.2.2.2.2.2.2.2.2.2.2.2.2.2.2.2.2.2.2.1, h.2.2.2.2.2.2.2.2.2.2.2.2.2.2.2.2.2.2.2.2.2.2.2.2.2.2.2.2.2⟩
set_option maxRecDepth 100000 in
set_option maxHeartbeats 600000 in
theorem DrawGridNet_any (A : Option Addr) (len cap : Nat) (w : World) (hr : RB w w.heap.size A len) (hc : len ≤ cap) (hl : len ≤ 1048576) :
    Calls Tryd.prog 4 #[.slice A len cap] w (fun e w' => ∃ R C : Nat, e = .returned (.tuple #[.int .i64 R, .int .i64 C]) ∧ R < 7 ∧ C < 7 ∧ Below w.heap.size w w') := by
  have HR := Lib.hid hr
  obtain ⟨W1, hW1, hsz, hb0, hgm⟩ := grid_made w
  have HB0 := Lib.hid hb0
  have HGM := Lib.hid hgm
  have HW := Lib.hid hW1
  have hrb : RB W1 W1.heap.size A len := fun i hi => by
    obtain ⟨b, o, v, h1, h2, h3⟩ := (HR.out.below HB0.out) i hi
    exact ⟨b, o, v, h1, by omega, h3⟩
  have HSZ := Lib.hid hsz
  clear hr hW1 hb0 hgm hsz
  go_enter Tryd.func4, Tryd.ntmps4
  go_wp2_with fail
  rw [HW.out]
  refine (openE A len cap W1 hrb hc hl).mono ?_
  rintro e wo ⟨l1, rfl, hr1, hb1⟩
  have hzo : W1.heap.size < wo.heap.size := hr1.lt
  have HB1 := Lib.hid hb1
  clear hb1
  go_wp2_with fail
  refine (pickE _ A l1 cap 0 10 wo hr1 (by omega) (by omega)).mono ?_
  rintro e wp ⟨q, rfl, q0, q1, hr2, hg2, hs2⟩
  have hbw : Below W1.heap.size W1 wp := below_of_only HB1.out hg2 (Nat.le_refl _)
  have hgr := gridRows_below HGM.out hbw (by have := HSZ.out; omega)
  have HBD := Lib.hid (bstep (B := w.heap.size) (W := w) HB0.out HB0.out.size hbw)
  have q9 := q1 (by decide)
  clear q1 hr1 hr2 hg2 hbw
  obtain ⟨j, rfl⟩ := Int.eq_ofNat_of_zero_le q0
  have hj10 : (j : Int) < 10 := q9
  obtain ⟨b, R, C, hR, hC, t0, t1, t2⟩ := gridRows_pick hgr j (by omega)
  clear hgr q9
  go_wp2_with fail
  go_region_held3 (fun w' => w'.cell? ⟨b, 0, none⟩ = some (.int .i64 R) ∧ w'.cell? ⟨b, 1, none⟩ = some (.int .i64 C)) (exact ⟨t1, t2⟩) (fail)
  go_wp2_with fail
  refine bodyPost_ret (v := .tuple #[.int .i64 R, .int .i64 C]) (by simp [results, Tryd.results4, go_sem]) rfl ?_
  exact ⟨R, C, rfl, hR, hC, ⟨HBD.out.os, HBD.out.tape, HBD.out.output, HBD.out.size, HBD.out.block⟩⟩
end Go.Proofs.YtgnjjiljipgbnaaDoor
