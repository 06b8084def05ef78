/- Rows of numbers as arguments: how they lie in memory, and their copies. -/
import Derived.Test.YthadehgpeafniaaXA
import Derived.Test.YthadehgpeafniaaMH
import Derived.Test.YthadehgpeafniaaMJ
set_option linter.unusedSimpArgs false
set_option linter.unusedVariables false
attribute [local go_sem ↓] Go.wp_at_zero Go.wp_at_succ
namespace Go.Proofs.Ythadehgpeafniaa
open Go.ChangeShapes Go.WideShapes Go.ChangeAt Go.RowKit

/-- The slice that begins at A holds the numbers L, below block B. -/
def RI (w : World) (B : Nat) (A : Option Addr) (L : List Int) : Prop :=
  ∀ i x, L[i]? = some x → ∃ b o, A = some ⟨b, o, none⟩ ∧ b < B ∧ w.cell? ⟨b, o + i, none⟩ = some (.int .i64 x)
theorem RI.below {w w' : World} {B : Nat} {A : Option Addr} {L : List Int} (h : RI w B A L) (hb : Below B w w') : RI w' B A L := by
  intro i x hx
  obtain ⟨b, o, ha, hB, h0⟩ := h i x hx
  exact ⟨b, o, ha, hB, (hb.cell hB).trans h0⟩
theorem RI.more {w : World} {B B' : Nat} {A : Option Addr} {L : List Int} (h : RI w B A L) (hB : B ≤ B') : RI w B' A L := by
  intro i x hx
  obtain ⟨b, o, ha, hb, h'⟩ := h i x hx
  exact ⟨b, o, ha, by omega, h'⟩
theorem RI.later {w w' : World} {A : Option Addr} {L : List Int} (h : RI w w.heap.size A L) (hb : Below w.heap.size w w') : RI w' w'.heap.size A L := (h.below hb).more hb.size
theorem RI.drewR {w : World} {B : Nat} {A : Option Addr} {L : List Int} (h : RI w B A L) : RI w.drew B A L := h
theorem RI.drewNR {w : World} {A : Option Addr} {L : List Int} (h : RI w w.heap.size A L) (k : Nat) : RI (w.drewN k) (w.drewN k).heap.size A L := h
theorem getD_at {L : List Int} {i : Nat} {x : Int} (h : L[i]? = some x) : L.getD i 0 = x := by rw [List.getD_eq_getElem?_getD, h]; rfl
theorem RI.at_ {w : World} {B : Nat} {A : Option Addr} {L : List Int} (h : RI w B A L) {j : Nat} (hj : j < L.length) : ∃ b o, A = some ⟨b, o, none⟩ ∧ b < B ∧ w.cell? ⟨b, o + j, none⟩ = some (.int .i64 (L.getD j 0)) := by
  have hx : L[j]? = some L[j] := List.getElem?_eq_getElem hj
  obtain ⟨b, o, h1, h2, h3⟩ := h j _ hx
  exact ⟨b, o, h1, h2, by rw [getD_at hx]; exact h3⟩
theorem RowF.ri {w : World} {lo hi : Nat} {A : Option Addr} {L : List Int} (h : RowF w lo hi A L.length (fun j => L.getD j 0)) : RI w w.heap.size A L := by
  intro i x hx
  obtain ⟨b, o, ha, _, hh, c, _⟩ := h.at_ i (List.getElem?_eq_some_iff.1 hx).1
  simp only [getD_at hx] at c
  exact ⟨b, o, ha, Nat.lt_of_lt_of_le hh h.top, c⟩
theorem numCells_put (f : Nat → Int) (m a : Nat) (x : Int) : numCells (fun j => if j = a then x else f j) m = (numCells f m).set a (.int .i64 x) := by
  apply List.ext_getElem?
  intro j
  rw [List.getElem?_set]
  by_cases hj : j < m
  · rw [numCells_at _ hj, numCells_len]
    by_cases e : a = j
    · subst e; rw [if_pos rfl, if_pos rfl, if_pos hj]
    · rw [if_neg (fun h => e h.symm), if_neg e, numCells_at _ hj]
  · have h1 : (numCells (fun j => if j = a then x else f j) m)[j]? = none := List.getElem?_eq_none (by rw [numCells_len]; omega)
    have h2 : (numCells f m)[j]? = none := List.getElem?_eq_none (by rw [numCells_len]; omega)
    rw [h1, numCells_len, h2]
    by_cases e : a = j
    · rw [if_pos e, if_neg (by omega)]
    · rw [if_neg e]
/-- a number of one's own row is written -/
theorem own_put {w : World} {base m c1 : Nat} {e : TypeId} {A1 : Option Addr} {f : Nat → Int} {a : Nat} (h : w.ownsRow base e 1 (.slice A1 m c1) m (numCells f m)) (ha : a < m) :
    ∃ g, A1 = some ⟨g, 0, none⟩ ∧ base ≤ g ∧ w.cell? ⟨g, a, none⟩ = some (.int .i64 (f a)) ∧ w.frozen? ⟨g, a, none⟩ = false ∧ ∀ x : Int, (w.setCell ⟨g, a, none⟩ (.int .i64 x)).ownsRow base e 1 (.slice A1 m c1) m (numCells (fun j => if j = a then x else f j) m) := by
  rcases h.2 with ⟨_, h2⟩ | ⟨g, cap, cur, hv, h3, h4, h5, h6, h7, h8⟩
  · omega
  · injection hv with hv1 hv2 hv3
    subst hv1; subst hv3
    have hcell : cur[a]? = some (.int .i64 (f a)) := by
      rw [← Array.getElem?_toList]
      have h9 := numCells_at f ha
      rw [← h8, List.getElem?_take, if_pos (by omega)] at h9
      exact h9
    refine ⟨g, rfl, h3, by rw [cell_of_row _ _ _ _ _ (0, 0) h4]; exact hcell, by simp [World.frozen?, h4], fun x => ⟨by rw [numCells_len]; omega, .inr ⟨g, c1, cur.setIfInBounds a (.int .i64 x), rfl, h3, ?_, h5, h6, by simpa using h7, ?_⟩⟩⟩
    · simp [World.setCell, Array.getElem?_modify, h4]
    · rw [Array.toList_setIfInBounds, List.take_set, h8, numCells_put]
theorem numCells_list (L : List Int) : numCells (fun j => L.getD j 0) L.length = rlCells L := by
  apply List.ext_getElem?
  intro j
  by_cases hj : j < L.length
  · rw [numCells_at _ hj, rlCells_at hj]
  · rw [List.getElem?_eq_none (by rw [numCells_len]; omega), List.getElem?_eq_none (by rw [rlCells_len]; omega)]
/-- one's own row as an argument -/
theorem own_ri {w : World} {base m c1 : Nat} {e : TypeId} {A1 : Option Addr} {f : Nat → Int} (h : w.ownsRow base e 1 (.slice A1 m c1) m (numCells f m)) : RI w w.heap.size A1 ((List.range m).map f) := by
  intro i x hx
  have hi : i < m := by have := (List.getElem?_eq_some_iff.1 hx).1; simpa using this
  have hxf : f i = x := by simpa [hi] using hx
  obtain ⟨g', e1, e2, e3, _, _⟩ := own_put h hi
  refine ⟨g', 0, e1, World.block_lt_of_cell? w _ e3, ?_⟩
  rw [Nat.zero_add, ← hxf]
  exact e3
theorem map_getD (f : Nat → Int) (m j : Nat) : ((List.range m).map f).getD j 0 = if j < m then f j else 0 := by
  by_cases h : j < m
  · rw [if_pos h, List.getD_eq_getElem?_getD]; simp [h]
  · rw [if_neg h, List.getD_eq_getElem?_getD]; simp [h]
/-- n numbers, of which the first k are written -/
structure Row1 (w : World) (b : Nat) (t : TypeId) (L : List Int) (k : Nat) : Prop where
  blk : ∃ vs, w.heap[b]? = some (.cells vs t (0, 0)) ∧ vs.size = L.length ∧ ∀ i x, i < k → L[i]? = some x → vs[i]? = some (.int .i64 x)
theorem Row1.keep {w w' : World} {b : Nat} {t : TypeId} {L : List Int} {k : Nat} (h : Row1 w b t L k) (hb : w'.heap[b]? = w.heap[b]?) : Row1 w' b t L k := by
  obtain ⟨vs, h1, h2⟩ := h.blk
  exact ⟨vs, hb.trans h1, h2⟩
theorem Row1.lt {w : World} {b : Nat} {t : TypeId} {L : List Int} {k : Nat} (h : Row1 w b t L k) : b < w.heap.size := by
  obtain ⟨vs, h1, h2⟩ := h.blk
  exact (Array.getElem?_eq_some_iff.1 h1).1
theorem Row1.cell {w : World} {b : Nat} {t : TypeId} {L : List Int} {k : Nat} (h : Row1 w b t L k) (j : Nat) (hj : j < L.length) : (∃ u, w.cell? ⟨b, j, none⟩ = some u) ∧ w.frozen? ⟨b, j, none⟩ = false := by
  obtain ⟨vs, h1, h2, _⟩ := h.blk
  refine ⟨⟨vs[j]'(by omega), ?_⟩, by simp [World.frozen?, h1]⟩
  rw [cell_of_row _ _ j _ _ (0, 0) h1]
  exact Array.getElem?_eq_getElem (by omega)
theorem Row1.rowF {w : World} {b : Nat} {t : TypeId} {L : List Int} (h : Row1 w b t L L.length) : RowF w b (b + 1) (some ⟨b, 0, none⟩) L.length (fun j => L.getD j 0) := by
  have hl := h.lt
  obtain ⟨vs, h1, h2, h3⟩ := h.blk
  refine ⟨fun j hj => ⟨b, 0, rfl, Nat.le_refl _, Nat.lt_succ_self _, ?_, by simp [World.frozen?, h1]⟩, hl⟩
  have hx : L[j]? = some L[j] := List.getElem?_eq_getElem hj
  rw [cell_of_row _ _ _ _ _ (0, 0) h1, Nat.zero_add, h3 j _ hj hx]
  simp only [getD_at hx]
theorem Row1.write {w : World} {b : Nat} {t : TypeId} {L : List Int} {k : Nat} (h : Row1 w b t L k) (x : Int) (hx : L[k]? = some x) :
    Row1 (w.setCell ⟨b, k, none⟩ (.int .i64 x)) b t L (k + 1) := by
  obtain ⟨vs, h1, h2, h3⟩ := h.blk
  have hk := (List.getElem?_eq_some_iff.1 hx).1
  refine ⟨vs.setIfInBounds k (.int .i64 x), ?_, by simpa using h2, ?_⟩
  · simp [World.setCell, Array.getElem?_modify, h1]
  · intro i y hi hy
    by_cases hik : i = k
    · subst hik
      rw [hx] at hy; injection hy with hy; subst hy
      simp [Array.getElem?_setIfInBounds]; omega
    · have g0 := h3 i y (by omega) hy
      rw [Array.getElem?_setIfInBounds, if_neg (by omega)]; assumption
theorem Row1.made (w : World) (t : TypeId) (L : List Int) (vs : Array Value) (hs : vs.size = L.length) : Row1 (w.alloc (.cells vs t)) w.heap.size t L 0 :=
  ⟨vs, heap_alloc_new w _, hs, fun i x hi => by omega⟩
/-- a new row that holds what was given -/
def RetInts (L : List Int) (w : World) (e : Ending) (w' : World) : Prop := ∃ b, w.heap.size ≤ b ∧ e = .returned (.slice (some ⟨b, 0, none⟩) L.length L.length) ∧ RowF w' b (b + 1) (some ⟨b, 0, none⟩) L.length (fun j => L.getD j 0) ∧ Below w.heap.size w w'
end Go.Proofs.Ythadehgpeafniaa
