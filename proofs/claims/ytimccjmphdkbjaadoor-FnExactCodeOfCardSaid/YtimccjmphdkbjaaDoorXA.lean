/- What the exact laws call: copies of nets, and whether two nets are alike. -/
import Derived.Test.YtimccjmphdkbjaaDoorMD
import Derived.Test.YtimccjmphdkbjaaDoorMC
import Derived.Laws.MakeOwn
import Derived.Deep.RegionHeld3
set_option linter.unusedSimpArgs false
set_option linter.unusedVariables false
namespace Go.Proofs.YtimccjmphdkbjaaDoor
open Go.ChangeShapes Go.WideShapes Go.ChangeAt Go.RowKit

theorem run_make_rowN {P : Program} (t e : TypeId) (i : TypeInfo) (z : Value) (ht : P.underlying t = some (.slice e)) (hi : P.info? e = some i) (hz : i.zero = some z)
    (kl kc : IntKind) (n c : Nat) (hnc : n ≤ c) (hbytes : i.bytes * c ≤ 281474976710656) (h63 : c ≤ 9223372036854775807) (w : World) :
    (Instr.makeSlice t (.int kl (n : Int)) (.int kc (c : Int))).run P w = .ok (.slice (some ⟨w.heap.size, 0, none⟩) n c) (w.alloc (.cells (madeCells z.cells (c * i.size)) e)) := by
  have hb : (i.bytes : Int) * (c : Int) ≤ 281474976710656 := by
    have h : ((i.bytes * c : Nat) : Int) ≤ 281474976710656 := by omega
    rwa [Int.natCast_mul] at h
  have hr := run_make (P := P) w t e i z ht hi hz kl kc n c (by omega) (by omega) hb (by omega)
  simp only [Int.toNat_natCast] at hr
  exact hr

/-- n ways, of which the first k are written -/
structure Row3 (w : World) (b : Nat) (t : TypeId) (ws : List Wy) (k : Nat) : Prop where
  blk : ∃ cs, w.heap[b]? = some (.cells cs t (0, 0)) ∧ cs.size = ws.length * 3 ∧ ∀ i x, i < k → ws[i]? = some x → cs[i * 3]? = some (.int .i64 x.a) ∧ cs[i * 3 + 1]? = some (.int .i64 x.b) ∧ cs[i * 3 + 2]? = some (.int .i64 x.c)
theorem Row3.keep {w w' : World} {b : Nat} {t : TypeId} {ws : List Wy} {k : Nat} (h : Row3 w b t ws k) (hb : w'.heap[b]? = w.heap[b]?) : Row3 w' b t ws k := by
  obtain ⟨cs, h1, h2⟩ := h.blk
  exact ⟨cs, hb.trans h1, h2⟩
theorem Row3.lt {w : World} {b : Nat} {t : TypeId} {ws : List Wy} {k : Nat} (h : Row3 w b t ws k) : b < w.heap.size := by
  obtain ⟨cs, h1, h2⟩ := h.blk
  exact (Array.getElem?_eq_some_iff.1 h1).1
theorem Row3.below {w w' : World} {b : Nat} {t : TypeId} {ws : List Wy} {k : Nat} (h : Row3 w b t ws k) (hb : Below w.heap.size w w') : Row3 w' b t ws k := h.keep (hb.block b h.lt)
theorem Row3.cell {w : World} {b : Nat} {t : TypeId} {ws : List Wy} {k : Nat} (h : Row3 w b t ws k) (j : Nat) (hj : j < ws.length * 3) : (∃ u, w.cell? ⟨b, j, none⟩ = some u) ∧ w.frozen? ⟨b, j, none⟩ = false := by
  obtain ⟨cs, h1, h2, _⟩ := h.blk
  refine ⟨⟨cs[j]'(by omega), ?_⟩, by simp [World.frozen?, h1]⟩
  rw [cell_of_row _ _ j _ _ (0, 0) h1]
  exact Array.getElem?_eq_getElem (by omega)
theorem Row3.rw {w : World} {b : Nat} {t : TypeId} {ws : List Wy} (h : Row3 w b t ws ws.length) : RW w w.heap.size (some ⟨b, 0, none⟩) ws := by
  obtain ⟨cs, h1, h2, h3⟩ := h.blk
  intro i x hx
  obtain ⟨g0, g1, g2⟩ := h3 i x (List.getElem?_eq_some_iff.1 hx).1 hx
  refine ⟨b, 0, rfl, h.lt, ?_, ?_, ?_⟩
  · rw [cell_of_row _ _ _ _ _ (0, 0) h1]; simpa using g0
  · rw [cell_of_row _ _ _ _ _ (0, 0) h1]; simpa using g1
  · rw [cell_of_row _ _ _ _ _ (0, 0) h1]; simpa using g2
theorem Row3.write {w : World} {b : Nat} {t : TypeId} {ws : List Wy} {k : Nat} (h : Row3 w b t ws k) (x : Wy) (hx : ws[k]? = some x) :
    Row3 (((w.setCell ⟨b, k * 3, none⟩ (.int .i64 x.a)).setCell ⟨b, k * 3 + 1, none⟩ (.int .i64 x.b)).setCell ⟨b, k * 3 + 2, none⟩ (.int .i64 x.c)) b t ws (k + 1) := by
  obtain ⟨cs, h1, h2, h3⟩ := h.blk
  have hk := (List.getElem?_eq_some_iff.1 hx).1
  refine ⟨((cs.setIfInBounds (k * 3) (.int .i64 x.a)).setIfInBounds (k * 3 + 1) (.int .i64 x.b)).setIfInBounds (k * 3 + 2) (.int .i64 x.c), ?_, by simpa using h2, ?_⟩
  · simp [World.setCell, Array.getElem?_modify, h1]
  · intro i y hi hy
    by_cases hik : i = k
    · subst hik
      rw [hx] at hy; injection hy with hy; subst hy
      refine ⟨?_, ?_, ?_⟩ <;> simp [Array.getElem?_setIfInBounds] <;> omega
    · obtain ⟨g0, g1, g2⟩ := h3 i y (by omega) hy
      refine ⟨?_, ?_, ?_⟩ <;> simp only [Array.getElem?_setIfInBounds] <;> rw [if_neg (by omega), if_neg (by omega), if_neg (by omega)] <;> assumption
theorem Row3.made (w : World) (t : TypeId) (ws : List Wy) (cs : Array Value) (hs : cs.size = ws.length * 3) : Row3 (w.alloc (.cells cs t)) w.heap.size t ws 0 :=
  ⟨cs, heap_alloc_new w _, hs, fun i x hi => by omega⟩

theorem infoWy : (Tryd.prog.info? 47).map (fun i => (i.zero, i.size, i.bytes)) = some (some (.agg #[.int .i64 0, .int .i64 0, .int .i64 0]), 3, 24) := by kernel_rfl

def RetWays (ws : List Wy) (w : World) (e : Ending) (w' : World) : Prop := ∃ b, w.heap.size ≤ b ∧ b < w'.heap.size ∧ e = .returned (.slice (some ⟨b, 0, none⟩) ws.length ws.length) ∧ RW w' w'.heap.size (some ⟨b, 0, none⟩) ws ∧ Below w.heap.size w w'
def RetWaysR (ws : List Wy) (w : World) (e : Ending) (w' : World) : Prop := ∃ b, w.heap.size ≤ b ∧ b < w'.heap.size ∧ e = .returned (.slice (some ⟨b, 0, none⟩) ws.length ws.length) ∧ Row3 w' b 47 ws ws.length ∧ Below w.heap.size w w'
def RetNet (n : Int) (ws : List Wy) (w : World) (e : Ending) (w' : World) : Prop :=
  ∃ b, w.heap.size ≤ b ∧ b < w'.heap.size ∧ e = .returned (.agg #[.int .i64 n, .slice (some ⟨b, 0, none⟩) ws.length ws.length]) ∧ RW w' w'.heap.size (some ⟨b, 0, none⟩) ws ∧ Below w.heap.size w w'
def RetNetR (n : Int) (ws : List Wy) (w : World) (e : Ending) (w' : World) : Prop :=
  ∃ b, w.heap.size ≤ b ∧ b < w'.heap.size ∧ e = .returned (.agg #[.int .i64 n, .slice (some ⟨b, 0, none⟩) ws.length ws.length]) ∧ Row3 w' b 47 ws ws.length ∧ Below w.heap.size w w'
end Go.Proofs.YtimccjmphdkbjaaDoor
