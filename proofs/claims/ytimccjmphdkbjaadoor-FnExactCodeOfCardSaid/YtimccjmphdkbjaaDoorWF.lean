/- The drawn nets. -/
import Derived.Test.YtimccjmphdkbjaaDoorWE
import Derived.Test.YtimccjmphdkbjaaDoorMC
import Derived.Test.YtimccjmphdkbjaaDoorOrd
import Derived.Deep.RegionHeld3
import Derived.Deep.RegionLaw
import Derived.Deep.AppendLies
import Derived.Deep.DeepCutAuto
import Derived.Deep.CutBlock
import Derived.Deep.DrawnRows
set_option linter.unusedSimpArgs false
set_option linter.unusedVariables false
attribute [local go_sem ↓] Go.wp_at_zero Go.wp_at_succ
namespace Go.Proofs.YtimccjmphdkbjaaDoor
open Go.ChangeShapes Go.WideShapes Go.ChangeAt Go.RowKit

def wyCells : List Wy → List Value
  | [] => []
  | x :: ws => .int .i64 x.a :: .int .i64 x.b :: .int .i64 x.c :: wyCells ws

/-- the net under construction: H the size of the heap when the call began; the result's cell is block H, the net's block H + 1 -/
structure NetSt (w0 w : World) (t tn tw : TypeId) (g : Nat) (A : Option Addr) (len cap : Nat) (m : Int) (nn : Int) (v : Value) (ws : List Wy) : Prop where
  rdr : RdrE w t g A len cap m
  gr : w0.grownBy w (some g)
  res : w.heap[w0.heap.size]? = some (.cells #[.int .i64 0, .slice none 0 0] tn (0, 0))
  net : w.heap[w0.heap.size + 1]? = some (.cells #[.int .i64 nn, v] tn (0, 0))
  own : w.ownsRow (w0.heap.size + 2) tw 3 v ws.length (wyCells ws)
  glt : g < w0.heap.size

section
variable {w0 w w' : World} {t tn tw : TypeId} {g : Nat} {A : Option Addr} {len cap : Nat} {m m' nn : Int} {v : Value} {ws : List Wy} {A1 : Option Addr} {l1 c1 : Nat}
theorem RdrE.drew (h : RdrE w t g A len cap m) : RdrE w.drew t g A len cap m := h.keep fun _ _ => rfl
theorem NetSt.start (hr : RdrE w t g A len cap m) (hg : (w0.alloc (.cells #[.int .i64 0, .slice none 0 0] tn)).grownBy w (some g)) (hs : w.heap.size = w0.heap.size + 1) (hlt : g < w0.heap.size) (nn : Int) :
    NetSt w0 (w.alloc (.cells #[.int .i64 nn, .slice none 0 0] tn)) t tn tw g A len cap m nn (.slice none 0 0) [] := by
  refine ⟨hr.keep fun k hk => Below.heap_alloc _ _ _ (by omega), only_alloc (only_trans (only_below ((Below.refl _ _).alloc (Nat.le_refl _) _) _) hg) _, ?_, ?_, World.ownsRow_nil _ _ _ _, hlt⟩
  · rw [Below.heap_alloc _ _ _ (by omega), hg.block _ (by simp) (by intro e; injection e; omega)]
    exact heap_alloc_new _ _
  · rw [← hs]; exact heap_alloc_new _ _
theorem NetSt.keep (h : NetSt w0 w t tn tw g A len cap m nn v ws) (hr : RdrE w' t g A len cap m') (hg : w.grownBy w' (some g)) : NetSt w0 w' t tn tw g A len cap m' nn v ws := by
  have h1 := h.glt
  refine ⟨hr, only_trans h.gr hg, ?_, ?_, h.own.kept hg ?_, h1⟩
  · rw [hg.block _ (Array.getElem?_eq_some_iff.1 h.res).1 (by intro e; injection e; omega)]; exact h.res
  · rw [hg.block _ (Array.getElem?_eq_some_iff.1 h.net).1 (by intro e; injection e; omega)]; exact h.net
  · right; intro e; have := h.own.lt g e; omega
theorem NetSt.drew (h : NetSt w0 w t tn tw g A len cap m nn v ws) : NetSt w0 w.drew t tn tw g A len cap m nn v ws :=
  h.keep h.rdr.drew (only_drew (World.grownBy.refl w _))
theorem NetSt.more (h : NetSt w0 w t tn tw g A len cap m nn v ws) (hm : m ≤ m') : NetSt w0 w t tn tw g A len cap m' nn v ws :=
  h.keep (h.rdr.more hm) (World.grownBy.refl w _)
theorem NetSt.cells (h : NetSt w0 w t tn tw g A len cap m nn v ws) :
    w.cell? ⟨w0.heap.size + 1, 0, none⟩ = some (.int .i64 nn) ∧ w.cell? ⟨w0.heap.size + 1, 1, none⟩ = some v ∧ w.frozen? ⟨w0.heap.size + 1, 0, none⟩ = false ∧ w.frozen? ⟨w0.heap.size + 1, 1, none⟩ = false ∧ w0.heap.size + 1 < w.heap.size := by
  refine ⟨cell_of_row _ _ 0 _ _ (0, 0) h.net, cell_of_row _ _ 1 _ _ (0, 0) h.net, ?_, ?_, (Array.getElem?_eq_some_iff.1 h.net).1⟩ <;> simp [World.frozen?, h.net]
theorem NetSt.resc (h : NetSt w0 w t tn tw g A len cap m nn v ws) :
    w.cell? ⟨w0.heap.size, 0, none⟩ = some (.int .i64 0) ∧ w.cell? ⟨w0.heap.size, 1, none⟩ = some (.slice none 0 0) ∧ w.frozen? ⟨w0.heap.size, 0, none⟩ = false ∧ w.frozen? ⟨w0.heap.size, 1, none⟩ = false := by
  refine ⟨cell_of_row _ _ 0 _ _ (0, 0) h.res, cell_of_row _ _ 1 _ _ (0, 0) h.res, ?_, ?_⟩ <;> simp [World.frozen?, h.res]
theorem wyCells_snoc (ws : List Wy) (x : Wy) : wyCells (ws ++ [x]) = wyCells ws ++ [.int .i64 x.a, .int .i64 x.b, .int .i64 x.c] := by
  induction ws with
  | nil => rfl
  | cons y ws ih => simp [wyCells, ih]
/-- a way is appended: the element lay in a new block ahead of it -/
theorem NetSt.append (h : NetSt w0 w t tn tw g A len cap m nn v ws) (x : Wy) {W w3 : World} {o : Obj} {gg c : Nat} (hW : W.heap = (w.alloc o).heap) (hWo : W.os = w.os) (hWt : W.tape = w.tape) (hWp : W.output = w.output)
    (hown : w3.ownsRow (w0.heap.size + 2) tw 3 (.slice (some ⟨gg, 0, none⟩) (ws.length + 1) c) (ws.length + 1) (wyCells ws ++ [.int .i64 x.a, .int .i64 x.b, .int .i64 x.c])) (hg : W.grownBy w3 v.ownBlock) :
    NetSt w0 (w3.setCell ⟨w0.heap.size + 1, 1, none⟩ (.slice (some ⟨gg, 0, none⟩) (ws.length + 1) c)) t tn tw g A len cap m nn (.slice (some ⟨gg, 0, none⟩) (ws.length + 1) c) (ws ++ [x]) := by
  have h1 := h.glt
  have hsz := h.cells.2.2.2.2
  have hlt : ∀ k, v.ownBlock = some k → w0.heap.size + 2 ≤ k := fun k hk => (h.own.lt k hk).1
  have hWs : W.heap.size = w.heap.size + 1 := by rw [hW]; simp
  have hblk : ∀ k, k < w.heap.size → k < w0.heap.size + 2 → w3.heap[k]? = w.heap[k]? := fun k hk hk2 => by
    rw [hg.block k (by omega) (fun e => by have := hlt k e.symm; omega), hW]
    exact Below.heap_alloc _ _ _ hk
  have hset : ∀ k, k ≠ w0.heap.size + 1 → (w3.setCell ⟨w0.heap.size + 1, 1, none⟩ (.slice (some ⟨gg, 0, none⟩) (ws.length + 1) c)).heap[k]? = w3.heap[k]? := fun k hk => Below.heap_setCell _ _ _ _ hk
  refine ⟨h.rdr.keep fun k hk => ?_, ⟨?_, ?_, ?_, ?_, fun k hk hne => ?_⟩, ?_, ?_, ?_, h1⟩
  · have := h.rdr.lt; rw [hset k (by omega), hblk k (by omega) (by omega)]
  · exact hg.os.trans (hWo.trans h.gr.os)
  · exact hg.tape.trans (hWt.trans h.gr.tape)
  · exact hg.output.trans (hWp.trans h.gr.output)
  · have := hg.size; simp only [World.setCell, Array.size_modify]; omega
  · rw [hset k (by omega), hblk k (by omega) (by omega)]; exact h.gr.block k hk hne
  · rw [hset _ (by omega), hblk _ (by omega) (by omega)]; exact h.res
  · have hn : w3.heap[w0.heap.size + 1]? = some (.cells #[.int .i64 nn, v] tn (0, 0)) := (hblk _ hsz (by omega)).trans h.net
    simp [World.setCell, Array.getElem?_modify, hn]
  · have := ownsRow_setCell_below hown (a := ⟨w0.heap.size + 1, 1, none⟩) (by simp) (.slice (some ⟨gg, 0, none⟩) (ws.length + 1) c)
    simpa [wyCells_snoc] using this
theorem NetSt.app_fr (h : NetSt w0 w t tn tw g A len cap m nn v ws) {o : Obj} {w3 : World} (hg : (w.alloc o).grownBy w3 v.ownBlock) : w3.frozen? ⟨w0.heap.size + 1, 1, none⟩ = false := by
  have hl := h.cells.2.2.2.2
  have e : w3.heap[w0.heap.size + 1]? = w.heap[w0.heap.size + 1]? := (hg.block _ (by simp; omega) (by
    intro e
    have := (h.own.lt _ e.symm).1
    omega)).trans (Below.heap_alloc _ _ _ hl)
  exact (World.frozen?_of_block (w := w) e).trans h.cells.2.2.2.1
theorem NetSt.form (h : NetSt w0 w t tn tw g A len cap m nn v ws) : ∃ A1 c1, v = .slice A1 ws.length c1 ∧ ws.length ≤ c1 ∧ (∀ ad, A1 = some ad → w0.heap.size ≤ ad.block) := by
  rcases h.own.2 with ⟨hv, h0⟩ | ⟨g', c, cur, hv, hb, _, hc, _⟩
  · exact ⟨none, 0, by rw [hv, h0], by omega, fun _ h => by cases h⟩
  · exact ⟨_, c, hv, hc, fun ad hh => by injection hh with hh; subst hh; simp; omega⟩
theorem NetSt.at_new (h : NetSt w0 w t tn tw g A len cap m nn v ws) (o : Obj) : (w.alloc o).cell? ⟨w0.heap.size + 1, 1, none⟩ = some v ∧ (w.alloc o).frozen? ⟨w0.heap.size + 1, 1, none⟩ = false := by
  have hl := h.cells.2.2.2.2
  exact ⟨(World.cell?_alloc_lt w _ _ hl).trans h.cells.2.1, (World.frozen?_of_block (w := w) (Below.heap_alloc w o _ hl)).trans h.cells.2.2.2.1⟩
theorem NetSt.cell_app (h : NetSt w0 w t tn tw g A len cap m nn v ws) {o : Obj} {w3 : World} (hg : (w.alloc o).grownBy w3 v.ownBlock) : w3.cell? ⟨w0.heap.size + 1, 1, none⟩ = some v := by
  have hl := h.cells.2.2.2.2
  refine hg.cell ((World.cell?_alloc_lt w _ _ hl).trans h.cells.2.1) ?_
  intro e
  have := (h.own.lt _ e.symm).1
  simp at this
theorem NetSt.app_all (h : NetSt w0 w t tn tw g A len cap m nn v ws) {o : Obj} {w3 : World} (hg : (w.alloc o).grownBy w3 v.ownBlock) :
    w3.heap[w0.heap.size]? = some (.cells #[.int .i64 0, .slice none 0 0] tn (0, 0)) ∧ w3.cell? ⟨w0.heap.size + 1, 0, none⟩ = some (.int .i64 nn) ∧ w3.frozen? ⟨w0.heap.size + 1, 0, none⟩ = false ∧
    w3.cell? ⟨w0.heap.size, 0, none⟩ = some (.int .i64 0) ∧ w3.cell? ⟨w0.heap.size, 1, none⟩ = some (.slice none 0 0) ∧ w3.frozen? ⟨w0.heap.size, 0, none⟩ = false ∧ w3.frozen? ⟨w0.heap.size, 1, none⟩ = false := by
  have hl := h.cells.2.2.2.2
  have e : ∀ k, k ≤ w0.heap.size + 1 → w3.heap[k]? = w.heap[k]? := fun k hk => (hg.block _ (by simp; omega) (by
    intro e
    have := (h.own.lt _ e.symm).1
    omega)).trans (Below.heap_alloc _ _ _ (by omega))
  have e0 := e w0.heap.size (by omega)
  have e1 := e (w0.heap.size + 1) (by omega)
  obtain ⟨a0, a1, a2, a3⟩ := h.resc
  exact ⟨e0.trans h.res, (World.cell?_of_block (w := w) e1).trans h.cells.1, (World.frozen?_of_block (w := w) e1).trans h.cells.2.2.1,
    (World.cell?_of_block (w := w) e0).trans a0, (World.cell?_of_block (w := w) e0).trans a1, (World.frozen?_of_block (w := w) e0).trans a2, (World.frozen?_of_block (w := w) e0).trans a3⟩
theorem NetSt.alloc_ (h : NetSt w0 w t tn tw g A len cap m nn v ws) (o : Obj) : NetSt w0 (w.alloc o) t tn tw g A len cap m nn v ws :=
  h.keep (h.rdr.keep fun k hk => Below.heap_alloc _ _ _ (by have := h.rdr.lt; omega)) (World.grownBy_alloc w o _)
theorem wyCells_get : ∀ (ws : List Wy) (i : Nat) (x : Wy), ws[i]? = some x → (wyCells ws)[i * 3]? = some (.int .i64 x.a) ∧ (wyCells ws)[i * 3 + 1]? = some (.int .i64 x.b) ∧ (wyCells ws)[i * 3 + 2]? = some (.int .i64 x.c)
  | [], i, x, h => by simp at h
  | y :: ws, 0, x, h => by
    simp at h; subst h
    exact ⟨rfl, rfl, rfl⟩
  | y :: ws, i + 1, x, h => by
    have ih := wyCells_get ws i x (by simpa using h)
    have e0 : (i + 1) * 3 = i * 3 + 1 + 1 + 1 := by omega
    rw [e0]
    simpa [wyCells] using ih
theorem NetSt.setN (h : NetSt w0 w t tn tw g A len cap m nn v ws) (n' : Int) : NetSt w0 (w.setCell ⟨w0.heap.size + 1, 0, none⟩ (.int .i64 n')) t tn tw g A len cap m n' v ws := by
  have h1 := h.glt
  have hset : ∀ k, k ≠ w0.heap.size + 1 → (w.setCell ⟨w0.heap.size + 1, 0, none⟩ (.int .i64 n')).heap[k]? = w.heap[k]? := fun k hk => Below.heap_setCell _ _ _ _ hk
  refine ⟨h.rdr.keep fun k hk => hset k (by omega), only_setCell h.gr (.inr (by simp)) _, (hset _ (by omega)).trans h.res, ?_, ownsRow_setCell_below h.own (a := ⟨w0.heap.size + 1, 0, none⟩) (by simp) _, h1⟩
  simp [World.setCell, Array.getElem?_modify, h.net]
theorem NetSt.rw (h : NetSt w0 w t tn tw g A len cap m nn (.slice A1 l1 c1) ws) : RW w w.heap.size A1 ws := by
  intro i x hx
  have hl := (List.getElem?_eq_some_iff.1 hx).1
  obtain ⟨g', c', hv, hb, hlt⟩ := h.own.form (by omega)
  injection hv with hv1 hv2 hv3
  obtain ⟨e0, e1, e2⟩ := wyCells_get ws i x hx
  have hc := h.own.cells (g := g') (by rw [hv1]; rfl)
  have a0 := hc _ _ e0
  have a1 := hc _ _ e1
  have a2 := hc _ _ e2
  have add0 : ∀ n, (⟨g', 0, none⟩ : Addr).add n = ⟨g', n, none⟩ := fun n => by unfold Addr.add; split <;> simp_all
  rw [add0] at a0 a1 a2
  exact ⟨g', 0, hv1, hlt, by simpa using a0, by simpa using a1, by simpa using a2⟩
/-- the result is written -/
theorem NetSt.final (h : NetSt w0 w t tn tw g A len cap m nn (.slice A1 ws.length c1) ws) (a b : Value) :
    RW ((w.setCell ⟨w0.heap.size, 0, none⟩ a).setCell ⟨w0.heap.size, 1, none⟩ b) ((w.setCell ⟨w0.heap.size, 0, none⟩ a).setCell ⟨w0.heap.size, 1, none⟩ b).heap.size A1 ws ∧
    (∀ ad, A1 = some ad → w0.heap.size ≤ ad.block) ∧ ws.length ≤ c1 ∧
    RdrE ((w.setCell ⟨w0.heap.size, 0, none⟩ a).setCell ⟨w0.heap.size, 1, none⟩ b) t g A len cap m ∧ w0.grownBy ((w.setCell ⟨w0.heap.size, 0, none⟩ a).setCell ⟨w0.heap.size, 1, none⟩ b) (some g) := by
  have h1 := h.glt
  have hset : ∀ k, k ≠ w0.heap.size → ((w.setCell ⟨w0.heap.size, 0, none⟩ a).setCell ⟨w0.heap.size, 1, none⟩ b).heap[k]? = w.heap[k]? := fun k hk => (Below.heap_setCell _ _ _ _ hk).trans (Below.heap_setCell _ _ _ _ hk)
  obtain ⟨A', c', hv, hc, hA⟩ := h.form
  injection hv with hv1 hv2 hv3
  subst hv1; subst hv3
  refine ⟨fun i x hx => ?_, hA, hc, h.rdr.keep fun k hk => hset k (by omega), only_setCell (only_setCell h.gr (.inr (by simp)) _) (.inr (by simp)) _⟩
  obtain ⟨bb, o, ha, hB, e0, e1, e2⟩ := h.rw i x hx
  have hl := (List.getElem?_eq_some_iff.1 hx).1
  obtain ⟨g', c', hv, hb, hlt⟩ := h.own.form (by omega)
  injection hv with hv1 hv2 hv3
  rw [ha] at hv1
  injection hv1 with hv1
  injection hv1 with hv1 _
  subst hv1
  have hk := hset bb (by omega)
  exact ⟨bb, o, ha, by simpa [World.setCell] using hB, (World.cell?_of_block (w := w) hk).trans e0, (World.cell?_of_block (w := w) hk).trans e1, (World.cell?_of_block (w := w) hk).trans e2⟩
theorem NetSt.final' (h : NetSt w0 w t tn tw g A len cap m nn (.slice A1 l1 c1) ws) (a b : Value) (hl : l1 = ws.length) :
    RW ((w.setCell ⟨w0.heap.size, 0, none⟩ a).setCell ⟨w0.heap.size, 1, none⟩ b) ((w.setCell ⟨w0.heap.size, 0, none⟩ a).setCell ⟨w0.heap.size, 1, none⟩ b).heap.size A1 ws ∧
    (∀ ad, A1 = some ad → w0.heap.size ≤ ad.block) ∧ ws.length ≤ c1 ∧
    RdrE ((w.setCell ⟨w0.heap.size, 0, none⟩ a).setCell ⟨w0.heap.size, 1, none⟩ b) t g A len cap m ∧ w0.grownBy ((w.setCell ⟨w0.heap.size, 0, none⟩ a).setCell ⟨w0.heap.size, 1, none⟩ b) (some g) := by
  subst hl; exact h.final a b
theorem two_at {b : Nat} {x y q : Int} (h0 : w.cell? ⟨b, 0, none⟩ = some (.int .i64 x)) (h1 : w.cell? ⟨b, 1, none⟩ = some (.int .i64 y)) (hq0 : 0 ≤ q) (hq1 : q < 2) : ∃ z, w.cell? ⟨b, q.toNat, none⟩ = some (.int .i64 z) := by
  rcases (by omega : q = 0 ∨ q = 1) with rfl | rfl
  · exact ⟨x, h0⟩
  · exact ⟨y, h1⟩
end

def NetPost (w : World) (t : TypeId) (g : Nat) (A : Option Addr) (len cap : Nat) (m : Int) (e : Ending) (w' : World) : Prop :=
  ∃ (nn : Int) (A' : Option Addr) (c' : Nat) (ws : List Wy), e = .returned (.agg #[.int .i64 nn, .slice A' ws.length c']) ∧ RW w' w'.heap.size A' ws ∧ (∀ ad, A' = some ad → w.heap.size ≤ ad.block) ∧
    ws.length ≤ 10 ∧ ws.length ≤ c' ∧ 0 ≤ nn ∧ nn ≤ 7 ∧ RdrE w' t g A len cap (m + 40) ∧ w.grownBy w' (some g)

theorem infoWy : (Tryd.prog.info? 47).map (fun i => (i.zero, i.size, i.bytes)) = some (some (.agg #[.int .i64 0, .int .i64 0, .int .i64 0]), 3, 24) := by kernel_rfl

end Go.Proofs.YtimccjmphdkbjaaDoor
