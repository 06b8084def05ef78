/- The drawn nets. -/
import Derived.Test.YthadehgpeafniaaWE
import Derived.Test.YthadehgpeafniaaMC
import Derived.Test.YthadehgpeafniaaOrd
import Derived.Deep.RegionHeld3
import Derived.Deep.RegionLaw
import Derived.Deep.AppendLies
import Derived.Deep.DeepCutAuto
import Derived.Deep.CutBlock
import Derived.Deep.DrawnRows
set_option linter.unusedSimpArgs false
set_option linter.unusedVariables false
attribute [local go_sem ↓] Go.wp_at_zero Go.wp_at_succ
namespace Go.Proofs.Ythadehgpeafniaa
open Go.ChangeShapes Go.WideShapes Go.ChangeAt Go.RowKit

def wyCells : List Wy → List Value
  | [] => []
  | x :: ws => .int .i64 x.a :: .int .i64 x.b :: .int .i64 x.c :: wyCells ws

/-- the net under construction: H the size of the heap when the call began; the result's cell is block H, the net's block H + 1 -/
structure NetSt (w0 w : World) (t tn tw : TypeId) (g : Nat) (A : Option Addr) (len cap : Nat) (m : Int) (nn : Int) (v : Value) (ws : List Wy) : Prop where
  rdr : RdrE w t g A len cap m
  gr : w0.grownBy w (some g)
  res : w.heap[w0.heap.size]? = some (.cells #[.int .i64 0, .slice none 0 0] tn (0, 0))
  net : w.heap[w0.heap.size + 1]? = some (.cells #[.int .i64 nn, v] tn (0, 0))
  own : w.ownsRow (w0.heap.size + 2) tw 3 v ws.length (wyCells ws)
  glt : g < w0.heap.size

section
variable {w0 w w' : World} {t tn tw : TypeId} {g : Nat} {A : Option Addr} {len cap : Nat} {m m' nn : Int} {v : Value} {ws : List Wy} {A1 : Option Addr} {l1 c1 : Nat}
theorem RdrE.drew (h : RdrE w t g A len cap m) : RdrE w.drew t g A len cap m := h.keep fun _ _ => rfl
theorem NetSt.start (hr : RdrE w t g A len cap m) (hg : (w0.alloc (.cells #[.int .i64 0, .slice none 0 0] tn)).grownBy w (some g)) (hs : w.heap.size = w0.heap.size + 1) (hlt : g < w0.heap.size) (nn : Int) :
    NetSt w0 (w.alloc (.cells #[.int .i64 nn, .slice none 0 0] tn)) t tn tw g A len cap m nn (.slice none 0 0) [] := by
  refine ⟨hr.keep fun k hk => Below.heap_alloc _ _ _ (by omega), only_alloc (only_trans (only_below ((Below.refl _ _).alloc (Nat.le_refl _) _) _) hg) _, ?_, ?_, World.ownsRow_nil _ _ _ _, hlt⟩
  · rw [Below.heap_alloc _ _ _ (by omega), hg.block _ (by simp) (by intro e; injection e; omega)]
    exact heap_alloc_new _ _
  · rw [← hs]; exact heap_alloc_new _ _
theorem NetSt.keep (h : NetSt w0 w t tn tw g A len cap m nn v ws) (hr : RdrE w' t g A len cap m') (hg : w.grownBy w' (some g)) : NetSt w0 w' t tn tw g A len cap m' nn v ws := by
  have h1 := h.glt
  refine ⟨hr, only_trans h.gr hg, ?_, ?_, h.own.kept hg ?_, h1⟩
  · rw [hg.block _ (Array.getElem?_eq_some_iff.1 h.res).1 (by intro e; injection e; omega)]; exact h.res
  · rw [hg.block _ (Array.getElem?_eq_some_iff.1 h.net).1 (by intro e; injection e; omega)]; exact h.net
  · right; intro e; have := h.own.lt g e; omega
theorem NetSt.drew (h : NetSt w0 w t tn tw g A len cap m nn v ws) : NetSt w0 w.drew t tn tw g A len cap m nn v ws :=
  h.keep h.rdr.drew (only_drew (World.grownBy.refl w _))
theorem NetSt.more (h : NetSt w0 w t tn tw g A len cap m nn v ws) (hm : m ≤ m') : NetSt w0 w t tn tw g A len cap m' nn v ws :=
  h.keep (h.rdr.more hm) (World.grownBy.refl w _)
theorem NetSt.cells (h : NetSt w0 w t tn tw g A len cap m nn v ws) :
    w.cell? ⟨w0.heap.size + 1, 0, none⟩ = some (.int .i64 nn) ∧ w.cell? ⟨w0.heap.size + 1, 1, none⟩ = some v ∧ w.frozen? ⟨w0.heap.size + 1, 0, none⟩ = false ∧ w.frozen? ⟨w0.heap.size + 1, 1, none⟩ = false ∧ w0.heap.size + 1 < w.heap.size := by
  refine ⟨cell_of_row _ _ 0 _ _ (0, 0) h.net, cell_of_row _ _ 1 _ _ (0, 0) h.net, ?_, ?_, (Array.getElem?_eq_some_iff.1 h.net).1⟩ <;> simp [World.frozen?, h.net]
theorem NetSt.resc (h : NetSt w0 w t tn tw g A len cap m nn v ws) :
    w.cell? ⟨w0.heap.size, 0, none⟩ = some (.int .i64 0) ∧ w.cell? ⟨w0.heap.size, 1, none⟩ = some (.slice none 0 0) ∧ w.frozen? ⟨w0.heap.size, 0, none⟩ = false ∧ w.frozen? ⟨w0.heap.size, 1, none⟩ = false := by
  refine ⟨cell_of_row _ _ 0 _ _ (0, 0) h.res, cell_of_row _ _ 1 _ _ (0, 0) h.res, ?_, ?_⟩ <;> simp [World.frozen?, h.res]
theorem wyCells_snoc (ws : List Wy) (x : Wy) : wyCells (ws ++ [x]) = wyCells ws ++ [.int .i64 x.a, .int .i64 x.b, .int .i64 x.c] := by
  induction ws with
  | nil => rfl
  | cons y ws ih => simp [wyCells, ih]
/-- a way is appended: the element lay in a new block ahead of it -/
theorem NetSt.append (h : NetSt w0 w t tn tw g A len cap m nn v ws) (x : Wy) {W w3 : World} {o : Obj} {gg c : Nat} (hW : W.heap = (w.alloc o).heap) (hWo : W.os = w.os) (hWt : W.tape = w.tape) (hWp : W.output = w.output)
    (hown : w3.ownsRow (w0.heap.size + 2) tw 3 (.slice (some ⟨gg, 0, none⟩) (ws.length + 1) c) (ws.length + 1) (wyCells ws ++ [.int .i64 x.a, .int .i64 x.b, .int .i64 x.c])) (hg : W.grownBy w3 v.ownBlock) :
    NetSt w0 (w3.setCell ⟨w0.heap.size + 1, 1, none⟩ (.slice (some ⟨gg, 0, none⟩) (ws.length + 1) c)) t tn tw g A len cap m nn (.slice (some ⟨gg, 0, none⟩) (ws.length + 1) c) (ws ++ [x]) := by
  have h1 := h.glt
  have hsz := h.cells.2.2.2.2
  have hlt : ∀ k, v.ownBlock = some k → w0.heap.size + 2 ≤ k := fun k hk => (h.own.lt k hk).1
  have hWs : W.heap.size = w.heap.size + 1 := by rw [hW]; simp
  have hblk : ∀ k, k < w.heap.size → k < w0.heap.size + 2 → w3.heap[k]? = w.heap[k]? := fun k hk hk2 => by
    rw [hg.block k (by omega) (fun e => by have := hlt k e.symm; omega), hW]
    exact Below.heap_alloc _ _ _ hk
  have hset : ∀ k, k ≠ w0.heap.size + 1 → (w3.setCell ⟨w0.heap.size + 1, 1, none⟩ (.slice (some ⟨gg, 0, none⟩) (ws.length + 1) c)).heap[k]? = w3.heap[k]? := fun k hk => Below.heap_setCell _ _ _ _ hk
  refine ⟨h.rdr.keep fun k hk => ?_, ⟨?_, ?_, ?_, ?_, fun k hk hne => ?_⟩, ?_, ?_, ?_, h1⟩
  · have := h.rdr.lt; rw [hset k (by omega), hblk k (by omega) (by omega)]
  · exact hg.os.trans (hWo.trans h.gr.os)
  · exact hg.tape.trans (hWt.trans h.gr.tape)
  · exact hg.output.trans (hWp.trans h.gr.output)
  · have := hg.size; simp only [World.setCell, Array.size_modify]; omega
  · rw [hset k (by omega), hblk k (by omega) (by omega)]; exact h.gr.block k hk hne
  · rw [hset _ (by omega), hblk _ (by omega) (by omega)]; exact h.res
  · have hn : w3.heap[w0.heap.size + 1]? = some (.cells #[.int .i64 nn, v] tn (0, 0)) := (hblk _ hsz (by omega)).trans h.net
    simp [World.setCell, Array.getElem?_modify, hn]
  · have := ownsRow_setCell_below hown (a := ⟨w0.heap.size + 1, 1, none⟩) (by simp) (.slice (some ⟨gg, 0, none⟩) (ws.length + 1) c)
    simpa [wyCells_snoc] using this
theorem NetSt.app_fr (h : NetSt w0 w t tn tw g A len cap m nn v ws) {o : Obj} {w3 : World} (hg : (w.alloc o).grownBy w3 v.ownBlock) : w3.frozen? ⟨w0.heap.size + 1, 1, none⟩ = false := by
  have hl := h.cells.2.2.2.2
  have e : w3.heap[w0.heap.size + 1]? = w.heap[w0.heap.size + 1]? := (hg.block _ (by simp; omega) (by
    intro e
    have := (h.own.lt _ e.symm).1
    omega)).trans (Below.heap_alloc _ _ _ hl)
  exact (World.frozen?_of_block (w := w) e).trans h.cells.2.2.2.1
theorem NetSt.form (h : NetSt w0 w t tn tw g A len cap m nn v ws) : ∃ A1 c1, v = .slice A1 ws.length c1 ∧ ws.length ≤ c1 ∧ (∀ ad, A1 = some ad → w0.heap.size ≤ ad.block) := by
  rcases h.own.2 with ⟨hv, h0⟩ | ⟨g', c, cur, hv, hb, _, hc, _⟩
  · exact ⟨none, 0, by rw [hv, h0], by omega, fun _ h => by cases h⟩
  · exact ⟨_, c, hv, hc, fun ad hh => by injection hh with hh; subst hh; simp; omega⟩
theorem NetSt.at_new (h : NetSt w0 w t tn tw g A len cap m nn v ws) (o : Obj) : (w.alloc o).cell? ⟨w0.heap.size + 1, 1, none⟩ = some v ∧ (w.alloc o).frozen? ⟨w0.heap.size + 1, 1, none⟩ = false := by
  have hl := h.cells.2.2.2.2
  exact ⟨(World.cell?_alloc_lt w _ _ hl).trans h.cells.2.1, (World.frozen?_of_block (w := w) (Below.heap_alloc w o _ hl)).trans h.cells.2.2.2.1⟩
theorem NetSt.cell_app (h : NetSt w0 w t tn tw g A len cap m nn v ws) {o : Obj} {w3 : World} (hg : (w.alloc o).grownBy w3 v.ownBlock) : w3.cell? ⟨w0.heap.size + 1, 1, none⟩ = some v := by
  have hl := h.cells.2.2.2.2
  refine hg.cell ((World.cell?_alloc_lt w _ _ hl).trans h.cells.2.1) ?_
  intro e
  have := (h.own.lt _ e.symm).1
  simp at this
theorem NetSt.app_all (h : NetSt w0 w t tn tw g A len cap m nn v ws) {o : Obj} {w3 : World} (hg : (w.alloc o).grownBy w3 v.ownBlock) :
    w3.heap[w0.heap.size]? = some (.cells #[.int .i64 0, .slice none 0 0] tn (0, 0)) ∧ w3.cell? ⟨w0.heap.size + 1, 0, none⟩ = some (.int .i64 nn) ∧ w3.frozen? ⟨w0.heap.size + 1, 0, none⟩ = false ∧
    w3.cell? ⟨w0.heap.size, 0, none⟩ = some (.int .i64 0) ∧ w3.cell? ⟨w0.heap.size, 1, none⟩ = some (.slice none 0 0) ∧ w3.frozen? ⟨w0.heap.size, 0, none⟩ = false ∧ w3.frozen? ⟨w0.heap.size, 1, none⟩ = false := by
  have hl := h.cells.2.2.2.2
  have e : ∀ k, k ≤ w0.heap.size + 1 → w3.heap[k]? = w.heap[k]? := fun k hk => (hg.block _ (by simp; omega) (by
    intro e
    have := (h.own.lt _ e.symm).1
    omega)).trans (Below.heap_alloc _ _ _ (by omega))
  have e0 := e w0.heap.size (by omega)
  have e1 := e (w0.heap.size + 1) (by omega)
  obtain ⟨a0, a1, a2, a3⟩ := h.resc
  exact ⟨e0.trans h.res, (World.cell?_of_block (w := w) e1).trans h.cells.1, (World.frozen?_of_block (w := w) e1).trans h.cells.2.2.1,
    (World.cell?_of_block (w := w) e0).trans a0, (World.cell?_of_block (w := w) e0).trans a1, (World.frozen?_of_block (w := w) e0).trans a2, (World.frozen?_of_block (w := w) e0).trans a3⟩
theorem NetSt.alloc_ (h : NetSt w0 w t tn tw g A len cap m nn v ws) (o : Obj) : NetSt w0 (w.alloc o) t tn tw g A len cap m nn v ws :=
  h.keep (h.rdr.keep fun k hk => Below.heap_alloc _ _ _ (by have := h.rdr.lt; omega)) (World.grownBy_alloc w o _)
theorem wyCells_get : ∀ (ws : List Wy) (i : Nat) (x : Wy), ws[i]? = some x → (wyCells ws)[i * 3]? = some (.int .i64 x.a) ∧ (wyCells ws)[i * 3 + 1]? = some (.int .i64 x.b) ∧ (wyCells ws)[i * 3 + 2]? = some (.int .i64 x.c)
  | [], i, x, h => by simp at h
  | y :: ws, 0, x, h => by
    simp at h; subst h
    exact ⟨rfl, rfl, rfl⟩
  | y :: ws, i + 1, x, h => by
    have ih := wyCells_get ws i x (by simpa using h)
    have e0 : (i + 1) * 3 = i * 3 + 1 + 1 + 1 := by omega
    rw [e0]
    simpa [wyCells] using ih
theorem NetSt.setN (h : NetSt w0 w t tn tw g A len cap m nn v ws) (n' : Int) : NetSt w0 (w.setCell ⟨w0.heap.size + 1, 0, none⟩ (.int .i64 n')) t tn tw g A len cap m n' v ws := by
  have h1 := h.glt
  have hset : ∀ k, k ≠ w0.heap.size + 1 → (w.setCell ⟨w0.heap.size + 1, 0, none⟩ (.int .i64 n')).heap[k]? = w.heap[k]? := fun k hk => Below.heap_setCell _ _ _ _ hk
  refine ⟨h.rdr.keep fun k hk => hset k (by omega), only_setCell h.gr (.inr (by simp)) _, (hset _ (by omega)).trans h.res, ?_, ownsRow_setCell_below h.own (a := ⟨w0.heap.size + 1, 0, none⟩) (by simp) _, h1⟩
  simp [World.setCell, Array.getElem?_modify, h.net]
theorem NetSt.rw (h : NetSt w0 w t tn tw g A len cap m nn (.slice A1 l1 c1) ws) : RW w w.heap.size A1 ws := by
  intro i x hx
  have hl := (List.getElem?_eq_some_iff.1 hx).1
  obtain ⟨g', c', hv, hb, hlt⟩ := h.own.form (by omega)
  injection hv with hv1 hv2 hv3
  obtain ⟨e0, e1, e2⟩ := wyCells_get ws i x hx
  have hc := h.own.cells (g := g') (by rw [hv1]; rfl)
  have a0 := hc _ _ e0
  have a1 := hc _ _ e1
  have a2 := hc _ _ e2
  have add0 : ∀ n, (⟨g', 0, none⟩ : Addr).add n = ⟨g', n, none⟩ := fun n => by unfold Addr.add; split <;> simp_all
  rw [add0] at a0 a1 a2
  exact ⟨g', 0, hv1, hlt, by simpa using a0, by simpa using a1, by simpa using a2⟩
/-- the result is written -/
theorem NetSt.final (h : NetSt w0 w t tn tw g A len cap m nn (.slice A1 ws.length c1) ws) (a b : Value) :
    RW ((w.setCell ⟨w0.heap.size, 0, none⟩ a).setCell ⟨w0.heap.size, 1, none⟩ b) ((w.setCell ⟨w0.heap.size, 0, none⟩ a).setCell ⟨w0.heap.size, 1, none⟩ b).heap.size A1 ws ∧
    (∀ ad, A1 = some ad → w0.heap.size ≤ ad.block) ∧ ws.length ≤ c1 ∧
    RdrE ((w.setCell ⟨w0.heap.size, 0, none⟩ a).setCell ⟨w0.heap.size, 1, none⟩ b) t g A len cap m ∧ w0.grownBy ((w.setCell ⟨w0.heap.size, 0, none⟩ a).setCell ⟨w0.heap.size, 1, none⟩ b) (some g) := by
  have h1 := h.glt
  have hset : ∀ k, k ≠ w0.heap.size → ((w.setCell ⟨w0.heap.size, 0, none⟩ a).setCell ⟨w0.heap.size, 1, none⟩ b).heap[k]? = w.heap[k]? := fun k hk => (Below.heap_setCell _ _ _ _ hk).trans (Below.heap_setCell _ _ _ _ hk)
  obtain ⟨A', c', hv, hc, hA⟩ := h.form
  injection hv with hv1 hv2 hv3
  subst hv1; subst hv3
  refine ⟨fun i x hx => ?_, hA, hc, h.rdr.keep fun k hk => hset k (by omega), only_setCell (only_setCell h.gr (.inr (by simp)) _) (.inr (by simp)) _⟩
  obtain ⟨bb, o, ha, hB, e0, e1, e2⟩ := h.rw i x hx
  have hl := (List.getElem?_eq_some_iff.1 hx).1
  obtain ⟨g', c', hv, hb, hlt⟩ := h.own.form (by omega)
  injection hv with hv1 hv2 hv3
  rw [ha] at hv1
  injection hv1 with hv1
  injection hv1 with hv1 _
  subst hv1
  have hk := hset bb (by omega)
  exact ⟨bb, o, ha, by simpa [World.setCell] using hB, (World.cell?_of_block (w := w) hk).trans e0, (World.cell?_of_block (w := w) hk).trans e1, (World.cell?_of_block (w := w) hk).trans e2⟩
theorem NetSt.final' (h : NetSt w0 w t tn tw g A len cap m nn (.slice A1 l1 c1) ws) (a b : Value) (hl : l1 = ws.length) :
    RW ((w.setCell ⟨w0.heap.size, 0, none⟩ a).setCell ⟨w0.heap.size, 1, none⟩ b) ((w.setCell ⟨w0.heap.size, 0, none⟩ a).setCell ⟨w0.heap.size, 1, none⟩ b).heap.size A1 ws ∧
    (∀ ad, A1 = some ad → w0.heap.size ≤ ad.block) ∧ ws.length ≤ c1 ∧
    RdrE ((w.setCell ⟨w0.heap.size, 0, none⟩ a).setCell ⟨w0.heap.size, 1, none⟩ b) t g A len cap m ∧ w0.grownBy ((w.setCell ⟨w0.heap.size, 0, none⟩ a).setCell ⟨w0.heap.size, 1, none⟩ b) (some g) := by
  subst hl; exact h.final a b
theorem two_at {b : Nat} {x y q : Int} (h0 : w.cell? ⟨b, 0, none⟩ = some (.int .i64 x)) (h1 : w.cell? ⟨b, 1, none⟩ = some (.int .i64 y)) (hq0 : 0 ≤ q) (hq1 : q < 2) : ∃ z, w.cell? ⟨b, q.toNat, none⟩ = some (.int .i64 z) := by
  rcases (by omega : q = 0 ∨ q = 1) with rfl | rfl
  · exact ⟨x, h0⟩
  · exact ⟨y, h1⟩
end

def NetPost (w : World) (t : TypeId) (g : Nat) (A : Option Addr) (len cap : Nat) (m : Int) (e : Ending) (w' : World) : Prop :=
  ∃ (nn : Int) (A' : Option Addr) (c' : Nat) (ws : List Wy), e = .returned (.agg #[.int .i64 nn, .slice A' ws.length c']) ∧ RW w' w'.heap.size A' ws ∧ (∀ ad, A' = some ad → w.heap.size ≤ ad.block) ∧
    ws.length ≤ 10 ∧ ws.length ≤ c' ∧ 0 ≤ nn ∧ nn ≤ 7 ∧ RdrE w' t g A len cap (m + 40) ∧ w.grownBy w' (some g)

theorem infoWy : (Try.prog.info? 31).map (fun i => (i.zero, i.size, i.bytes)) = some (some (.agg #[.int .i64 0, .int .i64 0, .int .i64 0]), 3, 24) := by kernel_rfl

set_option maxRecDepth 100000 in
set_option maxHeartbeats 8000000 in
theorem l20Net_any (g : Nat) (A : Option Addr) (len cap : Nat) (m n : Int) (w : World) (hr : RdrE w 64 g A len cap m) (hm : m ≤ 900000) (h1 : 1 ≤ n) (hn : n ≤ 1048576) :
    Calls Try.prog 49 #[.pointer (some ⟨g, 0, none⟩), .int .i64 n] w (NetPost w 64 g A len cap m) := by
  have hg := hr.lt
  go_enter Try.func49, Try.ntmps49
  go_wp2_with fail
  refine (pickE g A len cap m _ _ (hr.below (by go_grown)) (by omega) (by omega)).mono ?_; rintro e w1 ⟨q1, rfl, hq10, hq11, hr1, hg1, hs1⟩
  have hq12 := hq11 (by omega)
  simp only [World.size_alloc] at hs1
  have S0 := Lib.hid (NetSt.start (tn := 25) (tw := 31) hr1 hg1 hs1 hg (2 + q1))
  have hz1 : w.heap.size < w1.heap.size := by omega
  clear hq11 hg1 hr hr1
  go_wp2_with fail
  refine (pickE g A len cap (m + 1) _ _ S0.out.rdr (by omega) (by omega)).mono ?_; rintro e w2 ⟨q2, rfl, hq20, hq21, hr2, hg2, hs2⟩
  have hq22 := hq21 (by omega)
  have S1 := Lib.hid (S0.out.keep hr2 hg2)
  have HS2 := Lib.hid hs2
  clear hq21 hg2 hr2 hs2
  go_upto_block 0 with (fail)
  go_cut [7] (fun s7 wx => ∃ (v : Value) (ws : List Wy), ws.length ≤ 5 ∧ NetSt w wx 64 25 31 g A len cap (m + 12) (2 + q1) v ws)
  case first =>
    --L1
    obtain ⟨i0, hi0, hz0, hz1', hz2⟩ := info_parts infoWy
    go_wp2_with fail
    go_loopw [7] (fun s7 wr => ∃ (k : Int) (v : Value) (ws : List Wy), s7 = .int .i64 k ∧ 1 ≤ k ∧ k ≤ 6 ∧ (ws.length : Int) ≤ k - 1 ∧ NetSt w wr 64 25 31 g A len cap (m + 2 * k) (2 + q1) v ws) (fun s7 _ => (10 - intOf s7).toNat)
    case atStart => exact ⟨1, _, [], rfl, by omega, by omega, by simp, S1.out.more (by omega)⟩
    case round =>
      obtain ⟨k, v, ws, rfl, hk1, hk6, hwl, hst⟩ := hrel
      obtain ⟨c0, c1, f0, f1, hsz⟩ := hst.cells
      have ST := Lib.hid hst
      clear hst
      by_cases hk : k < 2 + q1
      · by_cases ht : 0 < q2
        · go_wp2_with fail
          refine AnyZ.region (S := (fun w' => w'.cell? ⟨w.heap.size + 1, 1, none⟩ = some v)) (z := 12) (by kernel_rfl) ?_ (fun hHeld => ?_)
          · exact c1
          refine AnyZ.take (i := 0) (oi := ⟨_, _, _, _, _, _⟩) (v := ?_) rfl (by kernel_rfl) (by kernel_rfl) (by kernel_rfl) (by kernel_rfl) (fun _ _ _ h => h) (Or.inl ⟨by rfl, ?_⟩) (by assumption) ?_
          rotate_left
          · (intro w hSw; (try dsimp only at hSw); (try simp only [List.getElem_toArray, List.getElem_cons_succ, List.getElem_cons_zero]); first | (go_simp; done) | (go_simp; with_reducible rfl))
          try simp only [Act.put, List.getElem_toArray, List.getElem_cons_succ, List.getElem_cons_zero, List.setIfInBounds_toArray, List.set_cons_zero, List.set_cons_succ]
          refine AnyZ.take (i := 1) (oi := ⟨_, _, _, _, _, _⟩) (v := ?_) rfl (by kernel_rfl) (by kernel_rfl) (by kernel_rfl) (by kernel_rfl) (fun _ _ _ h => h) (Or.inl ⟨by rfl, ?_⟩) (by assumption) ?_
          rotate_left
          · (intro w hSw; (try dsimp only at hSw); (try simp only [List.getElem_toArray, List.getElem_cons_succ, List.getElem_cons_zero]); first | (go_simp; done) | (go_simp; with_reducible rfl))
          try simp only [Act.put, List.getElem_toArray, List.getElem_cons_succ, List.getElem_cons_zero, List.setIfInBounds_toArray, List.set_cons_zero, List.set_cons_succ]
          refine AnyZ.take (i := 2) (oi := ⟨_, _, _, _, _, _⟩) (v := ?_) rfl (by kernel_rfl) (by kernel_rfl) (by kernel_rfl) (by kernel_rfl) (fun _ _ _ h => h) (Or.inl ⟨by rfl, ?_⟩) (by assumption) ?_
          rotate_left
          · (intro w hSw; (try dsimp only at hSw); (try simp only [List.getElem_toArray, List.getElem_cons_succ, List.getElem_cons_zero]); first | (go_simp; done) | (go_simp; with_reducible rfl))
          try simp only [Act.put, List.getElem_toArray, List.getElem_cons_succ, List.getElem_cons_zero, List.setIfInBounds_toArray, List.set_cons_zero, List.set_cons_succ]
          refine AnyZ.take (i := 3) (oi := ⟨_, _, _, _, _, _⟩) (v := ?_) rfl (by kernel_rfl) (by kernel_rfl) (by kernel_rfl) (by kernel_rfl) (fun _ _ _ h => h) (Or.inl ⟨by rfl, ?_⟩) (by assumption) ?_
          rotate_left
          · (intro w hSw; (try dsimp only at hSw); (try simp only [List.getElem_toArray, List.getElem_cons_succ, List.getElem_cons_zero]); first | (go_simp; done) | (go_simp; with_reducible rfl))
          try simp only [Act.put, List.getElem_toArray, List.getElem_cons_succ, List.getElem_cons_zero, List.setIfInBounds_toArray, List.set_cons_zero, List.set_cons_succ]
          refine AnyZ.take (i := 5) (oi := ⟨_, _, _, _, _, _⟩) (v := ?_) rfl (by kernel_rfl) (by kernel_rfl) (by kernel_rfl) (by kernel_rfl) (fun _ _ _ h => h) (Or.inl ⟨by rfl, ?_⟩) (by assumption) ?_
          rotate_left
          · (intro w hSw; (try dsimp only at hSw); (try simp only [List.getElem_toArray, List.getElem_cons_succ, List.getElem_cons_zero]); first | (go_simp; done) | (go_simp; with_reducible rfl))
          try simp only [Act.put, List.getElem_toArray, List.getElem_cons_succ, List.getElem_cons_zero, List.setIfInBounds_toArray, List.set_cons_zero, List.set_cons_succ]
          refine AnyZ.take (i := 6) (oi := ⟨_, _, _, _, _, _⟩) (v := ?_) rfl (by kernel_rfl) (by kernel_rfl) (by kernel_rfl) (by kernel_rfl) (fun _ _ _ h => h) (Or.inl ⟨by rfl, ?_⟩) (by assumption) ?_
          rotate_left
          · (intro w hSw; (try dsimp only at hSw); (try simp only [List.getElem_toArray, List.getElem_cons_succ, List.getElem_cons_zero]); first | (go_simp; done) | (go_simp; with_reducible rfl))
          try simp only [Act.put, List.getElem_toArray, List.getElem_cons_succ, List.getElem_cons_zero, List.setIfInBounds_toArray, List.set_cons_zero, List.set_cons_succ]
          refine AnyZ.step (i := 4) (o := ⟨_, _, _, _, _, _⟩) (by kernel_rfl) rfl (fun K hK => ?_)
          go_simp
          go_at_call 50; (with_reducible refine (pickE g A len cap (m + 2 * k) k wr.drew ST.out.rdr.drew (by omega) (by omega)).mono ?_); rintro e w3 ⟨q3, rfl, hq30, hq31, hr3, hg3, hs3⟩; have S4 := Lib.hid (ST.out.drew.keep hr3 hg3); have hz3 : w.heap.size + 1 < w3.heap.size := (by rw [hs3]; exact hsz); have cc3 := S4.out.cells.2.1; clear hs3 hq31 hr3 hg3
          refine hK.out _ _ (fun _ => ?_) (fun hHeld' => ?_)
          · exact cc3
          have hHeld := hHeld' (by decide)
          clear hHeld'
          clear hK K
          try simp only [Act.put, List.getElem_toArray, List.getElem_cons_succ, List.getElem_cons_zero, List.setIfInBounds_toArray, List.set_cons_zero, List.set_cons_succ]
          refine AnyZ.step (i := 7) (o := ⟨_, _, _, _, _, _⟩) (by kernel_rfl) rfl (fun K hK => ?_)
          go_simp
          go_at_call 50; (with_reducible refine (pickE g A len cap (m + 2 * k + 1) 10 w3 S4.out.rdr (by omega) (by omega)).mono ?_); rintro e w4 ⟨q4, rfl, hq40, hq41, hr4, hg4, hs4⟩; have S5 := Lib.hid (S4.out.keep hr4 hg4); have hz4 : w.heap.size + 1 < w4.heap.size := (by rw [hs4]; exact hz3); have cc4 := S5.out.cells.2.1; clear hs4 hq41 hr4 hg4
          refine hK.out _ _ (fun _ => ?_) (fun hHeld' => ?_)
          · exact cc4
          have hHeld := hHeld' (by decide)
          clear hHeld'
          clear hK K
          try simp only [Act.put, List.getElem_toArray, List.getElem_cons_succ, List.getElem_cons_zero, List.setIfInBounds_toArray, List.set_cons_zero, List.set_cons_succ]
          refine AnyZ.take (i := 8) (oi := ⟨_, _, _, _, _, _⟩) (v := ?_) rfl (by kernel_rfl) (by kernel_rfl) (by kernel_rfl) (by kernel_rfl) (fun _ _ _ h => h) (Or.inl ⟨by rfl, ?_⟩) (by assumption) ?_
          rotate_left
          · (intro w hSw; (try dsimp only at hSw); (try simp only [List.getElem_toArray, List.getElem_cons_succ, List.getElem_cons_zero]); first | (go_simp; done) | (go_simp; with_reducible rfl))
          try simp only [Act.put, List.getElem_toArray, List.getElem_cons_succ, List.getElem_cons_zero, List.setIfInBounds_toArray, List.set_cons_zero, List.set_cons_succ]
          refine AnyZ.step (i := 9) (o := ⟨_, _, _, _, _, _⟩) (by kernel_rfl) rfl (fun K hK => ?_)
          go_simp
          refine hK.out _ _ (fun _ => ?_) (fun hHeld' => ?_)
          · exact (World.cell?_alloc_lt _ _ _ hz4).trans cc4
          have hHeld := hHeld' (by decide)
          clear hHeld'
          clear hK K
          try simp only [Act.put, List.getElem_toArray, List.getElem_cons_succ, List.getElem_cons_zero, List.setIfInBounds_toArray, List.set_cons_zero, List.set_cons_succ]
          refine AnyZ.step (i := 10) (o := ⟨_, _, _, _, _, _⟩) (by kernel_rfl) rfl (fun K hK => ?_)
          refine step_append_lies _ (by rfl) _ _ _ (by rfl) (w.heap.size + 2) 31 i0 _ 3 24 Try.underlying23 hi0 hz0 hz1' hz2 rfl (by omega) v ws.length (wyCells ws) (by rfl) (S5.out.own.alloc _) ⟨w4.heap.size, 0, none⟩ 1 1 [.int .i64 q3, .int .i64 k, .int .i64 q4] (by rfl) (by rfl) (World.news_of_block (cs := #[.int .i64 q3, .int .i64 k, .int .i64 q4]) (t := 31) (fr := (0, 0)) (heap_alloc_new w4 _)) (by simp [Value.oneCell']) (by omega) (by unfold maxLen; omega) (by omega) (by simp; omega) (w4.heap.size + 1) (by simp) ?_; intro gg cc w5 hown5 hgrow5 hat5 hlt5; have cf5 := S5.out.app_fr hgrow5; have cc5 := S5.out.cell_app hgrow5
          refine hK.out _ _ (fun _ => ?_) (fun hHeld' => ?_)
          · exact cc5
          have hHeld := hHeld' (by decide)
          clear hHeld'
          clear hK K
          try simp only [Act.put, List.getElem_toArray, List.getElem_cons_succ, List.getElem_cons_zero, List.setIfInBounds_toArray, List.set_cons_zero, List.set_cons_succ]
          refine AnyZ.take (i := 11) (oi := ⟨_, _, _, _, _, _⟩) (v := ?_) rfl (by kernel_rfl) (by kernel_rfl) (by kernel_rfl) (by kernel_rfl) (fun _ _ _ h => h) (Or.inl ⟨by rfl, ?_⟩) (by assumption) ?_
          rotate_left
          · (intro w hSw; (try dsimp only at hSw); (try simp only [List.getElem_toArray, List.getElem_cons_succ, List.getElem_cons_zero]); first | (go_simp; done) | (go_simp; with_reducible rfl))
          try simp only [Act.put, List.getElem_toArray, List.getElem_cons_succ, List.getElem_cons_zero, List.setIfInBounds_toArray, List.set_cons_zero, List.set_cons_succ]
          refine AnyZ.step (i := 12) (o := ⟨_, _, _, _, _, _⟩) (by kernel_rfl) rfl (fun K hK => ?_)
          go_simp
          refine hK.out _ _ (fun h => absurd rfl h) (fun _ => ?_)
          clear hK K
          try simp only [Act.put, List.getElem_toArray, List.getElem_cons_succ, List.getElem_cons_zero, List.setIfInBounds_toArray, List.set_cons_zero, List.set_cons_succ]
          refine AnyZ.done (by kernel_rfl) ?_ _
          focus
            go_wp2_with fail
            go_roundw
            case rel => exact ⟨k + 1, _, ws ++ [⟨q3, k, q4⟩], by go_num, by omega, by omega, by simp; omega, (NetSt.append S5.out ⟨q3, k, q4⟩ rfl rfl rfl rfl hown5 hgrow5).more (by omega)⟩
            case measure => simp [intOf]; omega
        · go_wp2_with fail
          all_goals go_meet
          all_goals exact ⟨v, ws, by omega, ST.out.more (by omega)⟩
      · go_wp2_with fail
        all_goals go_meet
        all_goals exact ⟨v, ws, by omega, ST.out.more (by omega)⟩
  --L1end
  case rest =>
    obtain ⟨v0, ws0, hwl0, hst0⟩ := hcut
    have hsz0 := hst0.cells.2.2.2.2
    have S2 := Lib.hid hst0
    clear hst0
    go_wp2_with fail
    refine (pickE g A len cap (m + 12) _ _ S2.out.rdr (by omega) (by omega)).mono ?_; rintro e w3 ⟨q5, rfl, hq50, hq51, hr3, hg3, hs3⟩
    have hq52 := hq51 (by omega)
    have S3 := Lib.hid (S2.out.keep hr3 hg3)
    clear hq51 hg3 hr3 hs3 S2
    go_upto_block 2 with (fail)
    go_cut [8, 9] (fun s8 s9 wx => ∃ (v : Value) (ws : List Wy), ws.length ≤ 9 ∧ NetSt w wx 64 25 31 g A len cap (m + 25) (2 + q1) v ws)
    case first =>
      --L2
      obtain ⟨i0, hi0, hz0, hz1', hz2⟩ := info_parts infoWy
      go_wp2_with fail
      go_loopw [8] (fun s8 wr => ∃ (k : Int) (v : Value) (ws : List Wy), s8 = .int .i64 k ∧ 0 ≤ k ∧ k ≤ 4 ∧ ws.length ≤ 9 ∧ NetSt w wr 64 25 31 g A len cap (m + 25 - 3 * k) (2 + q1) v ws) (fun s8 _ => (intOf s8).toNat)
      case atStart => exact ⟨q5, _, ws0, rfl, by omega, by omega, by omega, S3.out.more (by omega)⟩
      case round =>
        obtain ⟨k, v, ws, rfl, hk0, hk4, hwl, hst⟩ := hrel
        obtain ⟨A1, c1, rfl, hc1, -⟩ := hst.form
        obtain ⟨c0, cc1, f0, f1, hsz⟩ := hst.cells
        have ST := Lib.hid hst
        clear hst
        by_cases hk : 0 < k
        · by_cases ht : ws.length < 9
          · go_wp2_with fail
            refine (pickE g A len cap _ _ _ ST.out.rdr (by omega) (by omega)).mono ?_; rintro e w4 ⟨q6, rfl, hq60, hq61, hr4, hg4, hs4⟩
            have hq62 := hq61 (by omega)
            have S4 := Lib.hid (ST.out.keep hr4 hg4)
            obtain ⟨d0, d1, e0, e1, hsz4⟩ := S4.out.cells
            clear hq61 hg4 hr4 hs4 c0 cc1 f0 f1
            go_wp2_with fail
            have hs1 : IntKind.i64.wrap (q6 + 1) = q6 + 1 := IntWalk.i64_in _ ⟨by omega, by omega⟩
            have hs2 : IntKind.i64.wrap (2 + q1 - 1) = 2 + q1 - 1 := IntWalk.i64_in _ ⟨by omega, by omega⟩
            have hn0 : ¬ (2 + q1 = 0) := by omega
            refine AnyZ.region (S := (fun w' => w'.cell? ⟨w.heap.size + 1, 0, none⟩ = some (.int .i64 (2 + q1)) ∧ w'.cell? ⟨w.heap.size + 1, 1, none⟩ = some (.slice A1 ws.length c1))) (z := 20) (by kernel_rfl) ?_ (fun hHeld => ?_)
            · exact ⟨d0, d1⟩
            refine AnyZ.take (i := 0) (oi := ⟨_, _, _, _, _, _⟩) (v := ?_) rfl (by kernel_rfl) (by kernel_rfl) (by kernel_rfl) (by kernel_rfl) (fun _ _ _ h => h) (Or.inl ⟨by rfl, ?_⟩) (by assumption) ?_
            rotate_left
            · (intro w hSw; (try dsimp only at hSw); (try simp only [List.getElem_toArray, List.getElem_cons_succ, List.getElem_cons_zero]); first | (go_simp; done) | (go_simp; with_reducible rfl))
            try simp only [Act.put, List.getElem_toArray, List.getElem_cons_succ, List.getElem_cons_zero, List.setIfInBounds_toArray, List.set_cons_zero, List.set_cons_succ]
            refine AnyZ.take (i := 1) (oi := ⟨_, _, _, _, _, _⟩) (v := ?_) rfl (by kernel_rfl) (by kernel_rfl) (by kernel_rfl) (by kernel_rfl) (fun _ _ _ h => h) (Or.inl ⟨by rfl, ?_⟩) (by assumption) ?_
            rotate_left
            · (intro w hSw; (try dsimp only at hSw); (try simp only [List.getElem_toArray, List.getElem_cons_succ, List.getElem_cons_zero]); first | (go_simp; done) | (go_simp; with_reducible rfl))
            try simp only [Act.put, List.getElem_toArray, List.getElem_cons_succ, List.getElem_cons_zero, List.setIfInBounds_toArray, List.set_cons_zero, List.set_cons_succ]
            refine AnyZ.take (i := 2) (oi := ⟨_, _, _, _, _, _⟩) (v := ?_) rfl (by kernel_rfl) (by kernel_rfl) (by kernel_rfl) (by kernel_rfl) (fun _ _ _ h => h) (Or.inl ⟨by rfl, ?_⟩) (by assumption) ?_
            rotate_left
            · (intro w hSw; (try dsimp only at hSw); (try simp only [List.getElem_toArray, List.getElem_cons_succ, List.getElem_cons_zero]); first | (go_simp; done) | (go_simp; with_reducible rfl))
            try simp only [Act.put, List.getElem_toArray, List.getElem_cons_succ, List.getElem_cons_zero, List.setIfInBounds_toArray, List.set_cons_zero, List.set_cons_succ]
            refine AnyZ.take (i := 3) (oi := ⟨_, _, _, _, _, _⟩) (v := ?_) rfl (by kernel_rfl) (by kernel_rfl) (by kernel_rfl) (by kernel_rfl) (fun _ _ _ h => h) (Or.inl ⟨by rfl, ?_⟩) (by assumption) ?_
            rotate_left
            · (intro w hSw; (try dsimp only at hSw); (try simp only [List.getElem_toArray, List.getElem_cons_succ, List.getElem_cons_zero]); first | (go_simp; done) | (go_simp; with_reducible rfl))
            try simp only [Act.put, List.getElem_toArray, List.getElem_cons_succ, List.getElem_cons_zero, List.setIfInBounds_toArray, List.set_cons_zero, List.set_cons_succ]
            refine AnyZ.take (i := 4) (oi := ⟨_, _, _, _, _, _⟩) (v := ?_) rfl (by kernel_rfl) (by kernel_rfl) (by kernel_rfl) (by kernel_rfl) (fun _ _ _ h => h) (Or.inl ⟨by rfl, ?_⟩) (by assumption) ?_
            rotate_left
            · (intro w hSw; (try dsimp only at hSw); (try simp only [List.getElem_toArray, List.getElem_cons_succ, List.getElem_cons_zero]); first | (go_simp; done) | (go_simp; with_reducible rfl))
            try simp only [Act.put, List.getElem_toArray, List.getElem_cons_succ, List.getElem_cons_zero, List.setIfInBounds_toArray, List.set_cons_zero, List.set_cons_succ]
            refine AnyZ.take (i := 5) (oi := ⟨_, _, _, _, _, _⟩) (v := ?_) rfl (by kernel_rfl) (by kernel_rfl) (by kernel_rfl) (by kernel_rfl) (fun _ _ _ h => h) (Or.inl ⟨by rfl, ?_⟩) (by assumption) ?_
            rotate_left
            · (intro w hSw; (try dsimp only at hSw); (try simp only [List.getElem_toArray, List.getElem_cons_succ, List.getElem_cons_zero]); first | (go_simp; done) | (go_simp; with_reducible rfl))
            try simp only [Act.put, List.getElem_toArray, List.getElem_cons_succ, List.getElem_cons_zero, List.setIfInBounds_toArray, List.set_cons_zero, List.set_cons_succ]
            refine AnyZ.take (i := 6) (oi := ⟨_, _, _, _, _, _⟩) (v := ?_) rfl (by kernel_rfl) (by kernel_rfl) (by kernel_rfl) (by kernel_rfl) (fun _ _ _ h => h) (Or.inl ⟨by rfl, ?_⟩) (by assumption) ?_
            rotate_left
            · (intro w hSw; (try dsimp only at hSw); (try simp only [List.getElem_toArray, List.getElem_cons_succ, List.getElem_cons_zero]); first | (go_simp; done) | (go_simp; with_reducible rfl))
            try simp only [Act.put, List.getElem_toArray, List.getElem_cons_succ, List.getElem_cons_zero, List.setIfInBounds_toArray, List.set_cons_zero, List.set_cons_succ]
            refine AnyZ.take (i := 7) (oi := ⟨_, _, _, _, _, _⟩) (v := ?_) rfl (by kernel_rfl) (by kernel_rfl) (by kernel_rfl) (by kernel_rfl) (fun _ _ _ h => h) (Or.inl ⟨by rfl, ?_⟩) (by assumption) ?_
            rotate_left
            · (intro w hSw; (try dsimp only at hSw); (try simp only [List.getElem_toArray, List.getElem_cons_succ, List.getElem_cons_zero]); first | (go_simp; done) | (go_simp; with_reducible rfl))
            try simp only [Act.put, List.getElem_toArray, List.getElem_cons_succ, List.getElem_cons_zero, List.setIfInBounds_toArray, List.set_cons_zero, List.set_cons_succ]
            refine AnyZ.take (i := 8) (oi := ⟨_, _, _, _, _, _⟩) (v := ?_) rfl (by kernel_rfl) (by kernel_rfl) (by kernel_rfl) (by kernel_rfl) (fun _ _ _ h => h) (Or.inl ⟨by rfl, ?_⟩) (by assumption) ?_
            rotate_left
            · (intro w hSw; (try dsimp only at hSw); (try simp only [List.getElem_toArray, List.getElem_cons_succ, List.getElem_cons_zero]); first | (go_simp; done) | (go_simp; with_reducible rfl))
            try simp only [Act.put, List.getElem_toArray, List.getElem_cons_succ, List.getElem_cons_zero, List.setIfInBounds_toArray, List.set_cons_zero, List.set_cons_succ]
            refine AnyZ.take (i := 11) (oi := ⟨_, _, _, _, _, _⟩) (v := ?_) rfl (by kernel_rfl) (by kernel_rfl) (by kernel_rfl) (by kernel_rfl) (fun _ _ _ h => h) (Or.inl ⟨by rfl, ?_⟩) (by assumption) ?_
            rotate_left
            · (intro w hSw; (try dsimp only at hSw); (try simp only [List.getElem_toArray, List.getElem_cons_succ, List.getElem_cons_zero]); first | (go_simp; done) | (go_simp; with_reducible rfl))
            try simp only [Act.put, List.getElem_toArray, List.getElem_cons_succ, List.getElem_cons_zero, List.setIfInBounds_toArray, List.set_cons_zero, List.set_cons_succ]
            refine AnyZ.take (i := 12) (oi := ⟨_, _, _, _, _, _⟩) (v := ?_) rfl (by kernel_rfl) (by kernel_rfl) (by kernel_rfl) (by kernel_rfl) (fun _ _ _ h => h) (Or.inl ⟨by rfl, ?_⟩) (by assumption) ?_
            rotate_left
            · (intro w hSw; (try dsimp only at hSw); (try simp only [List.getElem_toArray, List.getElem_cons_succ, List.getElem_cons_zero]); first | (go_simp; done) | (go_simp; with_reducible rfl))
            try simp only [Act.put, List.getElem_toArray, List.getElem_cons_succ, List.getElem_cons_zero, List.setIfInBounds_toArray, List.set_cons_zero, List.set_cons_succ]
            refine AnyZ.take (i := 14) (oi := ⟨_, _, _, _, _, _⟩) (v := ?_) rfl (by kernel_rfl) (by kernel_rfl) (by kernel_rfl) (by kernel_rfl) (fun _ _ _ h => h) (Or.inl ⟨by rfl, ?_⟩) (by assumption) ?_
            rotate_left
            · (intro w hSw; (try dsimp only at hSw); (try simp only [List.getElem_toArray, List.getElem_cons_succ, List.getElem_cons_zero]); first | (go_simp; done) | (go_simp; with_reducible rfl))
            try simp only [Act.put, List.getElem_toArray, List.getElem_cons_succ, List.getElem_cons_zero, List.setIfInBounds_toArray, List.set_cons_zero, List.set_cons_succ]
            refine AnyZ.step (i := 9) (o := ⟨_, _, _, _, _, _⟩) (by kernel_rfl) rfl (fun K hK => ?_)
            go_simp
            go_at_call 50; (with_reducible refine (pickE g A len cap (m + 25 - 3 * k + 1) (2 + q1 - 1) w4.drew S4.out.rdr.drew (by omega) (by omega)).mono ?_); rintro e w5 ⟨q7, rfl, hq70, hq71, hr5, hg5, hs5⟩; have S5 := Lib.hid (S4.out.drew.keep hr5 hg5); have hz5 : w.heap.size + 1 < w5.heap.size := (by rw [hs5]; exact hsz4); have hq72 := hq71 (by omega); have cc5 := S5.out.cells.2.1; have ca5 := S5.out.cells.1; obtain ⟨bb, hbb⟩ : ∃ bb : Int, (IntKind.i64.wrap (q6 + 1 + q7)).tmod (2 + q1) = bb := ⟨_, rfl⟩; clear hs5 hq71 hr5 hg5
            refine hK.out _ _ (fun _ => ?_) (fun hHeld' => ?_)
            · exact ⟨ca5, cc5⟩
            have hHeld := hHeld' (by decide)
            clear hHeld'
            clear hK K
            try simp only [Act.put, List.getElem_toArray, List.getElem_cons_succ, List.getElem_cons_zero, List.setIfInBounds_toArray, List.set_cons_zero, List.set_cons_succ]
            refine AnyZ.take (i := 10) (oi := ⟨_, _, _, _, _, _⟩) (v := ?_) rfl (by kernel_rfl) (by kernel_rfl) (by kernel_rfl) (by kernel_rfl) (fun _ _ _ h => h) (Or.inl ⟨by rfl, ?_⟩) (by assumption) ?_
            rotate_left
            · (intro w hSw; (try dsimp only at hSw); (try simp only [List.getElem_toArray, List.getElem_cons_succ, List.getElem_cons_zero]); first | (go_simp; done) | (go_simp; with_reducible rfl))
            try simp only [Act.put, List.getElem_toArray, List.getElem_cons_succ, List.getElem_cons_zero, List.setIfInBounds_toArray, List.set_cons_zero, List.set_cons_succ]
            refine AnyZ.take (i := 13) (oi := ⟨_, _, _, _, _, _⟩) (v := ?_) rfl (by kernel_rfl) (by kernel_rfl) (by kernel_rfl) (by kernel_rfl) (fun _ _ _ h => h) (Or.inl ⟨by rfl, ?_⟩) (by assumption) ?_
            rotate_left
            · (intro w hSw; (try dsimp only at hSw); (try simp only [List.getElem_toArray, List.getElem_cons_succ, List.getElem_cons_zero]); first | (go_simp; done) | (go_simp; with_reducible rfl))
            try simp only [Act.put, List.getElem_toArray, List.getElem_cons_succ, List.getElem_cons_zero, List.setIfInBounds_toArray, List.set_cons_zero, List.set_cons_succ]
            refine AnyZ.step (i := 15) (o := ⟨_, _, _, _, _, _⟩) (by kernel_rfl) rfl (fun K hK => ?_)
            go_simp
            go_at_call 50; (with_reducible refine (pickE g A len cap (m + 25 - 3 * k + 1 + 1) 10 w5 S5.out.rdr (by omega) (by omega)).mono ?_); rintro e w6 ⟨q8, rfl, hq80, hq81, hr6, hg6, hs6⟩; have S6 := Lib.hid (S5.out.keep hr6 hg6); have hz6 : w.heap.size + 1 < w6.heap.size := (by rw [hs6]; exact hz5); have cc6 := S6.out.cells.2.1; have ca6 := S6.out.cells.1; clear hs6 hq81 hr6 hg6
            refine hK.out _ _ (fun _ => ?_) (fun hHeld' => ?_)
            · exact ⟨ca6, cc6⟩
            have hHeld := hHeld' (by decide)
            clear hHeld'
            clear hK K
            try simp only [Act.put, List.getElem_toArray, List.getElem_cons_succ, List.getElem_cons_zero, List.setIfInBounds_toArray, List.set_cons_zero, List.set_cons_succ]
            refine AnyZ.take (i := 16) (oi := ⟨_, _, _, _, _, _⟩) (v := ?_) rfl (by kernel_rfl) (by kernel_rfl) (by kernel_rfl) (by kernel_rfl) (fun _ _ _ h => h) (Or.inl ⟨by rfl, ?_⟩) (by assumption) ?_
            rotate_left
            · (intro w hSw; (try dsimp only at hSw); (try simp only [List.getElem_toArray, List.getElem_cons_succ, List.getElem_cons_zero]); first | (go_simp; done) | (go_simp; with_reducible rfl))
            try simp only [Act.put, List.getElem_toArray, List.getElem_cons_succ, List.getElem_cons_zero, List.setIfInBounds_toArray, List.set_cons_zero, List.set_cons_succ]
            refine AnyZ.step (i := 17) (o := ⟨_, _, _, _, _, _⟩) (by kernel_rfl) rfl (fun K hK => ?_)
            go_simp
            refine hK.out _ _ (fun _ => ?_) (fun hHeld' => ?_)
            · exact ⟨(World.cell?_alloc_lt _ _ _ hz6).trans ca6, (World.cell?_alloc_lt _ _ _ hz6).trans cc6⟩
            have hHeld := hHeld' (by decide)
            clear hHeld'
            clear hK K
            try simp only [Act.put, List.getElem_toArray, List.getElem_cons_succ, List.getElem_cons_zero, List.setIfInBounds_toArray, List.set_cons_zero, List.set_cons_succ]
            refine AnyZ.step (i := 18) (o := ⟨_, _, _, _, _, _⟩) (by kernel_rfl) rfl (fun K hK => ?_)
            refine step_append_lies _ (by rfl) _ _ _ (by rfl) (w.heap.size + 2) 31 i0 _ 3 24 Try.underlying23 hi0 hz0 hz1' hz2 rfl (by omega) (.slice A1 ws.length c1) ws.length (wyCells ws) (by rfl) (S6.out.own.alloc _) ⟨w6.heap.size, 0, none⟩ 1 1 [.int .i64 q6, .int .i64 bb, .int .i64 q8] (by rfl) (by rfl) (World.news_of_block (cs := #[.int .i64 q6, .int .i64 bb, .int .i64 q8]) (t := 31) (fr := (0, 0)) (heap_alloc_new w6 _)) (by simp [Value.oneCell']) (by omega) (by unfold maxLen; omega) (by omega) (by simp; omega) (w6.heap.size + 1) (by simp) ?_; intro gg cc w7 hown7 hgrow7 hat7 hlt7; have cf7 := S6.out.app_fr hgrow7; have cc7 := S6.out.cell_app hgrow7; have ca7 : w7.cell? ⟨w.heap.size + 1, 0, none⟩ = some (.int .i64 (2 + q1)) := (S6.out.app_all hgrow7).2.1
            refine hK.out _ _ (fun _ => ?_) (fun hHeld' => ?_)
            · exact ⟨ca7, cc7⟩
            have hHeld := hHeld' (by decide)
            clear hHeld'
            clear hK K
            try simp only [Act.put, List.getElem_toArray, List.getElem_cons_succ, List.getElem_cons_zero, List.setIfInBounds_toArray, List.set_cons_zero, List.set_cons_succ]
            refine AnyZ.take (i := 19) (oi := ⟨_, _, _, _, _, _⟩) (v := ?_) rfl (by kernel_rfl) (by kernel_rfl) (by kernel_rfl) (by kernel_rfl) (fun _ _ _ h => h) (Or.inl ⟨by rfl, ?_⟩) (by assumption) ?_
            rotate_left
            · (intro w hSw; (try dsimp only at hSw); (try simp only [List.getElem_toArray, List.getElem_cons_succ, List.getElem_cons_zero]); first | (go_simp; done) | (go_simp; with_reducible rfl))
            try simp only [Act.put, List.getElem_toArray, List.getElem_cons_succ, List.getElem_cons_zero, List.setIfInBounds_toArray, List.set_cons_zero, List.set_cons_succ]
            refine AnyZ.step (i := 20) (o := ⟨_, _, _, _, _, _⟩) (by kernel_rfl) rfl (fun K hK => ?_)
            go_simp
            refine hK.out _ _ (fun h => absurd rfl h) (fun _ => ?_)
            clear hK K
            try simp only [Act.put, List.getElem_toArray, List.getElem_cons_succ, List.getElem_cons_zero, List.setIfInBounds_toArray, List.set_cons_zero, List.set_cons_succ]
            refine AnyZ.done (by kernel_rfl) ?_ _
            focus
              clear hbb
              go_wp2_with fail
              go_roundw
              case rel => exact ⟨k - 1, _, ws ++ [⟨q6, bb, q8⟩], by go_num, by omega, by omega, by simp; omega, (NetSt.append S6.out ⟨q6, bb, q8⟩ rfl rfl rfl rfl hown7 hgrow7).more (by omega)⟩
              case measure => simp [intOf]; omega
          · go_wp2_with fail
            all_goals go_meet
            all_goals exact ⟨_, ws, by omega, ST.out.more (by omega)⟩
        · go_wp2_with fail
          all_goals go_meet
          all_goals exact ⟨_, ws, by omega, ST.out.more (by omega)⟩
    --L2end
    case rest =>
      obtain ⟨v1, ws1, hwl1, hst1⟩ := hcut
      obtain ⟨A1, c1, rfl, hc1, hA1⟩ := hst1.form
      have S3 := Lib.hid hst1
      clear hst1
      go_wp2_with fail
      refine (oddE g A len cap (m + 25) n _ S3.out.rdr (by omega) h1 hn).mono ?_; rintro e w4 ⟨bq, rfl, hr4, hg4, hs4⟩
      have S4 := Lib.hid (S3.out.keep hr4 hg4)
      obtain ⟨d0, d1, e0, e1, hsz4⟩ := S4.out.cells
      obtain ⟨r0, r1, rf0, rf1⟩ := S4.out.resc
      have hfin := fun (W : World) (nn : Int) (A2 : Option Addr) (l2 c2 : Nat) (t0 : W.heap[w.heap.size]? = some (.cells #[.int .i64 0, .slice none 0 0] 25 (0, 0))) => two_cells (v0 := .int .i64 nn) (v1 := .slice A2 l2 c2) t0
      have HF := Lib.hid hfin
      clear hg4 hr4 hs4 hfin
      cases bq
      · have T := Lib.hid (HF.out w4 (2 + q1) A1 ws1.length c1 S4.out.res)
        go_wp2_with fail
        obtain ⟨t0, t1⟩ := T.out
        obtain ⟨f1, f2, f3, f4, f5⟩ := S4.out.final (.int .i64 (2 + q1)) (.slice A1 ws1.length c1)
        exact bodyPost_ret (v := .agg #[.int .i64 (2 + q1), .slice A1 ws1.length c1]) (by simp [results, Try.results49, go_sem, t0, t1]) rfl ⟨2 + q1, A1, c1, ws1, rfl, f1, f2, by omega, f3, by omega, by omega, f4.more (by omega), f5⟩
      · go_wp2_with fail
        refine (pickE g A len cap (m + 25 + 1) _ _ S4.out.rdr (by omega) (by omega)).mono ?_; rintro e w5 ⟨q6, rfl, hq60, hq61, hr5, hg5, hs5⟩
        have hq62 := hq61 (by omega)
        have S5 := Lib.hid (S4.out.keep hr5 hg5)
        obtain ⟨x0, x1, y0, y1, hsz5⟩ := S5.out.cells
        obtain ⟨u0, u1, uf0, uf1⟩ := S5.out.resc
        clear hg5 hr5 hs5 hq61 d0 d1 e0 e1 r0 r1 rf0 rf1 hsz4
        obtain rfl | rfl | rfl | rfl : q6 = 0 ∨ q6 = 1 ∨ q6 = 2 ∨ q6 = 3 := by omega
        · have T := Lib.hid (HF.out w5 0 none 0 0 S5.out.res)
          go_wp2_with fail
          obtain ⟨t0, t1⟩ := T.out
          obtain ⟨f1, f2, f3, f4, f5⟩ := S5.out.final (.int .i64 0) (.slice none 0 0)
          exact bodyPost_ret (v := .agg #[.int .i64 0, .slice none 0 0]) (by simp [results, Try.results49, go_sem, t0, t1]) rfl ⟨0, none, 0, [], rfl, (fun i x hx => by simp at hx), (fun ad h => by cases h), by simp, by simp, by omega, by omega, f4.more (by omega), f5⟩
        · obtain ⟨i0, hi0, hz0, hz1', hz2⟩ := info_parts infoWy
          go_wp2_with (at_builtin; refine wpList_append_lies _ rfl _ _ _ rfl (w.heap.size + 2) 31 i0 _ 3 24 Try.underlying23 hi0 hz0 hz1' hz2 rfl (by omega) (.slice A1 ws1.length c1) ws1.length (wyCells ws1) rfl (S5.out.own.alloc _) ⟨w5.heap.size, 0, none⟩ 1 1 [.int .i64 1, .int .i64 1, .int .i64 0] rfl rfl (World.news_of_block (cs := #[.int .i64 1, .int .i64 1, .int .i64 0]) (t := 31) (fr := (0, 0)) (heap_alloc_new w5 _)) (by simp [Value.oneCell']) (by omega) (by unfold maxLen; omega) (by omega) (by simp; omega) (w5.heap.size + 1) (by simp) ?_; intro gg cc w7 hown7 hgrow7 hat7 hlt7; have cf7 := S5.out.app_fr hgrow7; have cc7 := S5.out.cell_app hgrow7; obtain ⟨hr7, g0, g1, g2, g3, g4, g5⟩ := S5.out.app_all hgrow7; have T := Lib.hid (HF.out (w7.setCell ⟨w.heap.size + 1, 1, none⟩ (.slice (some ⟨gg, 0, none⟩) (ws1.length + 1) cc)) (2 + q1) (some ⟨gg, 0, none⟩) (ws1.length + 1) cc ((Below.heap_setCell _ _ _ _ (by simp)).trans hr7)); clear hr7)
          obtain ⟨t0, t1⟩ := T.out
          obtain ⟨f1, f2, f3, f4, f5⟩ := (NetSt.append S5.out ⟨1, 1, 0⟩ rfl rfl rfl rfl hown7 hgrow7).final' (.int .i64 (2 + q1)) (.slice (some ⟨gg, 0, none⟩) (ws1.length + 1) cc) (by simp)
          exact bodyPost_ret (v := .agg #[.int .i64 (2 + q1), .slice (some ⟨gg, 0, none⟩) (ws1.length + 1) cc]) (by simp [results, Try.results49, go_sem, t0, t1]) rfl ⟨2 + q1, _, cc, ws1 ++ [⟨1, 1, 0⟩], by simp, f1, f2, by simp; omega, f3, by omega, by omega, f4.more (by omega), f5⟩
        · obtain ⟨i0, hi0, hz0, hz1', hz2⟩ := info_parts infoWy
          go_wp2_with fail
          go_region_law ((first
              | (refine step_append_lies _ (by rfl) _ _ _ (by rfl) (w.heap.size + 2) 31 i0 _ 3 24 Try.underlying23 hi0 hz0 hz1' hz2 rfl (by omega) (.slice A1 ws1.length c1) ws1.length (wyCells ws1) (by rfl) (S6b.out.own.alloc _) ⟨w6.heap.size, 0, none⟩ 1 1 [.int .i64 0, .int .i64 1, .int .i64 z] (by rfl) (by rfl) (World.news_of_block (cs := #[.int .i64 0, .int .i64 1, .int .i64 z]) (t := 31) (fr := (0, 0)) (heap_alloc_new w6 _)) (by simp [Value.oneCell']) (by omega) (by unfold maxLen; omega) (by omega) (by simp; omega) (w6.heap.size + 1) (by simp) ?_; intro gg cc w7 hown7 hgrow7 hat7 hlt7; have cf7 := S6b.out.app_fr hgrow7; have cc7 := S6b.out.cell_app hgrow7; obtain ⟨hr7, g0, g1, g2, g3, g4, g5⟩ := S6b.out.app_all hgrow7; have S8 := Lib.hid (NetSt.append S6b.out ⟨0, 1, z⟩ rfl rfl rfl rfl hown7 hgrow7); have T := Lib.hid (HF.out (w7.setCell ⟨w.heap.size + 1, 1, none⟩ (.slice (some ⟨gg, 0, none⟩) (ws1.length + 1) cc)) (2 + q1) (some ⟨gg, 0, none⟩) (ws1.length + 1) cc ((Below.heap_setCell _ _ _ _ (by simp)).trans hr7)); clear hr7 hown7 hgrow7 hat7 hlt7)
              | (refine step_append_lies _ (by rfl) _ _ _ (by rfl) (w.heap.size + 2) 31 i0 _ 3 24 Try.underlying23 hi0 hz0 hz1' hz2 rfl (by omega) (.slice A1 ws1.length c1) ws1.length (wyCells ws1) (by rfl) (S6a.out.own.alloc _) ⟨w6.heap.size + 1, 0, none⟩ 1 1 [.int .i64 0, .int .i64 1, .int .i64 z] (by rfl) (by rfl) (World.news_of_block (cs := #[.int .i64 0, .int .i64 1, .int .i64 z]) (t := 31) (fr := (0, 0)) (by simpa using heap_alloc_new (w6.alloc (.cells #[.int .i64 (-1), .int .i64 10] 3)) _)) (by simp [Value.oneCell']) (by omega) (by unfold maxLen; omega) (by omega) (by simp; omega) (w6.heap.size + 1 + 1) (by simp) ?_; intro gg cc w7 hown7 hgrow7 hat7 hlt7; have cf7 := S6a.out.app_fr hgrow7; have cc7 := S6a.out.cell_app hgrow7; obtain ⟨hr7, g0, g1, g2, g3, g4, g5⟩ := S6a.out.app_all hgrow7; have S8 := Lib.hid (NetSt.append S6a.out ⟨0, 1, z⟩ rfl rfl rfl rfl hown7 hgrow7); have T := Lib.hid (HF.out (w7.setCell ⟨w.heap.size + 1, 1, none⟩ (.slice (some ⟨gg, 0, none⟩) (ws1.length + 1) cc)) (2 + q1) (some ⟨gg, 0, none⟩) (ws1.length + 1) cc ((Below.heap_setCell _ _ _ _ (by simp)).trans hr7)); clear hr7 hown7 hgrow7 hat7 hlt7)
              | (go_simp; go_at_call 50; (with_reducible refine (pickE g A len cap (m + 25 + 1 + 1) 2 (w5.alloc (.cells #[.int .i64 (-1), .int .i64 10] 3)).drew (S5.out.alloc_ _).drew.rdr (by omega) (by omega)).mono ?_); rintro e w6 ⟨q7, rfl, hq70, hq71, hr6, hg6, hs6⟩; have hq72 := hq71 (by omega); have S6b := Lib.hid ((S5.out.alloc_ (.cells #[.int .i64 (-1), .int .i64 10] 3)).drew.keep hr6 hg6); have hz6 : w.heap.size + 1 < w6.heap.size := S6b.out.cells.2.2.2.2; have hz6b : w.heap.size < w6.heap.size := (by omega); have hz6c : ¬ w.heap.size = w6.heap.size := (by omega); have cc6 := S6b.out.cells.2.1; obtain ⟨z, hz⟩ : ∃ z, w6.cell? ⟨w5.heap.size, q7.toNat, none⟩ = some (.int .i64 z) := two_at (hg6.cell (cell_of_row _ _ 0 _ _ (0, 0) (heap_alloc_new w5 _)) (by simp; omega)) (hg6.cell (cell_of_row _ _ 1 _ _ (0, 0) (heap_alloc_new w5 _)) (by simp; omega)) hq70 hq72; clear hs6 hq71 hr6 hg6)
              | (go_simp; go_at_call 50; (with_reducible refine (pickE g A len cap (m + 25 + 1 + 1) 2 w5.drew S5.out.drew.rdr (by omega) (by omega)).mono ?_); rintro e w6 ⟨q7, rfl, hq70, hq71, hr6, hg6, hs6⟩; have hq72 := hq71 (by omega); have S6 := S5.out.drew.keep hr6 hg6; have S6a := Lib.hid (S6.alloc_ (.cells #[.int .i64 (-1), .int .i64 10] 3)); have hz6 : w.heap.size + 1 < w6.heap.size := S6.cells.2.2.2.2; have hz6b : w.heap.size < w6.heap.size := (by omega); have hz6c : ¬ w.heap.size = w6.heap.size := (by omega); have cc6 := S6.cells.2.1; obtain ⟨z, hz⟩ : ∃ z, (w6.alloc (.cells #[.int .i64 (-1), .int .i64 10] 3)).cell? ⟨w6.heap.size, q7.toNat, none⟩ = some (.int .i64 z) := two_at (cell_of_row _ _ 0 _ _ (0, 0) (heap_alloc_new w6 _)) (cell_of_row _ _ 1 _ _ (0, 0) (heap_alloc_new w6 _)) hq70 hq72; clear hs6 hq71 hr6 hg6 S6)))
          all_goals
            go_wp2_with fail
            obtain ⟨t0, t1⟩ := T.out
            obtain ⟨f1, f2, f3, f4, f5⟩ := S8.out.final' (.int .i64 (2 + q1)) (.slice (some ⟨gg, 0, none⟩) (ws1.length + 1) cc) (by simp)
            exact bodyPost_ret (v := .agg #[.int .i64 (2 + q1), .slice (some ⟨gg, 0, none⟩) (ws1.length + 1) cc]) (by simp [results, Try.results49, go_sem, t0, t1]) rfl ⟨2 + q1, _, cc, ws1 ++ [⟨0, 1, z⟩], by simp, f1, f2, by simp; omega, f3, by omega, by omega, f4.more (by omega), f5⟩
        · go_wp2_with fail
          refine (pickE g A len cap (m + 25 + 1 + 1) _ _ (S5.out.alloc_ _).rdr (by omega) (by omega)).mono ?_; rintro e w6 ⟨q7, rfl, hq70, hq71, hr6, hg6, hs6⟩
          have hq72 := hq71 (by omega)
          have S6 := Lib.hid ((S5.out.alloc_ _).keep hr6 hg6)
          have k0 : w6.cell? ⟨w5.heap.size, 0, none⟩ = some (.int .i64 1) := hg6.cell (cell_of_row _ _ 0 _ _ (0, 0) (heap_alloc_new w5 _)) (by simp; omega)
          have k1 : w6.cell? ⟨w5.heap.size, 1, none⟩ = some (.int .i64 7) := hg6.cell (cell_of_row _ _ 1 _ _ (0, 0) (heap_alloc_new w5 _)) (by simp; omega)
          obtain ⟨x0, x1, y0, y1, hsz6⟩ := S6.out.cells
          obtain ⟨u0, u1, uf0, uf1⟩ := S6.out.resc
          clear hg6 hr6 hs6 hq71
          obtain rfl | rfl : q7 = 0 ∨ q7 = 1 := by omega
          · have T := Lib.hid (HF.out (w6.setCell ⟨w.heap.size + 1, 0, none⟩ (.int .i64 1)) 1 A1 ws1.length c1 ((Below.heap_setCell _ _ _ _ (by simp)).trans S6.out.res))
            go_wp2_with fail
            obtain ⟨t0, t1⟩ := T.out
            obtain ⟨f1, f2, f3, f4, f5⟩ := (S6.out.setN 1).final (.int .i64 1) (.slice A1 ws1.length c1)
            exact bodyPost_ret (v := .agg #[.int .i64 1, .slice A1 ws1.length c1]) (by simp [results, Try.results49, go_sem, t0, t1]) rfl ⟨1, A1, c1, ws1, rfl, f1, f2, by omega, f3, by omega, by omega, f4.more (by omega), f5⟩
          · have T := Lib.hid (HF.out (w6.setCell ⟨w.heap.size + 1, 0, none⟩ (.int .i64 7)) 7 A1 ws1.length c1 ((Below.heap_setCell _ _ _ _ (by simp)).trans S6.out.res))
            go_wp2_with fail
            obtain ⟨t0, t1⟩ := T.out
            obtain ⟨f1, f2, f3, f4, f5⟩ := (S6.out.setN 7).final (.int .i64 7) (.slice A1 ws1.length c1)
            exact bodyPost_ret (v := .agg #[.int .i64 7, .slice A1 ws1.length c1]) (by simp [results, Try.results49, go_sem, t0, t1]) rfl ⟨7, A1, c1, ws1, rfl, f1, f2, by omega, f3, by omega, by omega, f4.more (by omega), f5⟩
end Go.Proofs.Ythadehgpeafniaa
