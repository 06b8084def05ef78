/- The draw of a net and pairs. -/
import Derived.Test.YtnnpooemdonbhaaDoorCuA
import Derived.Test.YtnnpooemdonbhaaDoorWX
import Derived.Test.YtnnpooemdonbhaaDoorWP
import Derived.Test.YtnnpooemdonbhaaDoorWM
set_option linter.unusedSimpArgs false
set_option linter.unusedVariables false
attribute [local go_sem ↓] Go.wp_at_zero Go.wp_at_succ
namespace Go.Proofs.YtnnpooemdonbhaaDoor
open Go.ChangeShapes Go.WideShapes Go.ChangeAt Go.RowKit

/-- pairs under way: w0 the world at the beginning, w1 the one behind the net's draw -/
structure PqSt (w0 w1 w : World) (t tn tc : TypeId) (g : Nat) (A : Option Addr) (len cap : Nat) (m nn : Int) (u v : Value) (cs : List (Int × Int)) : Prop where
  rdr : RdrE w t g A len cap m
  gr : w0.grownBy w (some g)
  low : ∀ k, w0.heap.size ≤ k → k < w1.heap.size → w.heap[k]? = w1.heap[k]?
  net : w.heap[w1.heap.size]? = some (.cells #[.int .i64 nn, u] tn (0, 0))
  own : w.ownsRow (w1.heap.size + 1) tc 2 v cs.length (ctCells cs)
  glt : g < w0.heap.size
  wlt : w0.heap.size < w1.heap.size
section
variable {w0 w1 w w' : World} {t tn tc : TypeId} {g : Nat} {A : Option Addr} {len cap : Nat} {m m' nn : Int} {u v : Value} {cs : List (Int × Int)}
theorem PqSt.start (hr : RdrE w1 t g A len cap m) (hg : w0.grownBy w1 (some g)) (hlt : g < w0.heap.size) (hw : w0.heap.size < w1.heap.size) (nn : Int) (u : Value) :
    PqSt w0 w1 ((w1.alloc (.cells #[.int .i64 nn, u] tn)).alloc (.cells #[] tc)) t tn tc g A len cap m nn u (.slice (some ⟨w1.heap.size + 1, 0, none⟩) 0 0) [] := by
  have hk : ∀ k, k < w1.heap.size → ((w1.alloc (.cells #[.int .i64 nn, u] tn)).alloc (.cells #[] tc)).heap[k]? = w1.heap[k]? := fun k hk => (Below.heap_alloc _ _ _ (by simp; omega)).trans (Below.heap_alloc _ _ _ hk)
  refine ⟨hr.keep fun k hk' => hk k (by omega), only_alloc (only_alloc hg _) _, fun k _ h => hk k h, ?_, ⟨rfl, .inr ⟨w1.heap.size + 1, 0, #[], rfl, Nat.le_refl _, ?_, Nat.le_refl _, Nat.zero_le _, rfl, rfl⟩⟩, hlt, hw⟩
  · exact (Below.heap_alloc _ _ _ (by simp)).trans (heap_alloc_new _ _)
  · have h9 := heap_alloc_new (w1.alloc (.cells #[.int .i64 nn, u] tn)) (.cells #[] tc)
    simpa using h9
theorem PqSt.nlt (h : PqSt w0 w1 w t tn tc g A len cap m nn u v cs) : w1.heap.size < w.heap.size := (Array.getElem?_eq_some_iff.1 h.net).1
theorem PqSt.keep (h : PqSt w0 w1 w t tn tc g A len cap m nn u v cs) (hr : RdrE w' t g A len cap m') (hg : w.grownBy w' (some g)) : PqSt w0 w1 w' t tn tc g A len cap m' nn u v cs := by
  have h1 := h.glt
  have h2 := h.wlt
  have h3 := h.nlt
  refine ⟨hr, only_trans h.gr hg, fun k hk hk' => ?_, ?_, h.own.kept hg ?_, h1, h2⟩
  · rw [hg.block k (by omega) (by intro e; injection e; omega)]; exact h.low k hk hk'
  · rw [hg.block _ h3 (by intro e; injection e; omega)]; exact h.net
  · right; intro e; have := h.own.lt g e; omega
theorem PqSt.more (h : PqSt w0 w1 w t tn tc g A len cap m nn u v cs) (hm : m ≤ m') : PqSt w0 w1 w t tn tc g A len cap m' nn u v cs :=
  h.keep (h.rdr.more hm) (World.grownBy.refl w _)
theorem PqSt.below (h : PqSt w0 w1 w t tn tc g A len cap m nn u v cs) (hb : Below w.heap.size w w') : PqSt w0 w1 w' t tn tc g A len cap m nn u v cs :=
  h.keep (h.rdr.below hb) (only_below hb (some g))
theorem PqSt.cells (h : PqSt w0 w1 w t tn tc g A len cap m nn u v cs) : w.cell? ⟨w1.heap.size, 0, none⟩ = some (.int .i64 nn) ∧ w.cell? ⟨w1.heap.size, 1, none⟩ = some u :=
  ⟨cell_of_row _ _ 0 _ _ (0, 0) h.net, cell_of_row _ _ 1 _ _ (0, 0) h.net⟩
theorem PqSt.ways (h : PqSt w0 w1 w t tn tc g A len cap m nn u v cs) {A' : Option Addr} {ws : List Wy} (hrw : RW w1 w1.heap.size A' ws) (hA : ∀ ad, A' = some ad → w0.heap.size < ad.block) : RW w w.heap.size A' ws := by
  intro i x hx
  obtain ⟨b, o, ha, hB, g0, g1, g2⟩ := hrw i x hx
  have hbb := hA _ ha
  simp at hbb
  have hk := h.low b (by omega) hB
  have := h.nlt
  exact ⟨b, o, ha, by omega, (World.cell?_of_block (w := w1) hk).trans g0, (World.cell?_of_block (w := w1) hk).trans g1, (World.cell?_of_block (w := w1) hk).trans g2⟩
theorem PqSt.append (h : PqSt w0 w1 w t tn tc g A len cap m nn u v cs) (x : Int × Int) {o : Obj} {w3 : World} {gg c : Nat}
    (hown : w3.ownsRow (w1.heap.size + 1) tc 2 (.slice (some ⟨gg, 0, none⟩) (cs.length + 1) c) (cs.length + 1) (ctCells cs ++ [.int .i64 x.1, .int .i64 x.2])) (hg : (w.alloc o).grownBy w3 v.ownBlock) :
    PqSt w0 w1 w3 t tn tc g A len cap m nn u (.slice (some ⟨gg, 0, none⟩) (cs.length + 1) c) (cs ++ [x]) := by
  have h1 := h.glt
  have h2 := h.wlt
  have h3 := h.nlt
  have hlt : ∀ k, v.ownBlock = some k → w1.heap.size + 1 ≤ k := fun k hk => (h.own.lt k hk).1
  have hblk : ∀ k, k < w.heap.size → k < w1.heap.size + 1 → w3.heap[k]? = w.heap[k]? := fun k hk hk2 => by
    rw [hg.block k (by simp; omega) (fun e => by have := hlt k e.symm; omega)]
    exact Below.heap_alloc _ _ _ hk
  have hsz := hg.size
  simp only [World.size_alloc] at hsz
  refine ⟨h.rdr.keep fun k hk => hblk k (by omega) (by omega), ⟨?_, ?_, ?_, ?_, fun k hk hne => ?_⟩, fun k hk hk' => ?_, ?_, ?_, h1, h2⟩
  · exact hg.os.trans h.gr.os
  · exact hg.tape.trans h.gr.tape
  · exact hg.output.trans h.gr.output
  · have := h.gr.size; omega
  · rw [hblk k (by omega) (by omega)]; exact h.gr.block k hk hne
  · rw [hblk k (by omega) (by omega)]; exact h.low k hk hk'
  · rw [hblk _ h3 (by omega)]; exact h.net
  · rw [ctCells_snoc, List.length_append]; exact hown
end
theorem PqSt.drew {w0 w1 w : World} {t tn tc : TypeId} {g : Nat} {A : Option Addr} {len cap : Nat} {m nn : Int} {u v : Value} {cs : List (Int × Int)} (h : PqSt w0 w1 w t tn tc g A len cap m nn u v cs) : PqSt w0 w1 w.drew t tn tc g A len cap m nn u v cs :=
  ⟨h.rdr.drew, ⟨h.gr.os, h.gr.tape, h.gr.output, h.gr.size, h.gr.block⟩, h.low, h.net, h.own, h.glt, h.wlt⟩
/-- a net and pairs -/
def PqPost (w : World) (t : TypeId) (g : Nat) (A : Option Addr) (len cap : Nat) (m : Int) (e : Ending) (w' : World) : Prop :=
  ∃ (nn : Int) (A' : Option Addr) (c' : Nat) (ws : List Wy) (bc cc : Nat) (pz : List (Int × Int)), e = .returned (.tuple #[.agg #[.int .i64 nn, .slice A' ws.length c'], .slice (some ⟨bc, 0, none⟩) pz.length cc]) ∧ RW w' w'.heap.size A' ws ∧ (∀ ad, A' = some ad → w.heap.size ≤ ad.block) ∧ RC w' w'.heap.size (some ⟨bc, 0, none⟩) pz ∧ w.heap.size ≤ bc ∧
    ws.length ≤ 10 ∧ ws.length ≤ c' ∧ pz.length ≤ 8 ∧ pz.length ≤ cc ∧ 0 ≤ nn ∧ nn ≤ 7 ∧ RdrE w' t g A len cap (m + 60) ∧ w.grownBy w' (some g)
theorem pq_out {w w1 wc : World} {t tn tc : TypeId} {g : Nat} {A : Option Addr} {len cap : Nat} {m nn : Int} {u v : Value} {cs : List (Int × Int)} (h : PqSt w w1 wc t tn tc g A len cap m nn u v cs) {A' : Option Addr} {ws : List Wy} (hrw : RW w1 w1.heap.size A' ws) (hA : ∀ ad, A' = some ad → w.heap.size < ad.block) (x y : Value) :
    RW ((wc.setCell ⟨w.heap.size, 0, none⟩ x).setCell ⟨w.heap.size, 1, none⟩ y) ((wc.setCell ⟨w.heap.size, 0, none⟩ x).setCell ⟨w.heap.size, 1, none⟩ y).heap.size A' ws ∧ w.grownBy ((wc.setCell ⟨w.heap.size, 0, none⟩ x).setCell ⟨w.heap.size, 1, none⟩ y) (some g) := by
  refine ⟨?_, only_setCell (only_setCell h.gr (.inr (Nat.le_refl _)) _) (.inr (Nat.le_refl _)) _⟩
  intro i z hz
  obtain ⟨b, o, ha, hB, g0, g1, g2⟩ := h.ways hrw hA i z hz
  have hbb := hA _ ha
  simp at hbb
  have hk : ((wc.setCell ⟨w.heap.size, 0, none⟩ x).setCell ⟨w.heap.size, 1, none⟩ y).heap[b]? = wc.heap[b]? := (Below.heap_setCell _ _ _ _ (by simp; omega)).trans (Below.heap_setCell _ _ _ _ (by simp; omega))
  exact ⟨b, o, ha, by simpa [World.setCell] using hB, (World.cell?_of_block (w := wc) hk).trans g0, (World.cell?_of_block (w := wc) hk).trans g1, (World.cell?_of_block (w := wc) hk).trans g2⟩
theorem pq_own {w wc : World} {base : Nat} {tc : TypeId} {A1 : Option Addr} {c1 : Nat} {cs : List (Int × Int)} (h : wc.ownsRow base tc 2 (.slice A1 cs.length c1) cs.length (ctCells cs)) (hb : w.heap.size < base) (x y : Value) :
    RC ((wc.setCell ⟨w.heap.size, 0, none⟩ x).setCell ⟨w.heap.size, 1, none⟩ y) ((wc.setCell ⟨w.heap.size, 0, none⟩ x).setCell ⟨w.heap.size, 1, none⟩ y).heap.size A1 cs := by
  have h1 := ownsRow_setCell_below h (a := ⟨w.heap.size, 0, none⟩) (by simpa using hb) x
  have h2 := ownsRow_setCell_below h1 (a := ⟨w.heap.size, 1, none⟩) (by simpa using hb) y
  exact (rowF_of_cuts h2).rc
theorem pq_cap {w : World} {base n len c1 g : Nat} {e : TypeId} {xs : List Value} (h : w.ownsRow base e 2 (.slice (some ⟨g, 0, none⟩) n c1) len xs) : len ≤ c1 := by
  rcases h.2 with ⟨h8, _⟩ | ⟨g9, c9, cur, h8, _, _, h9, _⟩
  · cases h8
  · injection h8 with _ _ h8; omega
theorem PqSt.fin {w w1 wc : World} {tp : TypeId} {g : Nat} {A : Option Addr} {len cap : Nat} {m mm nn : Int} {bc cc : Nat} {cs : List (Int × Int)} {A' : Option Addr} {c' : Nat} {ws : List Wy}
    (h : PqSt w w1 wc 80 25 tp g A len cap mm nn (.slice A' ws.length c') (.slice (some ⟨bc, 0, none⟩) cs.length cc) cs) (hrw : RW w1 w1.heap.size A' ws) (hA : ∀ ad, A' = some ad → w.heap.size < ad.block) (hl10 : ws.length ≤ 10) (hcc : ws.length ≤ c') (hn0 : 0 ≤ nn) (hn7 : nn ≤ 7) (hcs : cs.length ≤ 8) (hmm : mm ≤ m + 60) :
    PqPost w 80 g A len cap m (.returned (.tuple #[.agg #[.int .i64 nn, .slice A' ws.length c'], .slice (some ⟨bc, 0, none⟩) cs.length cc])) ((wc.setCell ⟨w.heap.size, 0, none⟩ (.int .i64 nn)).setCell ⟨w.heap.size, 1, none⟩ (.slice A' ws.length c')) := by
  obtain ⟨h1, h2⟩ := pq_out h hrw hA (.int .i64 nn) (.slice A' ws.length c')
  have hw := h.wlt
  have hgl := h.glt
  have hb := (h.own.lt bc rfl).1
  refine ⟨nn, A', c', ws, bc, cc, cs, rfl, h1, fun ad e => Nat.le_of_lt (hA ad e), pq_own h.own (by omega) _ _, by omega, hl10, hcc, hcs, pq_cap h.own, hn0, hn7, (h.rdr.more hmm).keep (fun k hk => (Below.heap_setCell _ _ _ _ (by simp; omega)).trans (Below.heap_setCell _ _ _ _ (by simp; omega))), h2⟩
theorem noPairs (W : World) : (Instr.buildSlice 26 0 #[]).run Tryd.prog W = .ok (.slice (some ⟨W.heap.size, 0, none⟩) 0 0) (W.alloc (.cells #[] 34)) := by kernel_rfl
theorem infoPairD : (Tryd.prog.info? 34).map (fun i => (i.zero, i.size, i.bytes)) = some (some (.agg #[.int .i64 0, .int .i64 0]), 2, 16) := by kernel_rfl
set_option maxRecDepth 100000 in
set_option maxHeartbeats 8000000 in
theorem l20Pairs_any (g : Nat) (A : Option Addr) (len cap : Nat) (m n : Int) (w : World) (hr : RdrE w 80 g A len cap m) (hm : m ≤ 700000) (h1 : 1 ≤ n) (hn : n ≤ 1000) :
    Calls Tryd.prog 40 #[.pointer (some ⟨g, 0, none⟩), .int .i64 n] w (PqPost w 80 g A len cap m) := by
  have hg := hr.lt
  have HR := Lib.hid hr
  clear hr
  have hbs := noPairs
  obtain ⟨i0, hi0, hz0, hz1', hz2⟩ := info_parts infoPairD
  have hw1 : IntKind.i64.wrap (n * 2) = n * 2 := IntWalk.i64_in _ ⟨by omega, by omega⟩
  have hw2 : wrap64 (n * 2) = n * 2 := IntWalk.wrap64_in _ ⟨by omega, by omega⟩
  have HW1 := Lib.hid hw1
  have HW2 := Lib.hid hw2
  go_enter Tryd.func40, Tryd.ntmps40
  go_wp2_with fail
  refine (l20Net_any g A len cap m (n * 2) _ (HR.out.below (by go_grown)) (by omega) (by omega) (by omega)).mono ?_
  rintro e w1 ⟨nn, A', c', ws, rfl, hrw, hA', hl10, hcc, hn0, hn7, hr1, hg1⟩
  have hsz1 : w.heap.size < w1.heap.size := by have := hg1.size; simp at this; omega
  have hres : w1.heap[w.heap.size]? = some (.cells #[.int .i64 0, .slice none 0 0] 25 (0, 0)) := by
    rw [hg1.block _ (by simp) (by intro e; injection e; omega)]
    exact heap_alloc_new w _
  have HRES := Lib.hid hres
  have HAD : Hid (∀ ad, A' = some ad → w.heap.size < ad.block) := fun ad h => by have := hA' ad h; simp at this; omega
  have HRW := Lib.hid hrw
  have S0 := Lib.hid (PqSt.start (tn := 25) (tc := 34) hr1 (only_trans (only_alloc (World.grownBy.refl w (some g)) _) hg1) hg hsz1 nn (.slice A' ws.length c'))
  obtain ⟨M, hM⟩ : ∃ M, max nn 1 = M := ⟨_, rfl⟩
  have hM1 : 1 ≤ M := by omega
  have hM7 : M ≤ 7 := by omega
  have m1 : (if nn < 1 then 1 else nn) = M := by rw [← hM]; split <;> omega
  have m2 : (if 1 < nn then nn else 1) = M := by rw [← hM]; split <;> omega
  have m3 : (if nn ≤ 1 then 1 else nn) = M := by rw [← hM]; split <;> omega
  have m4 : (if 1 ≤ nn then nn else 1) = M := by rw [← hM]; split <;> omega
  have HMX := Lib.hid (And.intro m1 (And.intro m2 (And.intro m3 (And.intro m4 hM))))
  clear hg1 hr1 hres hrw hA' hw1 hw2 m1 m2 m3 m4 hM
  go_wp2_with fail
  refine (pickE g A len cap (m + 40) 4 _ S0.out.rdr (by omega) (by decide)).mono ?_; rintro e wk ⟨k0, rfl, hk00, hk01, hrk, hgk, -⟩
  have hk02 := hk01 (by decide)
  have SK := Lib.hid ((S0.out.keep hrk hgk).more (m' := m + 50 - 2 * k0) (by omega))
  clear hk01 hrk hgk S0
  go_wp2_with fail
  go_loopw [7, 8] (fun v i wr => ∃ (cs : List (Int × Int)) (k : Int), i = .int .i64 k ∧ 0 ≤ k ∧ k ≤ 3 ∧ (cs.length : Int) + k ≤ 3 ∧ PqSt w w1 wr 80 25 34 g A len cap (m + 50 - 2 * k) nn (.slice A' ws.length c') v cs ∧ ∃ bc cc, v = .slice (some ⟨bc, 0, none⟩) cs.length cc) (fun _ i _ => (intOf i).toNat)
  case atStart => exact ⟨[], k0, rfl, hk00, by omega, by simp; omega, SK.out, ⟨_, _, rfl⟩⟩
  case round =>
    clear SK hk00 hk02
    obtain ⟨cs, k, rfl, hk0, hk3, hcl, hst, ⟨bc, cc, hv⟩⟩ := hrel
    (try injection hv with hv1 hv2 hv3)
    (try subst hv)
    (try subst hv1)
    (try subst hv3)
    have S1 := Lib.hid hst
    obtain ⟨y10, y11⟩ := hst.cells
    clear hst
    by_cases hkp : 0 < k
    · obtain ⟨m1, m2, m3, m4, m5⟩ := HMX.out
      go_wp2_with fail
      refine wp_region_held_drew (S := (fun w' => w'.cell? ⟨w1.heap.size, 0, none⟩ = some (.int .i64 nn) ∧ w'.cell? ⟨w1.heap.size, 1, none⟩ = some (.slice A' ws.length c'))) (by kernel_rfl) ?_ (fun hHeld => ?_)
      · exact ⟨y10, y11⟩
      refine wpAnyH_take (i := 0) (v := ?_) rfl (by kernel_rfl) (by kernel_rfl) (by kernel_rfl) (fun _ _ _ h => h) (Or.inl ⟨by rfl, ?_⟩) (by assumption) ?_
      rotate_left
      · (intro w hSw; (try dsimp only at hSw); (try simp only [List.getElem_toArray, List.getElem_cons_succ, List.getElem_cons_zero]); first | (go_simp; done) | (go_simp; with_reducible rfl))
      try simp only [Act.put, List.getElem_toArray, List.getElem_cons_succ, List.getElem_cons_zero, List.setIfInBounds_toArray, List.set_cons_zero, List.set_cons_succ]
      refine wpAnyH_take (i := 1) (v := ?_) rfl (by kernel_rfl) (by kernel_rfl) (by kernel_rfl) (fun _ _ _ h => h) (Or.inl ⟨by rfl, ?_⟩) (by assumption) ?_
      rotate_left
      · (intro w hSw; (try dsimp only at hSw); (try simp only [List.getElem_toArray, List.getElem_cons_succ, List.getElem_cons_zero]); first | (go_simp; done) | (go_simp; with_reducible rfl))
      try simp only [Act.put, List.getElem_toArray, List.getElem_cons_succ, List.getElem_cons_zero, List.setIfInBounds_toArray, List.set_cons_zero, List.set_cons_succ]
      refine wpAnyH_take (i := 2) (v := ?_) rfl (by kernel_rfl) (by kernel_rfl) (by kernel_rfl) (fun _ _ _ h => h) (Or.inl ⟨by rfl, ?_⟩) (by assumption) ?_
      rotate_left
      · (intro w hSw; (try dsimp only at hSw); (try simp only [List.getElem_toArray, List.getElem_cons_succ, List.getElem_cons_zero]); first | (go_simp; done) | (go_simp; with_reducible rfl))
      try simp only [Act.put, List.getElem_toArray, List.getElem_cons_succ, List.getElem_cons_zero, List.setIfInBounds_toArray, List.set_cons_zero, List.set_cons_succ]
      refine wpAnyH_take (i := 3) (v := ?_) rfl (by kernel_rfl) (by kernel_rfl) (by kernel_rfl) (fun _ _ _ h => h) (Or.inl ⟨by rfl, ?_⟩) (by assumption) ?_
      rotate_left
      · (intro w hSw; (try dsimp only at hSw); (try simp only [List.getElem_toArray, List.getElem_cons_succ, List.getElem_cons_zero]); first | (go_simp; done) | (go_simp; with_reducible rfl))
      try simp only [Act.put, List.getElem_toArray, List.getElem_cons_succ, List.getElem_cons_zero, List.setIfInBounds_toArray, List.set_cons_zero, List.set_cons_succ]
      refine wpAnyH_take (i := 4) (v := ?_) rfl (by kernel_rfl) (by kernel_rfl) (by kernel_rfl) (fun _ _ _ h => h) (Or.inl ⟨by rfl, ?_⟩) (by assumption) ?_
      rotate_left
      · (intro w hSw; (try dsimp only at hSw); (try simp only [List.getElem_toArray, List.getElem_cons_succ, List.getElem_cons_zero]); first | (go_simp; done) | (go_simp; with_reducible rfl))
      try simp only [Act.put, List.getElem_toArray, List.getElem_cons_succ, List.getElem_cons_zero, List.setIfInBounds_toArray, List.set_cons_zero, List.set_cons_succ]
      refine wpAnyH_take (i := 6) (v := ?_) rfl (by kernel_rfl) (by kernel_rfl) (by kernel_rfl) (fun _ _ _ h => h) (Or.inl ⟨by rfl, ?_⟩) (by assumption) ?_
      rotate_left
      · (intro w hSw; (try dsimp only at hSw); (try simp only [List.getElem_toArray, List.getElem_cons_succ, List.getElem_cons_zero]); first | (go_simp; done) | (go_simp; with_reducible rfl))
      try simp only [Act.put, List.getElem_toArray, List.getElem_cons_succ, List.getElem_cons_zero, List.setIfInBounds_toArray, List.set_cons_zero, List.set_cons_succ]
      refine wpAnyH_take (i := 7) (v := ?_) rfl (by kernel_rfl) (by kernel_rfl) (by kernel_rfl) (fun _ _ _ h => h) (Or.inl ⟨by rfl, ?_⟩) (by assumption) ?_
      rotate_left
      · (intro w hSw; (try dsimp only at hSw); (try simp only [List.getElem_toArray, List.getElem_cons_succ, List.getElem_cons_zero]); first | (go_simp; done) | (go_simp; with_reducible rfl))
      try simp only [Act.put, List.getElem_toArray, List.getElem_cons_succ, List.getElem_cons_zero, List.setIfInBounds_toArray, List.set_cons_zero, List.set_cons_succ]
      refine wpAnyH_take (i := 8) (v := ?_) rfl (by kernel_rfl) (by kernel_rfl) (by kernel_rfl) (fun _ _ _ h => h) (Or.inl ⟨by rfl, ?_⟩) (by assumption) ?_
      rotate_left
      · (intro w hSw; (try dsimp only at hSw); (try simp only [List.getElem_toArray, List.getElem_cons_succ, List.getElem_cons_zero]); first | (go_simp; done) | (go_simp; with_reducible rfl))
      try simp only [Act.put, List.getElem_toArray, List.getElem_cons_succ, List.getElem_cons_zero, List.setIfInBounds_toArray, List.set_cons_zero, List.set_cons_succ]
      refine wpAnyH_take (i := 9) (v := ?_) rfl (by kernel_rfl) (by kernel_rfl) (by kernel_rfl) (fun _ _ _ h => h) (Or.inl ⟨by rfl, ?_⟩) (by assumption) ?_
      rotate_left
      · (intro w hSw; (try dsimp only at hSw); (try simp only [List.getElem_toArray, List.getElem_cons_succ, List.getElem_cons_zero]); first | (go_simp; done) | (go_simp; with_reducible rfl))
      try simp only [Act.put, List.getElem_toArray, List.getElem_cons_succ, List.getElem_cons_zero, List.setIfInBounds_toArray, List.set_cons_zero, List.set_cons_succ]
      refine wpAnyH_ready (rs := [5]) (by kernel_rfl) (by simp) ?_
      refine AllReadyH.cons rfl (fun K hK => ?_) AllReadyH.nil
      try simp only [List.getElem_toArray, List.getElem_cons_succ, List.getElem_cons_zero]
      go_simp
      go_at_call 41; (with_reducible refine (pickE g A len cap _ M wr.drew S1.out.rdr.drew (by omega) (by omega)).mono ?_); rintro e2 w2 ⟨q1, rfl, hq10, hq11, hr2, hg2, -⟩; have S2 := Lib.hid (S1.out.keep hr2 ⟨hg2.os, hg2.tape, hg2.output, hg2.size, hg2.block⟩); obtain ⟨y20, y21⟩ := S2.out.cells; clear hr2 hg2 hq11
      refine hK.out _ _ ?_ (fun hHeld => ?_)
      · exact ⟨y20, y21⟩
      clear hK K
      try simp only [Act.put, List.getElem_toArray, List.getElem_cons_succ, List.getElem_cons_zero, List.setIfInBounds_toArray, List.set_cons_zero, List.set_cons_succ]
      refine wpAnyH_ready (rs := [10]) (by kernel_rfl) (by simp) ?_
      refine AllReadyH.cons rfl (fun K hK => ?_) AllReadyH.nil
      try simp only [List.getElem_toArray, List.getElem_cons_succ, List.getElem_cons_zero]
      go_simp
      go_at_call 41; (with_reducible refine (pickE g A len cap _ M w2 S2.out.rdr (by omega) (by omega)).mono ?_); rintro e3 w3 ⟨q2, rfl, hq20, hq21, hr3, hg3, -⟩; have S3 := Lib.hid ((S2.out.keep hr3 hg3).more (m' := m + 50 - 2 * (k - 1)) (by omega)); obtain ⟨y30, y31⟩ := S3.out.cells; clear hr3 hg3 hq21
      refine hK.out _ _ ?_ (fun hHeld => ?_)
      · exact ⟨y30, y31⟩
      clear hK K
      try simp only [Act.put, List.getElem_toArray, List.getElem_cons_succ, List.getElem_cons_zero, List.setIfInBounds_toArray, List.set_cons_zero, List.set_cons_succ]
      refine wpAnyH_take (i := 11) (v := ?_) rfl (by kernel_rfl) (by kernel_rfl) (by kernel_rfl) (fun _ _ _ h => h) (Or.inl ⟨by rfl, ?_⟩) (by assumption) ?_
      rotate_left
      · (intro w hSw; (try dsimp only at hSw); (try simp only [List.getElem_toArray, List.getElem_cons_succ, List.getElem_cons_zero]); first | (go_simp; done) | (go_simp; with_reducible rfl))
      try simp only [Act.put, List.getElem_toArray, List.getElem_cons_succ, List.getElem_cons_zero, List.setIfInBounds_toArray, List.set_cons_zero, List.set_cons_succ]
      refine wpAnyH_ready (rs := [12]) (by kernel_rfl) (by simp) ?_
      refine AllReadyH.cons rfl (fun K hK => ?_) AllReadyH.nil
      try simp only [List.getElem_toArray, List.getElem_cons_succ, List.getElem_cons_zero]
      go_simp

      refine hK.out _ _ ?_ (fun hHeld => ?_)
      · exact ⟨(World.cell?_alloc_lt _ _ _ S3.out.nlt).trans y30, (World.cell?_alloc_lt _ _ _ S3.out.nlt).trans y31⟩
      clear hK K
      try simp only [Act.put, List.getElem_toArray, List.getElem_cons_succ, List.getElem_cons_zero, List.setIfInBounds_toArray, List.set_cons_zero, List.set_cons_succ]
      refine wpAnyH_ready (rs := [13]) (by kernel_rfl) (by simp) ?_
      refine AllReadyH.cons rfl (fun K hK => ?_) AllReadyH.nil
      refine step_append_lies _ (by rfl) _ _ _ (by rfl) (w1.heap.size + 1) 34 i0 _ 2 16 Tryd.underlying26 hi0 hz0 hz1' hz2 rfl (by omega) _ cs.length (ctCells cs) (by rfl) (World.ownsRow.alloc S3.out.own _) ⟨w3.heap.size, 0, none⟩ 1 1 [.int .i64 q1, .int .i64 q2] (by rfl) (by rfl) (World.news_of_block (cs := #[.int .i64 q1, .int .i64 q2]) (t := 34) (fr := (0, 0)) (heap_alloc_new w3 _)) (by simp [Value.oneCell']) (by omega) (by unfold maxLen; omega) (by omega) (by have h9 := S3.out.nlt; (try simp); omega) (w3.heap.size + 1) (World.size_alloc w3 _) ?_; intro gg cg w9 hown9 hgrow9 hat9 hlt9
      have S9 := Lib.hid (S3.out.append (q1, q2) hown9 ⟨hgrow9.os, hgrow9.tape, hgrow9.output, hgrow9.size, hgrow9.block⟩)
      obtain ⟨y90, y91⟩ := S9.out.cells
      clear hown9 hgrow9 hat9 hlt9
      refine hK.out _ _ ?_ (fun hHeld => ?_)
      · exact ⟨y90, y91⟩
      clear hK K
      try simp only [Act.put, List.getElem_toArray, List.getElem_cons_succ, List.getElem_cons_zero, List.setIfInBounds_toArray, List.set_cons_zero, List.set_cons_succ]
      refine wpAnyH_take (i := 14) (v := ?_) rfl (by kernel_rfl) (by kernel_rfl) (by kernel_rfl) (fun _ _ _ h => h) (Or.inl ⟨by rfl, ?_⟩) (by assumption) ?_
      rotate_left
      · (intro w hSw; (try dsimp only at hSw); (try simp only [List.getElem_toArray, List.getElem_cons_succ, List.getElem_cons_zero]); first | (go_simp; done) | (go_simp; with_reducible rfl))
      try simp only [Act.put, List.getElem_toArray, List.getElem_cons_succ, List.getElem_cons_zero, List.setIfInBounds_toArray, List.set_cons_zero, List.set_cons_succ]
      refine wpAnyH_done (by kernel_rfl) ?_ _
      clear m1 m2 m3 m4 m5
      go_wp2_with fail
      go_roundw
      case rel => exact ⟨cs ++ [(q1, q2)], k - 1, by go_num, by omega, by omega, by rw [List.length_append]; simp only [List.length_cons, List.length_nil]; omega, S9.out, ⟨gg, cg, by rw [List.length_append]; rfl⟩⟩
      case measure => (simp [intOf]) <;> omega
    · have hcs8 : cs.length ≤ 7 := by omega
      have hw1 := HW1.out
      have hw2 := HW2.out
      go_wp2_with fail
      clear hw1 hw2
      refine (oddE g A len cap _ (n * 2) _ S1.out.rdr (by omega) (by omega) (by omega)).mono ?_; rintro e8 w8 ⟨q8, rfl, hr8, hg8, -⟩
      have S8 := Lib.hid (S1.out.keep hr8 hg8)
      obtain ⟨y80, y81⟩ := S8.out.cells
      clear hr8 hg8 y10 y11 S1
      cases q8
      · have hr9 : w8.heap[w.heap.size]? = some (.cells #[.int .i64 0, .slice none 0 0] 25 (0, 0)) := (S8.out.low _ (Nat.le_refl _) hsz1).trans HRES.out
        have z0 : w8.cell? ⟨w.heap.size, 0, none⟩ = some (.int .i64 0) := cell_of_row _ _ 0 _ _ (0, 0) hr9
        have z1 : w8.cell? ⟨w.heap.size, 1, none⟩ = some (.slice none 0 0) := cell_of_row _ _ 1 _ _ (0, 0) hr9
        have z2 : w8.frozen? ⟨w.heap.size, 0, none⟩ = false := by simp [World.frozen?, hr9]
        have z3 : w8.frozen? ⟨w.heap.size, 1, none⟩ = false := by simp [World.frozen?, hr9]
        have TT := Lib.hid (two_cells (v0 := .int .i64 nn) (v1 := .slice A' ws.length c') hr9)
        clear hr9
        go_wp2_with fail
        obtain ⟨t0, t1⟩ := TT.out
        refine bodyPost_ret (v := .tuple #[.agg #[.int .i64 nn, .slice A' ws.length c'], .slice (some ⟨bc, 0, none⟩) cs.length cc]) (by simp [results, Tryd.results40, go_sem, t0, t1]) rfl ?_
        exact S8.out.fin HRW.out HAD.out hl10 hcc hn0 hn7 (by omega) (by omega)
      · go_wp2_with fail
        refine wp_region_held_drew (S := (fun w' => w'.cell? ⟨w1.heap.size, 0, none⟩ = some (.int .i64 nn) ∧ w'.cell? ⟨w1.heap.size, 1, none⟩ = some (.slice A' ws.length c'))) (by kernel_rfl) ?_ (fun hHeld => ?_)
        · exact ⟨y80, y81⟩
        refine wpAnyH_take (i := 0) (v := ?_) rfl (by kernel_rfl) (by kernel_rfl) (by kernel_rfl) (fun _ _ _ h => h) (Or.inl ⟨by rfl, ?_⟩) (by assumption) ?_
        rotate_left
        · (intro w hSw; (try dsimp only at hSw); (try simp only [List.getElem_toArray, List.getElem_cons_succ, List.getElem_cons_zero]); first | (go_simp; done) | (go_simp; with_reducible rfl))
        try simp only [Act.put, List.getElem_toArray, List.getElem_cons_succ, List.getElem_cons_zero, List.setIfInBounds_toArray, List.set_cons_zero, List.set_cons_succ]
        refine wpAnyH_take (i := 1) (v := ?_) rfl (by kernel_rfl) (by kernel_rfl) (by kernel_rfl) (fun _ _ _ h => h) (Or.inl ⟨by rfl, ?_⟩) (by assumption) ?_
        rotate_left
        · (intro w hSw; (try dsimp only at hSw); (try simp only [List.getElem_toArray, List.getElem_cons_succ, List.getElem_cons_zero]); first | (go_simp; done) | (go_simp; with_reducible rfl))
        try simp only [Act.put, List.getElem_toArray, List.getElem_cons_succ, List.getElem_cons_zero, List.setIfInBounds_toArray, List.set_cons_zero, List.set_cons_succ]
        refine wpAnyH_take (i := 2) (v := ?_) rfl (by kernel_rfl) (by kernel_rfl) (by kernel_rfl) (fun _ _ _ h => h) (Or.inl ⟨by rfl, ?_⟩) (by assumption) ?_
        rotate_left
        · (intro w hSw; (try dsimp only at hSw); (try simp only [List.getElem_toArray, List.getElem_cons_succ, List.getElem_cons_zero]); first | (go_simp; done) | (go_simp; with_reducible rfl))
        try simp only [Act.put, List.getElem_toArray, List.getElem_cons_succ, List.getElem_cons_zero, List.setIfInBounds_toArray, List.set_cons_zero, List.set_cons_succ]
        refine wpAnyH_ready (rs := [3]) (by kernel_rfl) (by simp) ?_
        refine AllReadyH.cons rfl (fun K hK => ?_) AllReadyH.nil
        try simp only [List.getElem_toArray, List.getElem_cons_succ, List.getElem_cons_zero]
        go_simp

        refine hK.out _ _ ?_ (fun hHeld => ?_)
        · exact ⟨(World.cell?_alloc_lt _ _ _ S8.out.nlt).trans y80, (World.cell?_alloc_lt _ _ _ S8.out.nlt).trans y81⟩
        clear hK K
        try simp only [Act.put, List.getElem_toArray, List.getElem_cons_succ, List.getElem_cons_zero, List.setIfInBounds_toArray, List.set_cons_zero, List.set_cons_succ]
        refine wpAnyH_ready (rs := [4]) (by kernel_rfl) (by simp) ?_
        refine AllReadyH.cons rfl (fun K hK => ?_) AllReadyH.nil
        refine step_append_lies _ (by rfl) _ _ _ (by rfl) (w1.heap.size + 1) 34 i0 _ 2 16 Tryd.underlying26 hi0 hz0 hz1' hz2 rfl (by omega) _ cs.length (ctCells cs) (by rfl) (World.ownsRow.alloc S8.out.own _) ⟨w8.heap.size, 0, none⟩ 1 1 [.int .i64 0, .int .i64 6] (by rfl) (by rfl) (World.news_of_block (cs := #[.int .i64 0, .int .i64 6]) (t := 34) (fr := (0, 0)) (heap_alloc_new w8 _)) (by simp [Value.oneCell']) (by omega) (by unfold maxLen; omega) (by omega) (by have h9 := S8.out.nlt; (try simp); omega) (w8.heap.size + 1) (World.size_alloc w8 _) ?_; intro gg cg w9 hown9 hgrow9 hat9 hlt9
        have S9 := Lib.hid (S8.out.append (0, 6) hown9 ⟨hgrow9.os, hgrow9.tape, hgrow9.output, hgrow9.size, hgrow9.block⟩)
        obtain ⟨y90, y91⟩ := S9.out.cells
        have hr9 : w9.heap[w.heap.size]? = some (.cells #[.int .i64 0, .slice none 0 0] 25 (0, 0)) := (S9.out.low _ (Nat.le_refl _) hsz1).trans HRES.out
        have z0 : w9.cell? ⟨w.heap.size, 0, none⟩ = some (.int .i64 0) := cell_of_row _ _ 0 _ _ (0, 0) hr9
        have z1 : w9.cell? ⟨w.heap.size, 1, none⟩ = some (.slice none 0 0) := cell_of_row _ _ 1 _ _ (0, 0) hr9
        have z2 : w9.frozen? ⟨w.heap.size, 0, none⟩ = false := by simp [World.frozen?, hr9]
        have z3 : w9.frozen? ⟨w.heap.size, 1, none⟩ = false := by simp [World.frozen?, hr9]
        have TT := Lib.hid (two_cells (v0 := .int .i64 nn) (v1 := .slice A' ws.length c') hr9)
        have y9 := set_d (.int .i64 nn) (.slice A' ws.length c') ⟨y90, y91⟩ (show w1.heap.size ≠ w.heap.size by omega)
        clear hown9 hgrow9 hat9 hlt9 hr9
        refine hK.out _ _ ?_ (fun hHeld => ?_)
        · exact ⟨y90, y91⟩
        clear hK K
        try simp only [Act.put, List.getElem_toArray, List.getElem_cons_succ, List.getElem_cons_zero, List.setIfInBounds_toArray, List.set_cons_zero, List.set_cons_succ]
        refine wpAnyH_ready (rs := [5]) (by kernel_rfl) (by simp) ?_
        refine AllReadyH.cons rfl (fun K hK => ?_) AllReadyH.nil
        try simp only [List.getElem_toArray, List.getElem_cons_succ, List.getElem_cons_zero]
        go_simp

        refine hK.out _ _ ?_ (fun hHeld => ?_)
        · exact y9
        clear hK K
        try simp only [Act.put, List.getElem_toArray, List.getElem_cons_succ, List.getElem_cons_zero, List.setIfInBounds_toArray, List.set_cons_zero, List.set_cons_succ]
        refine wpAnyH_take (i := 6) (v := ?_) rfl (by kernel_rfl) (by kernel_rfl) (by kernel_rfl) (fun _ _ _ h => h) (Or.inl ⟨by rfl, ?_⟩) (by assumption) ?_
        rotate_left
        · (intro w hSw; (try dsimp only at hSw); (try simp only [List.getElem_toArray, List.getElem_cons_succ, List.getElem_cons_zero]); first | (go_simp; done) | (go_simp; with_reducible rfl))
        try simp only [Act.put, List.getElem_toArray, List.getElem_cons_succ, List.getElem_cons_zero, List.setIfInBounds_toArray, List.set_cons_zero, List.set_cons_succ]
        refine wpAnyH_done (by kernel_rfl) ?_ _
        go_wp2_with fail
        obtain ⟨t0, t1⟩ := TT.out
        refine bodyPost_ret (v := .tuple #[.agg #[.int .i64 nn, .slice A' ws.length c'], .slice (some ⟨gg, 0, none⟩) (cs ++ [((0 : Int), (6 : Int))]).length cg]) (by simp [results, Tryd.results40, go_sem, t0, t1]) rfl ?_
        exact PqSt.fin (by rw [List.length_append]; exact S9.out) HRW.out HAD.out hl10 hcc hn0 hn7 (by rw [List.length_append]; simp; omega) (by omega)
end Go.Proofs.YtnnpooemdonbhaaDoor
