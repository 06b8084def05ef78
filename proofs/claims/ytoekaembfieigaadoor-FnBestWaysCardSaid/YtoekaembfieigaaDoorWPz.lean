/- The draw of a net and prizes. -/
import Derived.Test.YtoekaembfieigaaDoorPzD
import Derived.Test.YtoekaembfieigaaDoorWX
import Derived.Test.YtoekaembfieigaaDoorWP
import Derived.Test.YtoekaembfieigaaDoorWM
set_option linter.unusedSimpArgs false
set_option linter.unusedVariables false
attribute [local go_sem ↓] Go.wp_at_zero Go.wp_at_succ
namespace Go.Proofs.YtoekaembfieigaaDoor
open Go.ChangeShapes Go.WideShapes Go.ChangeAt Go.RowKit

/-- numbers under way: w0 the world at the beginning, w1 the one behind the net's draw -/
structure PzSt (w0 w1 w : World) (t tn tc : TypeId) (g : Nat) (A : Option Addr) (len cap : Nat) (m nn : Int) (u v : Value) (cs : List Int) : Prop where
  rdr : RdrE w t g A len cap m
  gr : w0.grownBy w (some g)
  low : ∀ k, w0.heap.size ≤ k → k < w1.heap.size → w.heap[k]? = w1.heap[k]?
  net : w.heap[w1.heap.size]? = some (.cells #[.int .i64 nn, u] tn (0, 0))
  own : w.ownsRow (w1.heap.size + 1) tc 1 v cs.length (rlCells cs)
  glt : g < w0.heap.size
  wlt : w0.heap.size < w1.heap.size
section
variable {w0 w1 w w' : World} {t tn tc : TypeId} {g : Nat} {A : Option Addr} {len cap : Nat} {m m' nn : Int} {u v : Value} {cs : List Int}
theorem PzSt.start (hr : RdrE w1 t g A len cap m) (hg : w0.grownBy w1 (some g)) (hlt : g < w0.heap.size) (hw : w0.heap.size < w1.heap.size) (nn : Int) (u : Value) :
    PzSt w0 w1 ((w1.alloc (.cells #[.int .i64 nn, u] tn)).alloc (.cells #[] tc)) t tn tc g A len cap m nn u (.slice (some ⟨w1.heap.size + 1, 0, none⟩) 0 0) [] := by
  have hk : ∀ k, k < w1.heap.size → ((w1.alloc (.cells #[.int .i64 nn, u] tn)).alloc (.cells #[] tc)).heap[k]? = w1.heap[k]? := fun k hk => (Below.heap_alloc _ _ _ (by simp; omega)).trans (Below.heap_alloc _ _ _ hk)
  refine ⟨hr.keep fun k hk' => hk k (by omega), only_alloc (only_alloc hg _) _, fun k _ h => hk k h, ?_, ⟨rfl, .inr ⟨w1.heap.size + 1, 0, #[], rfl, Nat.le_refl _, ?_, Nat.le_refl _, Nat.zero_le _, rfl, rfl⟩⟩, hlt, hw⟩
  · exact (Below.heap_alloc _ _ _ (by simp)).trans (heap_alloc_new _ _)
  · have h9 := heap_alloc_new (w1.alloc (.cells #[.int .i64 nn, u] tn)) (.cells #[] tc)
    simpa using h9
theorem PzSt.nlt (h : PzSt w0 w1 w t tn tc g A len cap m nn u v cs) : w1.heap.size < w.heap.size := (Array.getElem?_eq_some_iff.1 h.net).1
theorem PzSt.keep (h : PzSt w0 w1 w t tn tc g A len cap m nn u v cs) (hr : RdrE w' t g A len cap m') (hg : w.grownBy w' (some g)) : PzSt w0 w1 w' t tn tc g A len cap m' nn u v cs := by
  have h1 := h.glt
  have h2 := h.wlt
  have h3 := h.nlt
  refine ⟨hr, only_trans h.gr hg, fun k hk hk' => ?_, ?_, h.own.kept hg ?_, h1, h2⟩
  · rw [hg.block k (by omega) (by intro e; injection e; omega)]; exact h.low k hk hk'
  · rw [hg.block _ h3 (by intro e; injection e; omega)]; exact h.net
  · right; intro e; have := h.own.lt g e; omega
theorem PzSt.more (h : PzSt w0 w1 w t tn tc g A len cap m nn u v cs) (hm : m ≤ m') : PzSt w0 w1 w t tn tc g A len cap m' nn u v cs :=
  h.keep (h.rdr.more hm) (World.grownBy.refl w _)
theorem PzSt.below (h : PzSt w0 w1 w t tn tc g A len cap m nn u v cs) (hb : Below w.heap.size w w') : PzSt w0 w1 w' t tn tc g A len cap m nn u v cs :=
  h.keep (h.rdr.below hb) (only_below hb (some g))
theorem PzSt.cells (h : PzSt w0 w1 w t tn tc g A len cap m nn u v cs) : w.cell? ⟨w1.heap.size, 0, none⟩ = some (.int .i64 nn) ∧ w.cell? ⟨w1.heap.size, 1, none⟩ = some u :=
  ⟨cell_of_row _ _ 0 _ _ (0, 0) h.net, cell_of_row _ _ 1 _ _ (0, 0) h.net⟩
theorem PzSt.ways (h : PzSt w0 w1 w t tn tc g A len cap m nn u v cs) {A' : Option Addr} {ws : List Wy} (hrw : RW w1 w1.heap.size A' ws) (hA : ∀ ad, A' = some ad → w0.heap.size < ad.block) : RW w w.heap.size A' ws := by
  intro i x hx
  obtain ⟨b, o, ha, hB, g0, g1, g2⟩ := hrw i x hx
  have hbb := hA _ ha
  simp at hbb
  have hk := h.low b (by omega) hB
  have := h.nlt
  exact ⟨b, o, ha, by omega, (World.cell?_of_block (w := w1) hk).trans g0, (World.cell?_of_block (w := w1) hk).trans g1, (World.cell?_of_block (w := w1) hk).trans g2⟩
theorem PzSt.append (h : PzSt w0 w1 w t tn tc g A len cap m nn u v cs) (x : Int) {o : Obj} {w3 : World} {gg c : Nat}
    (hown : w3.ownsRow (w1.heap.size + 1) tc 1 (.slice (some ⟨gg, 0, none⟩) (cs.length + 1) c) (cs.length + 1) (rlCells cs ++ [.int .i64 x])) (hg : (w.alloc o).grownBy w3 v.ownBlock) :
    PzSt w0 w1 w3 t tn tc g A len cap m nn u (.slice (some ⟨gg, 0, none⟩) (cs.length + 1) c) (cs ++ [x]) := by
  have h1 := h.glt
  have h2 := h.wlt
  have h3 := h.nlt
  have hlt : ∀ k, v.ownBlock = some k → w1.heap.size + 1 ≤ k := fun k hk => (h.own.lt k hk).1
  have hblk : ∀ k, k < w.heap.size → k < w1.heap.size + 1 → w3.heap[k]? = w.heap[k]? := fun k hk hk2 => by
    rw [hg.block k (by simp; omega) (fun e => by have := hlt k e.symm; omega)]
    exact Below.heap_alloc _ _ _ hk
  have hsz := hg.size
  simp only [World.size_alloc] at hsz
  refine ⟨h.rdr.keep fun k hk => hblk k (by omega) (by omega), ⟨?_, ?_, ?_, ?_, fun k hk hne => ?_⟩, fun k hk hk' => ?_, ?_, ?_, h1, h2⟩
  · exact hg.os.trans h.gr.os
  · exact hg.tape.trans h.gr.tape
  · exact hg.output.trans h.gr.output
  · have := h.gr.size; omega
  · rw [hblk k (by omega) (by omega)]; exact h.gr.block k hk hne
  · rw [hblk k (by omega) (by omega)]; exact h.low k hk hk'
  · rw [hblk _ h3 (by omega)]; exact h.net
  · rw [rlCells_snoc, List.length_append]; exact hown
end
/-- a net and prizes -/
def PzPost (w : World) (t : TypeId) (g : Nat) (A : Option Addr) (len cap : Nat) (m : Int) (e : Ending) (w' : World) : Prop :=
  ∃ (nn : Int) (A' : Option Addr) (c' : Nat) (ws : List Wy) (bc cc : Nat) (pz : List Int), e = .returned (.tuple #[.agg #[.int .i64 nn, .slice A' ws.length c'], .slice (some ⟨bc, 0, none⟩) pz.length cc]) ∧ RW w' w'.heap.size A' ws ∧ (∀ ad, A' = some ad → w.heap.size ≤ ad.block) ∧ RI w' w'.heap.size (some ⟨bc, 0, none⟩) pz ∧ w.heap.size ≤ bc ∧
    ws.length ≤ 10 ∧ ws.length ≤ c' ∧ pz.length ≤ 8 ∧ 0 ≤ nn ∧ nn ≤ 7 ∧ RdrE w' t g A len cap (m + 60) ∧ w.grownBy w' (some g)
theorem rl_own {w wc : World} {base : Nat} {tc : TypeId} {A1 : Option Addr} {c1 : Nat} {cs : List Int} (h : wc.ownsRow base tc 1 (.slice A1 cs.length c1) cs.length (rlCells cs)) (hb : w.heap.size < base) (x y : Value) :
    RI ((wc.setCell ⟨w.heap.size, 0, none⟩ x).setCell ⟨w.heap.size, 1, none⟩ y) ((wc.setCell ⟨w.heap.size, 0, none⟩ x).setCell ⟨w.heap.size, 1, none⟩ y).heap.size A1 cs := by
  have h1 := ownsRow_setCell_below h (a := ⟨w.heap.size, 0, none⟩) (by simpa using hb) x
  have h2 := ownsRow_setCell_below h1 (a := ⟨w.heap.size, 1, none⟩) (by simpa using hb) y
  exact (rowF_of_own h2 (fun j hj => rlCells_at hj)).ri
theorem pz_out {w w1 wc : World} {t tn tc : TypeId} {g : Nat} {A : Option Addr} {len cap : Nat} {m nn : Int} {u v : Value} {cs : List Int} (h : PzSt w w1 wc t tn tc g A len cap m nn u v cs) {A' : Option Addr} {ws : List Wy} (hrw : RW w1 w1.heap.size A' ws) (hA : ∀ ad, A' = some ad → w.heap.size < ad.block) (x y : Value) :
    RW ((wc.setCell ⟨w.heap.size, 0, none⟩ x).setCell ⟨w.heap.size, 1, none⟩ y) ((wc.setCell ⟨w.heap.size, 0, none⟩ x).setCell ⟨w.heap.size, 1, none⟩ y).heap.size A' ws ∧ w.grownBy ((wc.setCell ⟨w.heap.size, 0, none⟩ x).setCell ⟨w.heap.size, 1, none⟩ y) (some g) := by
  refine ⟨?_, only_setCell (only_setCell h.gr (.inr (Nat.le_refl _)) _) (.inr (Nat.le_refl _)) _⟩
  intro i z hz
  obtain ⟨b, o, ha, hB, g0, g1, g2⟩ := h.ways hrw hA i z hz
  have hbb := hA _ ha
  simp at hbb
  have hk : ((wc.setCell ⟨w.heap.size, 0, none⟩ x).setCell ⟨w.heap.size, 1, none⟩ y).heap[b]? = wc.heap[b]? := (Below.heap_setCell _ _ _ _ (by simp; omega)).trans (Below.heap_setCell _ _ _ _ (by simp; omega))
  exact ⟨b, o, ha, by simpa [World.setCell] using hB, (World.cell?_of_block (w := wc) hk).trans g0, (World.cell?_of_block (w := wc) hk).trans g1, (World.cell?_of_block (w := wc) hk).trans g2⟩
theorem PzSt.fin {w w1 wc : World} {g : Nat} {A : Option Addr} {len cap : Nat} {m mm nn : Int} {bc cc : Nat} {cs : List Int} {A' : Option Addr} {c' : Nat} {ws : List Wy}
    (h : PzSt w w1 wc 50 25 3 g A len cap mm nn (.slice A' ws.length c') (.slice (some ⟨bc, 0, none⟩) cs.length cc) cs) (hrw : RW w1 w1.heap.size A' ws) (hA : ∀ ad, A' = some ad → w.heap.size < ad.block) (hl10 : ws.length ≤ 10) (hcc : ws.length ≤ c') (hn0 : 0 ≤ nn) (hn7 : nn ≤ 7) (hcs : cs.length ≤ 8) (hmm : mm ≤ m + 60) :
    PzPost w 50 g A len cap m (.returned (.tuple #[.agg #[.int .i64 nn, .slice A' ws.length c'], .slice (some ⟨bc, 0, none⟩) cs.length cc])) ((wc.setCell ⟨w.heap.size, 0, none⟩ (.int .i64 nn)).setCell ⟨w.heap.size, 1, none⟩ (.slice A' ws.length c')) := by
  obtain ⟨h1, h2⟩ := pz_out h hrw hA (.int .i64 nn) (.slice A' ws.length c')
  have hw := h.wlt
  have hgl := h.glt
  have hb := (h.own.lt bc rfl).1
  refine ⟨nn, A', c', ws, bc, cc, cs, rfl, h1, fun ad e => Nat.le_of_lt (hA ad e), rl_own h.own (by omega) _ _, by omega, hl10, hcc, hcs, hn0, hn7, (h.rdr.more hmm).keep (fun k hk => (Below.heap_setCell _ _ _ _ (by simp; omega)).trans (Below.heap_setCell _ _ _ _ (by simp; omega))), h2⟩
set_option maxRecDepth 100000 in
set_option maxHeartbeats 8000000 in
theorem l20Prizes_any (g : Nat) (A : Option Addr) (len cap : Nat) (m n : Int) (w : World) (hr : RdrE w 50 g A len cap m) (hm : m ≤ 700000) (h1 : 1 ≤ n) (hn : n ≤ 1000) :
    Calls Tryd.prog 15 #[.pointer (some ⟨g, 0, none⟩), .int .i64 n] w (PzPost w 50 g A len cap m) := by
  have hg := hr.lt
  have HR := Lib.hid hr
  clear hr
  have hbs := emptyInts
  obtain ⟨i0, hi0, hz0, hz1', hz2⟩ := info_parts infoInt
  have hw1 : IntKind.i64.wrap (n * 2) = n * 2 := IntWalk.i64_in _ ⟨by omega, by omega⟩
  have hw2 : wrap64 (n * 2) = n * 2 := IntWalk.wrap64_in _ ⟨by omega, by omega⟩
  have HW1 := Lib.hid hw1
  have HW2 := Lib.hid hw2
  go_enter Tryd.func15, Tryd.ntmps15
  go_wp2_with fail
  refine (l20Net_any g A len cap m (n * 2) _ (HR.out.below (by go_grown)) (by omega) (by omega) (by omega)).mono ?_
  rintro e w1 ⟨nn, A', c', ws, rfl, hrw, hA', hl10, hcc, hn0, hn7, hr1, hg1⟩
  have hsz1 : w.heap.size < w1.heap.size := by have := hg1.size; simp at this; omega
  have hres : w1.heap[w.heap.size]? = some (.cells #[.int .i64 0, .slice none 0 0] 25 (0, 0)) := by
    rw [hg1.block _ (by simp) (by intro e; injection e; omega)]
    exact heap_alloc_new w _
  have HRES := Lib.hid hres
  have HAD : Hid (∀ ad, A' = some ad → w.heap.size < ad.block) := fun ad h => by have := hA' ad h; simp at this; omega
  have HRW := Lib.hid hrw
  have S0 := Lib.hid (PzSt.start (tn := 25) (tc := 3) hr1 (only_trans (only_alloc (World.grownBy.refl w (some g)) _) hg1) hg hsz1 nn (.slice A' ws.length c'))
  have m1 : (if nn < 0 then 0 else nn) = nn := if_neg (by omega)
  have m2 : (if 0 < nn then nn else 0) = nn := by split <;> omega
  have m3 : (if nn ≤ 0 then 0 else nn) = nn := by split <;> omega
  have m4 : (if 0 ≤ nn then nn else 0) = nn := by split <;> omega
  have m5 : max nn 0 = nn := by omega
  have HMX := Lib.hid (And.intro m1 (And.intro m2 (And.intro m3 (And.intro m4 m5))))
  obtain ⟨N, hN⟩ : ∃ N : Nat, nn = (N : Int) := ⟨nn.toNat, by omega⟩
  have HN := Lib.hid hN
  clear hg1 hr1 hres hrw hA' hw1 hw2 m1 m2 m3 m4 m5 hN
  go_wp2_with fail
  go_loopw [7, 8] (fun v i wr => ∃ (cs : List Int), cs.length ≤ N ∧ i = .int .i64 cs.length ∧ PzSt w w1 wr 50 25 3 g A len cap (m + 40 + 2 * cs.length) nn (.slice A' ws.length c') v cs ∧ ∃ bc cc, v = .slice (some ⟨bc, 0, none⟩) cs.length cc) (fun _ i _ => N - (intOf i).toNat)
  case atStart => exact ⟨[], Nat.zero_le _, rfl, S0.out.more (by simp), ⟨_, _, rfl⟩⟩
  case round =>
    clear S0
    obtain ⟨cs, hcs, rfl, hst, ⟨bc, cc, hv⟩⟩ := hrel
    (try injection hv with hv1 hv2 hv3)
    (try subst hv)
    (try subst hv1)
    (try subst hv3)
    have S1 := Lib.hid hst
    obtain ⟨y10, y11⟩ := hst.cells
    have hk0 : (0 : Int) ≤ (cs.length : Int) := by omega
    have hN7 : N ≤ 7 := by have := HN.out; omega
    clear hst
    obtain ⟨m1, m2, m3, m4, m5⟩ := HMX.out
    by_cases hlt : cs.length < N
    · have hk1 : (cs.length : Int) < nn := by have := HN.out; omega
      go_wp2_with fail
      refine (pickE g A len cap _ 8 _ S1.out.rdr (by omega) (by omega)).mono ?_; rintro e2 w2 ⟨q1, rfl, hq10, hq11, hr2, hg2, -⟩
      have S2 := Lib.hid (S1.out.keep hr2 hg2)
      have hq12 := hq11 (by omega)
      clear hr2 hg2 hq11 y10 y11 m1 m2 m3 m4 m5
      go_wp2_with fail
      refine (pickE g A len cap _ 5 _ S2.out.rdr (by omega) (by omega)).mono ?_; rintro e3 w3 ⟨q2, rfl, hq20, hq21, hr3, hg3, -⟩
      have S3 := Lib.hid ((S2.out.keep hr3 hg3).more (m' := m + 40 + 2 * ((cs.length : Nat) + 1 : Int)) (by omega))
      have hq22 := hq21 (by omega)
      obtain ⟨t, ht⟩ : ∃ t : Int, q2.tdiv 4 = t := ⟨_, rfl⟩
      have ht0 : 0 ≤ t ∧ t ≤ 1 := by rw [← ht, Int.tdiv_eq_ediv_of_nonneg hq20]; omega
      have e1 : IntKind.i64.wrap (q2.tdiv 4) = t := by rw [ht]; exact IntWalk.i64_in _ ⟨by omega, by omega⟩
      have e1' : wrap64 (q2.tdiv 4) = t := by rw [ht]; exact IntWalk.wrap64_in _ ⟨by omega, by omega⟩
      have e2 : IntKind.i64.wrap (t * 12) = t * 12 := IntWalk.i64_in _ ⟨by clear e1 e1'; omega, by clear e1 e1'; omega⟩
      have e2' : wrap64 (t * 12) = t * 12 := IntWalk.wrap64_in _ ⟨by clear e1 e1' e2; omega, by clear e1 e1' e2; omega⟩
      have e3 : IntKind.i64.wrap (q1 + t * 12) = q1 + t * 12 := IntWalk.i64_in _ ⟨by clear e1 e1' e2 e2'; omega, by clear e1 e1' e2 e2'; omega⟩
      have e3' : wrap64 (q1 + t * 12) = q1 + t * 12 := IntWalk.wrap64_in _ ⟨by clear e1 e1' e2 e2' e3; omega, by clear e1 e1' e2 e2' e3; omega⟩
      clear hr3 hg3 hq21 ht S1 S2
      go_wp2_with (at_builtin; (clear e1 e1' e2 e2' e3 e3'); refine wpList_append_lies _ rfl _ _ _ rfl (w1.heap.size + 1) 3 i0 _ 1 8 Tryd.underlying26 hi0 hz0 hz1' hz2 rfl (by omega) _ cs.length (rlCells cs) rfl (World.ownsRow.alloc S3.out.own _) ⟨w3.heap.size, 0, none⟩ 1 1 [.int .i64 (q1 + t * 12)] rfl rfl (World.news_of_block (cs := #[.int .i64 (q1 + t * 12)]) (t := 3) (fr := (0, 0)) (heap_alloc_new w3 _)) (by simp [Value.oneCell']) (by omega) (by unfold maxLen; omega) (by omega) (by have h9 := S3.out.nlt; (try simp); omega) (w3.heap.size + 1) (World.size_alloc w3 _) ?_; intro gg cg w9 hown9 hgrow9 hat9 hlt9)
      (try clear e1 e1' e2 e2' e3 e3')
      have S9 := Lib.hid (S3.out.append (q1 + t * 12) hown9 ⟨hgrow9.os, hgrow9.tape, hgrow9.output, hgrow9.size, hgrow9.block⟩)
      clear hown9 hgrow9 hat9 hlt9
      go_wp2_with fail
      go_roundw
      case rel => exact ⟨cs ++ [q1 + t * 12], by rw [List.length_append]; simp; omega, by rw [List.length_append]; go_num, by rw [List.length_append]; exact S9.out, ⟨gg, cg, by rw [List.length_append]; rfl⟩⟩
      case measure => (simp [intOf]) <;> omega
    · have hk1 : ¬ (cs.length : Int) < nn := by have := HN.out; omega
      have hcs8 : cs.length ≤ 7 := by omega
      have hw1 := HW1.out
      have hw2 := HW2.out
      go_wp2_with fail
      clear hw1 hw2 m1 m2 m3 m4 m5
      refine (oddE g A len cap _ (n * 2) _ S1.out.rdr (by omega) (by omega) (by omega)).mono ?_; rintro e8 w8 ⟨q8, rfl, hr8, hg8, -⟩
      have S8 := Lib.hid (S1.out.keep hr8 hg8)
      obtain ⟨y80, y81⟩ := S8.out.cells
      clear hr8 hg8 y10 y11 S1
      cases q8
      · have hr9 : w8.heap[w.heap.size]? = some (.cells #[.int .i64 0, .slice none 0 0] 25 (0, 0)) := (S8.out.low _ (Nat.le_refl _) hsz1).trans HRES.out
        have z0 : w8.cell? ⟨w.heap.size, 0, none⟩ = some (.int .i64 0) := cell_of_row _ _ 0 _ _ (0, 0) hr9
        have z1 : w8.cell? ⟨w.heap.size, 1, none⟩ = some (.slice none 0 0) := cell_of_row _ _ 1 _ _ (0, 0) hr9
        have z2 : w8.frozen? ⟨w.heap.size, 0, none⟩ = false := by simp [World.frozen?, hr9]
        have z3 : w8.frozen? ⟨w.heap.size, 1, none⟩ = false := by simp [World.frozen?, hr9]
        have TT := Lib.hid (two_cells (v0 := .int .i64 nn) (v1 := .slice A' ws.length c') hr9)
        clear hr9
        go_wp2_with fail
        obtain ⟨t0, t1⟩ := TT.out
        refine bodyPost_ret (v := .tuple #[.agg #[.int .i64 nn, .slice A' ws.length c'], .slice (some ⟨bc, 0, none⟩) cs.length cc]) (by simp [results, Tryd.results15, go_sem, t0, t1]) rfl ?_
        exact S8.out.fin HRW.out HAD.out hl10 hcc hn0 hn7 (by omega) (by omega)
      · go_wp2_with fail
        refine wp_region_held_drew (S := (fun w' => w'.cell? ⟨w1.heap.size, 0, none⟩ = some (.int .i64 nn) ∧ w'.cell? ⟨w1.heap.size, 1, none⟩ = some (.slice A' ws.length c'))) (by kernel_rfl) ?_ (fun hHeld => ?_)
        · exact ⟨y80, y81⟩
        refine wpAnyH_take (i := 0) (v := ?_) rfl (by kernel_rfl) (by kernel_rfl) (by kernel_rfl) (fun _ _ _ h => h) (Or.inl ⟨by rfl, ?_⟩) (by assumption) ?_
        rotate_left
        · (intro w hSw; (try dsimp only at hSw); (try simp only [List.getElem_toArray, List.getElem_cons_succ, List.getElem_cons_zero]); first | (go_simp; done) | (go_simp; with_reducible rfl))
        try simp only [Act.put, List.getElem_toArray, List.getElem_cons_succ, List.getElem_cons_zero, List.setIfInBounds_toArray, List.set_cons_zero, List.set_cons_succ]
        refine wpAnyH_take (i := 1) (v := ?_) rfl (by kernel_rfl) (by kernel_rfl) (by kernel_rfl) (fun _ _ _ h => h) (Or.inl ⟨by rfl, ?_⟩) (by assumption) ?_
        rotate_left
        · (intro w hSw; (try dsimp only at hSw); (try simp only [List.getElem_toArray, List.getElem_cons_succ, List.getElem_cons_zero]); first | (go_simp; done) | (go_simp; with_reducible rfl))
        try simp only [Act.put, List.getElem_toArray, List.getElem_cons_succ, List.getElem_cons_zero, List.setIfInBounds_toArray, List.set_cons_zero, List.set_cons_succ]
        refine wpAnyH_ready (rs := [2]) (by kernel_rfl) (by simp) ?_
        refine AllReadyH.cons rfl (fun K hK => ?_) AllReadyH.nil
        try simp only [List.getElem_toArray, List.getElem_cons_succ, List.getElem_cons_zero]
        go_simp

        refine hK.out _ _ ?_ (fun hHeld => ?_)
        · exact ⟨(World.cell?_alloc_lt _ _ _ S8.out.nlt).trans y80, (World.cell?_alloc_lt _ _ _ S8.out.nlt).trans y81⟩
        clear hK K
        try simp only [Act.put, List.getElem_toArray, List.getElem_cons_succ, List.getElem_cons_zero, List.setIfInBounds_toArray, List.set_cons_zero, List.set_cons_succ]
        refine wpAnyH_ready (rs := [3]) (by kernel_rfl) (by simp) ?_
        refine AllReadyH.cons rfl (fun K hK => ?_) AllReadyH.nil
        refine step_append_lies _ (by rfl) _ _ _ (by rfl) (w1.heap.size + 1) 3 i0 _ 1 8 Tryd.underlying26 hi0 hz0 hz1' hz2 rfl (by omega) _ cs.length (rlCells cs) (by rfl) (World.ownsRow.alloc S8.out.own _) ⟨w8.heap.size, 0, none⟩ 1 1 [.int .i64 21] (by rfl) (by rfl) (World.news_of_block (cs := #[.int .i64 21]) (t := 3) (fr := (0, 0)) (heap_alloc_new w8 _)) (by simp [Value.oneCell']) (by omega) (by unfold maxLen; omega) (by omega) (by have h9 := S8.out.nlt; (try simp); omega) (w8.heap.size + 1) (World.size_alloc w8 _) ?_; intro gg cg w9 hown9 hgrow9 hat9 hlt9
        have S9 := Lib.hid (S8.out.append 21 hown9 ⟨hgrow9.os, hgrow9.tape, hgrow9.output, hgrow9.size, hgrow9.block⟩)
        obtain ⟨y90, y91⟩ := S9.out.cells
        have hr9 : w9.heap[w.heap.size]? = some (.cells #[.int .i64 0, .slice none 0 0] 25 (0, 0)) := (S9.out.low _ (Nat.le_refl _) hsz1).trans HRES.out
        have z0 : w9.cell? ⟨w.heap.size, 0, none⟩ = some (.int .i64 0) := cell_of_row _ _ 0 _ _ (0, 0) hr9
        have z1 : w9.cell? ⟨w.heap.size, 1, none⟩ = some (.slice none 0 0) := cell_of_row _ _ 1 _ _ (0, 0) hr9
        have z2 : w9.frozen? ⟨w.heap.size, 0, none⟩ = false := by simp [World.frozen?, hr9]
        have z3 : w9.frozen? ⟨w.heap.size, 1, none⟩ = false := by simp [World.frozen?, hr9]
        have TT := Lib.hid (two_cells (v0 := .int .i64 nn) (v1 := .slice A' ws.length c') hr9)
        have y9 := set_d (.int .i64 nn) (.slice A' ws.length c') ⟨y90, y91⟩ (show w1.heap.size ≠ w.heap.size by omega)
        clear hown9 hgrow9 hat9 hlt9 hr9
        refine hK.out _ _ ?_ (fun hHeld => ?_)
        · exact ⟨y90, y91⟩
        clear hK K
        try simp only [Act.put, List.getElem_toArray, List.getElem_cons_succ, List.getElem_cons_zero, List.setIfInBounds_toArray, List.set_cons_zero, List.set_cons_succ]
        refine wpAnyH_ready (rs := [4]) (by kernel_rfl) (by simp) ?_
        refine AllReadyH.cons rfl (fun K hK => ?_) AllReadyH.nil
        try simp only [List.getElem_toArray, List.getElem_cons_succ, List.getElem_cons_zero]
        go_simp

        refine hK.out _ _ ?_ (fun hHeld => ?_)
        · exact y9
        clear hK K
        try simp only [Act.put, List.getElem_toArray, List.getElem_cons_succ, List.getElem_cons_zero, List.setIfInBounds_toArray, List.set_cons_zero, List.set_cons_succ]
        refine wpAnyH_take (i := 5) (v := ?_) rfl (by kernel_rfl) (by kernel_rfl) (by kernel_rfl) (fun _ _ _ h => h) (Or.inl ⟨by rfl, ?_⟩) (by assumption) ?_
        rotate_left
        · (intro w hSw; (try dsimp only at hSw); (try simp only [List.getElem_toArray, List.getElem_cons_succ, List.getElem_cons_zero]); first | (go_simp; done) | (go_simp; with_reducible rfl))
        try simp only [Act.put, List.getElem_toArray, List.getElem_cons_succ, List.getElem_cons_zero, List.setIfInBounds_toArray, List.set_cons_zero, List.set_cons_succ]
        refine wpAnyH_done (by kernel_rfl) ?_ _
        go_wp2_with fail
        obtain ⟨t0, t1⟩ := TT.out
        refine bodyPost_ret (v := .tuple #[.agg #[.int .i64 nn, .slice A' ws.length c'], .slice (some ⟨gg, 0, none⟩) (cs ++ [21]).length cg]) (by simp [results, Tryd.results15, go_sem, t0, t1]) rfl ?_
        exact PzSt.fin (by rw [List.length_append]; exact S9.out) HRW.out HAD.out hl10 hcc hn0 hn7 (by rw [List.length_append]; simp; omega) (by omega)
end Go.Proofs.YtoekaembfieigaaDoor
