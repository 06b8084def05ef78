/- DrawSharesOk: some net, some row. -/
import Derived.Test.YtfpaalmbllhmaaaDoorWN
import Derived.Test.YtfpaalmbllhmaaaDoorWP
import Derived.Test.YtfpaalmbllhmaaaDoorWM
import Derived.Test.YtfpaalmbllhmaaaDoorUpF
set_option linter.unusedSimpArgs false
set_option linter.unusedVariables false
attribute [local go_sem ↓] Go.wp_at_zero Go.wp_at_succ
namespace Go.Proofs.YtfpaalmbllhmaaaDoor
open Go.ChangeShapes Go.WideShapes Go.ChangeAt Go.RowKit

theorem own_grown {w w' : World} {base size n g : Nat} {e : TypeId} {v : Value} {xs : List Value} (h : w.ownsRow base e size v n xs) (hg : w.grownBy w' (some g)) (hb : g < base) : w'.ownsRow base e size v n xs := by
  refine ⟨h.1, ?_⟩
  rcases h.2 with h2 | ⟨g', cap, cur, hv, h3, h4, h5⟩
  · exact .inl h2
  · exact .inr ⟨g', cap, cur, hv, h3, (hg.block g' (Array.getElem?_eq_some_iff.1 h4).1 (by intro e; injection e; omega)).trans h4, h5⟩
/-- what is told while a row is drawn -/
structure RowSt (w wx : World) (g h1 lo : Nat) (A : Option Addr) (l1 cap : Nat) (k : Int) (nn : Int) (A' : Option Addr) (c' : Nat) (ws : List Wy) (v : Value) (n : Nat) (f : Nat → Int) : Prop where
  rdr : RdrE wx 72 g A l1 cap k
  res : wx.heap[w.heap.size]? = some (.cells #[.int .i64 0, .slice none 0 0] 25 (0, 0))
  box : wx.heap[h1]? = some (.cells #[.int .i64 nn, .slice A' ws.length c'] 25 (0, 0))
  net : RW wx h1 A' ws
  new : ∀ ad, A' = some ad → g < ad.block
  own : wx.ownsRow lo 3 1 v n (numCells f n)
  bel : Below w.heap.size w wx
  ord : w.heap.size < g ∧ g < h1 ∧ h1 < lo ∧ lo ≤ wx.heap.size
section
variable {w wx wy : World} {g h1 lo : Nat} {A : Option Addr} {l1 cap : Nat} {k k' : Int} {nn : Int} {A' : Option Addr} {c' : Nat} {ws : List Wy} {v : Value} {n : Nat} {f : Nat → Int}
theorem RowSt.rd (h : RowSt w wx g h1 lo A l1 cap k nn A' c' ws v n f) (hr : RdrE wy 72 g A l1 cap k') (hg : wx.grownBy wy (some g)) : RowSt w wy g h1 lo A l1 cap k' nn A' c' ws v n f := by
  obtain ⟨o1, o2, o3, o4⟩ := h.ord
  have hs := hg.size
  refine ⟨hr, ?_, ?_, fun i x hx => ?_, h.new, own_grown h.own hg (by omega), below_of_only h.bel hg (by omega), o1, o2, o3, by omega⟩
  · rw [hg.block _ (by omega) (by intro e; injection e; omega)]; exact h.res
  · rw [hg.block _ (by omega) (by intro e; injection e; omega)]; exact h.box
  · obtain ⟨b, o, ha, hB, g0, g1, g2⟩ := h.net i x hx
    have hn := h.new _ ha
    simp at hn
    have hk : wy.heap[b]? = wx.heap[b]? := hg.block _ (by omega) (by intro e; injection e; omega)
    exact ⟨b, o, ha, hB, (World.cell?_of_block (w := wx) hk).trans g0, (World.cell?_of_block (w := wx) hk).trans g1, (World.cell?_of_block (w := wx) hk).trans g2⟩
theorem RowSt.drew (h : RowSt w wx g h1 lo A l1 cap k nn A' c' ws v n f) : RowSt w wx.drew g h1 lo A l1 cap k nn A' c' ws v n f := ⟨h.rdr.drewR, h.res, h.box, h.net, h.new, h.own, h.bel.drew, h.ord⟩
theorem RowSt.b0 (h : RowSt w wx g h1 lo A l1 cap k nn A' c' ws v n f) : wx.cell? ⟨h1, 0, none⟩ = some (.int .i64 nn) ∧ wx.cell? ⟨h1, 1, none⟩ = some (.slice A' ws.length c') := ⟨cell_of_row _ _ 0 _ _ (0, 0) h.box, cell_of_row _ _ 1 _ _ (0, 0) h.box⟩
/-- what lies above the net alone has changed -/
theorem RowSt.up (h : RowSt w wx g h1 lo A l1 cap k nn A' c' ws v n f) (hb : Below lo wx wy) {v' : Value} {n' : Nat} {f' : Nat → Int} (ho : wy.ownsRow lo 3 1 v' n' (numCells f' n')) : RowSt w wy g h1 lo A l1 cap k nn A' c' ws v' n' f' := by
  obtain ⟨o1, o2, o3, o4⟩ := h.ord
  refine ⟨h.rdr.keep (fun i hi => hb.block i (by omega)), (hb.block _ (by omega)).trans h.res, (hb.block _ (by omega)).trans h.box, fun i x hx => ?_, h.new, ho, ?_, o1, o2, o3, Nat.le_trans o4 hb.size⟩
  · obtain ⟨b, o, ha, hB, g0, g1, g2⟩ := h.net i x hx
    have hk : wy.heap[b]? = wx.heap[b]? := hb.block _ (by omega)
    exact ⟨b, o, ha, hB, (World.cell?_of_block (w := wx) hk).trans g0, (World.cell?_of_block (w := wx) hk).trans g1, (World.cell?_of_block (w := wx) hk).trans g2⟩
  · exact ⟨hb.os.trans h.bel.os, hb.tape.trans h.bel.tape, hb.output.trans h.bel.output, Nat.le_trans h.bel.size hb.size, fun i hi => (hb.block i (by omega)).trans (h.bel.block i hi)⟩
end
/-- some net, some row of numbers -/
def DrawnRow (w : World) (e : Ending) (w' : World) : Prop :=
  ∃ (nn : Int) (A' : Option Addr) (c' : Nat) (ws : List Wy) (Ar : Option Addr) (cr : Nat) (L : List Int), e = .returned (.tuple #[.agg #[.int .i64 nn, .slice A' ws.length c'], .slice Ar L.length cr]) ∧ RW w' w'.heap.size A' ws ∧ ws.length ≤ 10 ∧ ws.length ≤ c' ∧ 0 ≤ nn ∧ nn ≤ 7 ∧ RI w' w'.heap.size Ar L ∧ L.length ≤ 7 ∧ Below w.heap.size w w'
/-- the end of the draw: the net is written where it is returned -/
theorem RowSt.fin {w wx : World} {g h1 lo : Nat} {A : Option Addr} {l1 cap : Nat} {k : Int} {nn : Int} {A' : Option Addr} {c' : Nat} {ws : List Wy} {Ar : Option Addr} {cr n : Nat} {f : Nat → Int}
    (h : RowSt w wx g h1 lo A l1 cap k nn A' c' ws (.slice Ar n cr) n f) (hl10 : ws.length ≤ 10) (hcc : ws.length ≤ c') (hn0 : 0 ≤ nn) (hn7 : nn ≤ 7) (hn : n ≤ 7) :
    DrawnRow w (.returned (.tuple #[.agg #[.int .i64 nn, .slice A' ws.length c'], .slice Ar n cr])) ((wx.setCell ⟨w.heap.size, 0, none⟩ (.int .i64 nn)).setCell ⟨w.heap.size, 1, none⟩ (.slice A' ws.length c')) := by
  obtain ⟨o1, o2, o3, o4⟩ := h.ord
  have hk : ∀ b, b ≠ w.heap.size → ((wx.setCell ⟨w.heap.size, 0, none⟩ (.int .i64 nn)).setCell ⟨w.heap.size, 1, none⟩ (.slice A' ws.length c')).heap[b]? = wx.heap[b]? := fun b hb => (Below.heap_setCell _ _ _ _ hb).trans (Below.heap_setCell _ _ _ _ hb)
  have hL : ((List.range n).map f).length = n := by simp
  refine ⟨nn, A', c', ws, Ar, cr, (List.range n).map f, by rw [hL], ?_, hl10, hcc, hn0, hn7, ?_, by rw [hL]; exact hn, (h.bel.setCell (p := ⟨w.heap.size, 0, none⟩) (Nat.le_refl _) _).setCell (p := ⟨w.heap.size, 1, none⟩) (Nat.le_refl _) _⟩
  · intro i x hx
    obtain ⟨b, o, ha, hB, g0, g1, g2⟩ := h.net i x hx
    have hnw := h.new _ ha
    simp at hnw
    have hb := hk b (by omega)
    exact ⟨b, o, ha, by simp [World.setCell]; omega, (World.cell?_of_block (w := wx) hb).trans g0, (World.cell?_of_block (w := wx) hb).trans g1, (World.cell?_of_block (w := wx) hb).trans g2⟩
  · intro i x hx
    have hi : i < n := by have := (List.getElem?_eq_some_iff.1 hx).1; simpa using this
    have hxf : f i = x := by simpa [hi] using hx
    obtain ⟨g', e1, e2, e3, _, _⟩ := own_put h.own hi
    have hl := World.block_lt_of_cell? wx _ e3
    have hb := hk g' (by omega)
    refine ⟨g', 0, e1, by simpa [World.setCell] using hl, ?_⟩
    rw [Nat.zero_add, ← hxf]
    exact (World.cell?_of_block (w := wx) hb).trans e3
theorem bird_at_bd (n : Int) (ws : List Wy) (j : Nat) : 0 ≤ (birdShares n ws).getD j 0 ∧ (birdShares n ws).getD j 0 ≤ 9 := by
  by_cases h : j < (birdShares n ws).length
  · have hlt := h
    unfold birdShares at hlt ⊢
    by_cases ht : spanTreeOf n ws < 0
    · rw [if_pos ht] at hlt; simp at hlt
    · rw [if_neg ht] at hlt ⊢
      rw [shRow_len] at hlt
      rw [shRow_at ws _ _ hlt]
      exact share_bd (treeFor (n := n) (ws := ws) (by omega)).1.net _ _
  · rw [List.getD_eq_getElem?_getD, List.getElem?_eq_none (by omega)]; simp
set_option maxRecDepth 100000 in
set_option maxHeartbeats 4000000 in
theorem DrawSharesOk_any (A : Option Addr) (len cap : Nat) (w : World) (hr : RB w w.heap.size A len) (hc : len ≤ cap) (hl : len ≤ 1048576) :
    Calls Tryd.prog 28 #[.slice A len cap] w (DrawnRow w) := by
  have HR := Lib.hid hr
  obtain ⟨i0, hi0, hz0, hz1', hz2⟩ := info_parts infoInt
  clear hr
  go_enter Tryd.func28, Tryd.ntmps28
  go_wp2_with fail
  refine (openE A len cap _ (fun i hi => ?_) hc hl).mono ?_
  · obtain ⟨b, o, v, ha, hB, h0, h1, h2⟩ := HR.out i hi
    exact ⟨b, o, v, ha, by simp; omega, h0, h1, (World.cell?_alloc_lt w _ _ hB).trans h2⟩
  rintro e wo ⟨l1, rfl, hr1, hb1⟩
  simp only [World.size_alloc] at hr1
  have hzo : w.heap.size + 1 < wo.heap.size := by have := hr1.lt; omega
  have HB1 := Lib.hid (bstep (B := w.heap.size) (W := w) (by go_grown) (by go_size) hb1)
  have HBL := Lib.hid (hb1.block w.heap.size (by simp))
  obtain ⟨g, hg⟩ : ∃ g, w.heap.size + 1 = g := ⟨_, rfl⟩
  rw [hg] at hr1
  have hgw : w.heap.size < g := by omega
  have hgo : g < wo.heap.size := by omega
  clear hb1
  go_wp2_with fail
  refine (l20Net_any g A l1 cap 0 14 _ hr1 (by omega) (by omega) (by omega)).mono ?_
  rintro e w1 ⟨nn, A', c', ws, rfl, hrw, hA', hl10, hcc, hn0, hn7, hr2, hg2⟩
  have hs1 : wo.heap.size ≤ w1.heap.size := hg2.size
  have hres : w1.heap[w.heap.size]? = some (.cells #[.int .i64 0, .slice none 0 0] 25 (0, 0)) := by
    rw [hg2.block _ (by omega) (by intro e; injection e; omega), HBL.out]
    exact heap_alloc_new w _
  have HBD := Lib.hid (below_of_only HB1.out hg2 (by omega))
  have HRES := Lib.hid hres
  have HRW := Lib.hid hrw
  have HAN : Hid (∀ ad, A' = some ad → g < ad.block) := fun ad h => Nat.lt_of_lt_of_le hgo (hA' ad h)
  obtain ⟨h1, hh1⟩ : ∃ h, w1.heap.size = h := ⟨_, rfl⟩
  have HH1 := Lib.hid hh1
  obtain ⟨L, hL⟩ : ∃ L, birdShares nn ws = L := ⟨_, rfl⟩
  have HL := Lib.hid hL
  have hl6 : L.length ≤ 6 := by rw [← hL, birdShares_len]; exact upWays_len nn ws
  have HLB : Hid (∀ j, 0 ≤ L.getD j 0 ∧ L.getD j 0 ≤ 9) := fun j => by rw [← hL]; exact bird_at_bd nn ws j
  have HR2 := Lib.hid hr2
  obtain ⟨pp, hpp⟩ : ∃ p : Int, (0 : Int) + 40 = p := ⟨_, rfl⟩
  clear hres hrw hg hr1 hL hg2 hr2
  go_wp2_with fail
  have hrw2 : RW (w1.alloc (.cells #[.int .i64 nn, .slice A' ws.length c'] 25)) (w1.alloc (.cells #[.int .i64 nn, .slice A' ws.length c'] 25)).heap.size A' ws := HRW.out.later (by go_grown)
  refine (sBirdShares_own nn A' c' ws _ hrw2 (by omega)).mono ?_; rintro e2 w2 ⟨Ar, cr, rfl, hown, hb2⟩
  rw [HL.out] at hown ⊢
  have hsz2 : h1 + 1 ≤ w2.heap.size := by have := hb2.size; rw [World.size_alloc, hh1] at this; exact this
  have HS2 : Hid (RowSt w w2 g h1 (h1 + 1) A l1 cap (0 + 40) nn A' c' ws (.slice Ar L.length cr) L.length (fun j => L.getD j 0)) := by
    have hgl : g < h1 := by omega
    have hba : Below h1 w1 w2 := by
      have h9 := (Below.refl w1.heap.size w1).alloc (Nat.le_refl _) (.cells #[.int .i64 nn, .slice A' ws.length c'] 25)
      rw [← hh1]
      exact ⟨hb2.os.trans h9.os, hb2.tape.trans h9.tape, hb2.output.trans h9.output, Nat.le_trans h9.size hb2.size, fun i hi => (hb2.block i (by simp; omega)).trans (h9.block i hi)⟩
    refine ⟨HR2.out.keep (fun i hi => hba.block i (by omega)), (hba.block _ (by omega)).trans HRES.out, ?_, fun i x hx => ?_, HAN.out, ?_, ?_, hgw, hgl, by omega, hsz2⟩
    · rw [← hh1, hb2.block _ (by simp)]; exact heap_alloc_new w1 _
    · obtain ⟨b, o, ha, hB, g0, g1, g2⟩ := HRW.out i x hx
      have hk : w2.heap[b]? = w1.heap[b]? := hba.block _ (by omega)
      exact ⟨b, o, ha, by omega, (World.cell?_of_block (w := w1) hk).trans g0, (World.cell?_of_block (w := w1) hk).trans g1, (World.cell?_of_block (w := w1) hk).trans g2⟩
    · rw [World.size_alloc, hh1] at hown; exact hown
    · exact ⟨hba.os.trans HBD.out.os, hba.tape.trans HBD.out.tape, hba.output.trans HBD.out.output, Nat.le_trans HBD.out.size hba.size, fun i hi => (hba.block i (by omega)).trans (HBD.out.block i hi)⟩
  obtain ⟨lo, hlo⟩ : ∃ l, h1 + 1 = l := ⟨_, rfl⟩
  rw [hlo] at HS2
  obtain ⟨n9, hn9⟩ : ∃ n, L.length = n := ⟨_, rfl⟩
  rw [hn9] at HS2 hl6 ⊢
  obtain ⟨y20, y21⟩ := HS2.out.b0
  obtain ⟨f, hf⟩ : ∃ f : Nat → Int, (fun j => L.getD j 0) = f := ⟨_, rfl⟩
  have HFB : Hid (∀ j, 0 ≤ f j ∧ f j ≤ 9) := fun j => by rw [← hf]; exact HLB.out j
  rw [hf] at HS2
  clear hown hb2 hrw2 HBD HRW HB1 HBL HLB hn9 hlo hf hpp pp HL hsz2
  by_cases h3 : n9 ≤ 2
  · have d0 : ¬ (2 : Int) < (n9 : Int) := by omega
    have d1 : decide ((2 : Int) < (n9 : Int)) = false := decide_eq_false d0
    have d2 : decide (2 < n9) = false := by simpa using h3
    go_wp2_with fail
    refine (oddE g A l1 cap _ 12 _ HS2.out.rdr (by omega) (by omega) (by omega)).mono ?_; rintro e8 w8 ⟨q8, rfl, hr8, hg8, -⟩
    have HS8 := Lib.hid (HS2.out.rd hr8 hg8)
    obtain ⟨y80, y81⟩ := HS8.out.b0
    clear hr8 hg8
    cases q8
    · have z0 : w8.cell? ⟨w.heap.size, 0, none⟩ = some (.int .i64 0) := cell_of_row _ _ 0 _ _ (0, 0) HS8.out.res
      have z1 : w8.cell? ⟨w.heap.size, 1, none⟩ = some (.slice none 0 0) := cell_of_row _ _ 1 _ _ (0, 0) HS8.out.res
      have z2 : w8.frozen? ⟨w.heap.size, 0, none⟩ = false := by have := HS8.out.res; simp [World.frozen?, this]
      have z3 : w8.frozen? ⟨w.heap.size, 1, none⟩ = false := by have := HS8.out.res; simp [World.frozen?, this]
      have TT := Lib.hid (two_cells (v0 := .int .i64 nn) (v1 := .slice A' ws.length c') HS8.out.res)
      go_wp2_with fail
      obtain ⟨t0, t1⟩ := TT.out
      refine bodyPost_ret (v := .tuple #[.agg #[.int .i64 nn, .slice A' ws.length c'], .slice Ar n9 cr]) (by simp [results, Tryd.results28, go_sem, t0, t1]) rfl ?_
      exact HS8.out.fin hl10 hcc hn0 hn7 (by omega)
    · go_wp2_with fail
      refine wp_region_held_drew (S := (fun w' => w'.cell? ⟨h1, 0, none⟩ = some (.int .i64 nn) ∧ w'.cell? ⟨h1, 1, none⟩ = some (.slice A' ws.length c'))) (by kernel_rfl) ?_ (fun hHeld => ?_)
      · exact ⟨y80, y81⟩
      refine wpAnyH_take (i := 0) (v := ?_) rfl (by kernel_rfl) (by kernel_rfl) (by kernel_rfl) (fun _ _ _ h => h) (Or.inl ⟨by rfl, ?_⟩) (by assumption) ?_
      rotate_left
      · (intro w hSw; (try dsimp only at hSw); (try simp only [List.getElem_toArray, List.getElem_cons_succ, List.getElem_cons_zero]); first | (go_simp; done) | (go_simp; with_reducible rfl))
      try simp only [Act.put, List.getElem_toArray, List.getElem_cons_succ, List.getElem_cons_zero, List.setIfInBounds_toArray, List.set_cons_zero, List.set_cons_succ]
      refine wpAnyH_take (i := 1) (v := ?_) rfl (by kernel_rfl) (by kernel_rfl) (by kernel_rfl) (fun _ _ _ h => h) (Or.inl ⟨by rfl, ?_⟩) (by assumption) ?_
      rotate_left
      · (intro w hSw; (try dsimp only at hSw); (try simp only [List.getElem_toArray, List.getElem_cons_succ, List.getElem_cons_zero]); first | (go_simp; done) | (go_simp; with_reducible rfl))
      try simp only [Act.put, List.getElem_toArray, List.getElem_cons_succ, List.getElem_cons_zero, List.setIfInBounds_toArray, List.set_cons_zero, List.set_cons_succ]
      refine wpAnyH_ready (rs := [2]) (by kernel_rfl) (by simp) ?_
      refine AllReadyH.cons rfl (fun K hK => ?_) AllReadyH.nil
      try simp only [List.getElem_toArray, List.getElem_cons_succ, List.getElem_cons_zero]
      go_simp

      refine hK.out _ _ ?_ (fun hHeld => ?_)
      · exact ⟨(World.cell?_alloc_lt _ _ _ (by show h1 < _; have := HS8.out.ord; omega)).trans y80, (World.cell?_alloc_lt _ _ _ (by show h1 < _; have := HS8.out.ord; omega)).trans y81⟩
      clear hK K
      try simp only [Act.put, List.getElem_toArray, List.getElem_cons_succ, List.getElem_cons_zero, List.setIfInBounds_toArray, List.set_cons_zero, List.set_cons_succ]
      refine wpAnyH_ready (rs := [3]) (by kernel_rfl) (by simp) ?_
      refine AllReadyH.cons rfl (fun K hK => ?_) AllReadyH.nil
      refine step_append_lies _ (by rfl) _ _ _ (by rfl) lo 3 i0 _ 1 8 Tryd.underlying27 hi0 hz0 hz1' hz2 rfl (by omega) _ n9 (numCells f n9) (by rfl) (World.ownsRow.alloc HS8.out.own _) ⟨w8.heap.size, 0, none⟩ 1 1 [.int .i64 0] (by rfl) (by rfl) (World.news_of_block (cs := #[.int .i64 0]) (t := 3) (fr := (0, 0)) (heap_alloc_new w8 _)) (by simp [Value.oneCell']) (by omega) (by unfold maxLen; omega) (by omega) (by have := HS8.out.ord; simp; omega) (w8.heap.size + 1) (World.size_alloc w8 _) ?_; intro gg cc w9 hown9 hgrow9 hat9 hlt9
      have hvl := HS8.out.own.lt
      have HBU : Hid (Below lo w8 w9) := by
        have h9 := (Below.refl lo w8).alloc (by have := HS8.out.ord; omega) (.cells #[.int .i64 0] 3)
        have o9 := HS8.out.ord
        exact ⟨hgrow9.os.trans h9.os, hgrow9.tape.trans h9.tape, hgrow9.output.trans h9.output, Nat.le_trans h9.size hgrow9.size, fun i hi => (hgrow9.block i (by simp; omega) (fun e => by have := (hvl i e.symm).1; omega)).trans (h9.block i hi)⟩
      have HS9 : Hid (RowSt w w9 g h1 lo A l1 cap (0 + 40 + 1) nn A' c' ws (.slice (some ⟨gg, 0, none⟩) (n9 + 1) cc) (n9 + 1) (fun j => if j = n9 then 0 else f j)) := by
        refine HS8.out.up HBU.out ?_
        rw [numCells_snoc]
        rw [show numCells (fun j => if j = n9 then (0 : Int) else f j) n9 = numCells f n9 from by rw [numCells_put, List.set_eq_of_length_le (Nat.le_of_eq (numCells_len _ _))]]
        rw [if_pos rfl]
        exact hown9
      obtain ⟨y90, y91⟩ := HS9.out.b0
      have z0 : w9.cell? ⟨w.heap.size, 0, none⟩ = some (.int .i64 0) := cell_of_row _ _ 0 _ _ (0, 0) HS9.out.res
      have z1 : w9.cell? ⟨w.heap.size, 1, none⟩ = some (.slice none 0 0) := cell_of_row _ _ 1 _ _ (0, 0) HS9.out.res
      have z2 : w9.frozen? ⟨w.heap.size, 0, none⟩ = false := by have := HS9.out.res; simp [World.frozen?, this]
      have z3 : w9.frozen? ⟨w.heap.size, 1, none⟩ = false := by have := HS9.out.res; simp [World.frozen?, this]
      have hne9 : h1 ≠ w.heap.size := by have := HS9.out.ord; omega
      have y9 := set_d (.int .i64 nn) (.slice A' ws.length c') ⟨y90, y91⟩ hne9
      clear hown9 hgrow9 hat9 hlt9 hvl
      refine hK.out _ _ ?_ (fun hHeld => ?_)
      · exact ⟨y90, y91⟩
      clear hK K
      try simp only [Act.put, List.getElem_toArray, List.getElem_cons_succ, List.getElem_cons_zero, List.setIfInBounds_toArray, List.set_cons_zero, List.set_cons_succ]
      refine wpAnyH_ready (rs := [4]) (by kernel_rfl) (by simp) ?_
      refine AllReadyH.cons rfl (fun K hK => ?_) AllReadyH.nil
      try simp only [List.getElem_toArray, List.getElem_cons_succ, List.getElem_cons_zero]
      go_simp

      refine hK.out _ _ ?_ (fun hHeld => ?_)
      · exact y9
      clear hK K
      try simp only [Act.put, List.getElem_toArray, List.getElem_cons_succ, List.getElem_cons_zero, List.setIfInBounds_toArray, List.set_cons_zero, List.set_cons_succ]
      refine wpAnyH_take (i := 5) (v := ?_) rfl (by kernel_rfl) (by kernel_rfl) (by kernel_rfl) (fun _ _ _ h => h) (Or.inl ⟨by rfl, ?_⟩) (by assumption) ?_
      rotate_left
      · (intro w hSw; (try dsimp only at hSw); (try simp only [List.getElem_toArray, List.getElem_cons_succ, List.getElem_cons_zero]); first | (go_simp; done) | (go_simp; with_reducible rfl))
      try simp only [Act.put, List.getElem_toArray, List.getElem_cons_succ, List.getElem_cons_zero, List.setIfInBounds_toArray, List.set_cons_zero, List.set_cons_succ]
      refine wpAnyH_done (by kernel_rfl) ?_ _
      have TT := Lib.hid (two_cells (v0 := .int .i64 nn) (v1 := .slice A' ws.length c') HS9.out.res)
      go_wp2_with fail
      obtain ⟨t0, t1⟩ := TT.out
      refine bodyPost_ret (v := .tuple #[.agg #[.int .i64 nn, .slice A' ws.length c'], .slice (some ⟨gg, 0, none⟩) (n9 + 1) cc]) (by simp [results, Tryd.results28, go_sem, t0, t1]) rfl ?_
      exact HS9.out.fin hl10 hcc hn0 hn7 (by omega)
  · have h3n : 2 < n9 := by omega
    have d0 : (2 : Int) < (n9 : Int) := by omega
    have d1 : decide ((2 : Int) < (n9 : Int)) = true := decide_eq_true d0
    have d2 : decide (2 < n9) = true := by simpa using h3n
    go_wp2_with fail
    refine (pickE g A l1 cap _ 2 _ HS2.out.rdr (by omega) (by omega)).mono ?_; rintro e3 w3 ⟨q3, rfl, hq30, hq31, hr3, hg3, -⟩
    have HS3 := Lib.hid (HS2.out.rd hr3 hg3)
    clear hr3 hg3 HS2 y20 y21
    by_cases hq3 : q3 = 0
    · subst hq3
      have hnm : IntKind.i64.wrap ((n9 : Int) - 1) = (n9 : Int) - 1 := IntWalk.i64_in _ ⟨by omega, by omega⟩
      have hnm2 : wrap64 ((n9 : Int) - 1) = (n9 : Int) - 1 := IntWalk.wrap64_in _ ⟨by omega, by omega⟩
      have HNM := Lib.hid hnm
      have HNM2 := Lib.hid hnm2
      go_wp2_with fail
      refine (pickE g A l1 cap _ ((n9 : Int) - 1) _ HS3.out.rdr (by omega) (by omega)).mono ?_; rintro e4 w4 ⟨q4, rfl, hq40, hq41, hr4, hg4, -⟩
      have HS4 := Lib.hid (HS3.out.rd hr4 hg4)
      have hq42 := hq41 (by omega)
      obtain ⟨a, ha⟩ : ∃ a : Nat, 1 + q4 = (a : Int) := ⟨(1 + q4).toNat, by omega⟩
      have ha1 : a < n9 := by omega
      have hwa : IntKind.i64.wrap (1 + q4) = (a : Int) := by rw [ha]; exact IntWalk.i64_in _ ⟨by omega, by omega⟩
      have hwa2 : wrap64 (1 + q4) = (a : Int) := by rw [ha]; exact IntWalk.wrap64_in _ ⟨by omega, by omega⟩
      clear hr4 hg4 hq41 ha
      go_wp2_with fail
      refine (pickE g A l1 cap _ ((n9 : Int) - 1) _ HS4.out.rdr (by omega) (by omega)).mono ?_; rintro e5 w5 ⟨q5, rfl, hq50, hq51, hr5, hg5, -⟩
      have HS5 := Lib.hid (HS4.out.rd hr5 hg5)
      have hq52 := hq51 (by omega)
      obtain ⟨b, hb⟩ : ∃ b : Nat, 1 + q5 = (b : Int) := ⟨(1 + q5).toNat, by omega⟩
      have hb1 : b < n9 := by omega
      have hwb : IntKind.i64.wrap (1 + q5) = (b : Int) := by rw [hb]; exact IntWalk.i64_in _ ⟨by omega, by omega⟩
      have hwb2 : wrap64 (1 + q5) = (b : Int) := by rw [hb]; exact IntWalk.wrap64_in _ ⟨by omega, by omega⟩
      clear hr5 hg5 hq51 hb hnm hnm2
      go_wp2_with fail
      refine (pickE g A l1 cap _ 4 _ HS5.out.rdr (by omega) (by omega)).mono ?_; rintro e6 w6 ⟨q6, rfl, hq60, hq61, hr6, hg6, -⟩
      have HS6 := Lib.hid (HS5.out.rd hr6 hg6)
      have hq62 := hq61 (by omega)
      clear hr6 hg6 hq61 hwa hwa2 hwb hwb2 HS3 HS4 HS5
      obtain ⟨ga, rfl, hga, r1, r2, hput⟩ := own_put HS6.out.own ha1
      obtain ⟨x, hx⟩ : ∃ x, f a = x := ⟨_, rfl⟩
      have hfa := HFB.out a
      rw [hx] at r1 hfa
      have wk : IntKind.i64.wrap (x + q6) = x + q6 := IntWalk.i64_in _ ⟨by omega, by omega⟩
      have wk2 : wrap64 (x + q6) = x + q6 := IntWalk.wrap64_in _ ⟨by clear wk; omega, by clear wk; omega⟩
      have HS7 : Hid (RowSt w (w6.setCell ⟨ga, a, none⟩ (.int .i64 (x + q6))) g h1 lo A l1 cap (0 + 40 + 1 + 1 + 1 + 1) nn A' c' ws (.slice (some ⟨ga, 0, none⟩) n9 cr) n9 (fun j => if j = a then x + q6 else f j)) := HS6.out.up ((Below.refl lo w6).setCell (p := ⟨ga, a, none⟩) hga _) (hput _)
      obtain ⟨f1, hf1⟩ : ∃ f1 : Nat → Int, (fun j => if j = a then x + q6 else f j) = f1 := ⟨_, rfl⟩
      have HF1 : Hid (∀ j, 0 ≤ f1 j ∧ f1 j ≤ 12) := fun j => by
        rw [← hf1]
        have := HFB.out j
        simp only
        split <;> omega
      rw [hf1] at HS7
      obtain ⟨ga', hga', hgb, s1, s2, hput2⟩ := own_put HS7.out.own hb1
      injection hga' with hga'; injection hga' with hga'; subst hga'
      obtain ⟨y, hy⟩ : ∃ y, f1 b = y := ⟨_, rfl⟩
      have hfb := HF1.out b
      rw [hy] at s1 hfb
      have wl : IntKind.i64.wrap (y - q6) = y - q6 := IntWalk.i64_in _ ⟨by clear wk wk2; omega, by clear wk wk2; omega⟩
      have wl2 : wrap64 (y - q6) = y - q6 := IntWalk.wrap64_in _ ⟨by clear wk wk2 wl; omega, by clear wk wk2 wl; omega⟩
      have HS9' : Hid (RowSt w ((w6.setCell ⟨ga, a, none⟩ (.int .i64 (x + q6))).setCell ⟨ga, b, none⟩ (.int .i64 (y - q6))) g h1 lo A l1 cap (0 + 40 + 1 + 1 + 1 + 1) nn A' c' ws (.slice (some ⟨ga, 0, none⟩) n9 cr) n9 (fun j => if j = b then y - q6 else f1 j)) := HS7.out.up ((Below.refl lo _).setCell (p := ⟨ga, b, none⟩) hgb _) (hput2 _)
      obtain ⟨f2, hf2⟩ : ∃ f2 : Nat → Int, (fun j => if j = b then y - q6 else f1 j) = f2 := ⟨_, rfl⟩
      rw [hf2] at HS9'
      clear hput hput2 hx hy hf1 hf2 hfa hfb HF1
      go_wp2_with fail
      clear wk wk2 wl wl2
      go_wp2_with fail
      refine (oddE g A l1 cap _ 12 _ HS9'.out.rdr (by omega) (by omega) (by omega)).mono ?_; rintro e8 w8 ⟨q8, rfl, hr8, hg8, -⟩
      have HS8 := Lib.hid (HS9'.out.rd hr8 hg8)
      obtain ⟨y80, y81⟩ := HS8.out.b0
      clear hr8 hg8
      cases q8
      · have z0 : w8.cell? ⟨w.heap.size, 0, none⟩ = some (.int .i64 0) := cell_of_row _ _ 0 _ _ (0, 0) HS8.out.res
        have z1 : w8.cell? ⟨w.heap.size, 1, none⟩ = some (.slice none 0 0) := cell_of_row _ _ 1 _ _ (0, 0) HS8.out.res
        have z2 : w8.frozen? ⟨w.heap.size, 0, none⟩ = false := by have := HS8.out.res; simp [World.frozen?, this]
        have z3 : w8.frozen? ⟨w.heap.size, 1, none⟩ = false := by have := HS8.out.res; simp [World.frozen?, this]
        have TT := Lib.hid (two_cells (v0 := .int .i64 nn) (v1 := .slice A' ws.length c') HS8.out.res)
        go_wp2_with fail
        obtain ⟨t0, t1⟩ := TT.out
        refine bodyPost_ret (v := .tuple #[.agg #[.int .i64 nn, .slice A' ws.length c'], .slice (some ⟨ga, 0, none⟩) n9 cr]) (by simp [results, Tryd.results28, go_sem, t0, t1]) rfl ?_
        exact HS8.out.fin hl10 hcc hn0 hn7 (by omega)
      · go_wp2_with fail
        refine wp_region_held_drew (S := (fun w' => w'.cell? ⟨h1, 0, none⟩ = some (.int .i64 nn) ∧ w'.cell? ⟨h1, 1, none⟩ = some (.slice A' ws.length c'))) (by kernel_rfl) ?_ (fun hHeld => ?_)
        · exact ⟨y80, y81⟩
        refine wpAnyH_take (i := 0) (v := ?_) rfl (by kernel_rfl) (by kernel_rfl) (by kernel_rfl) (fun _ _ _ h => h) (Or.inl ⟨by rfl, ?_⟩) (by assumption) ?_
        rotate_left
        · (intro w hSw; (try dsimp only at hSw); (try simp only [List.getElem_toArray, List.getElem_cons_succ, List.getElem_cons_zero]); first | (go_simp; done) | (go_simp; with_reducible rfl))
        try simp only [Act.put, List.getElem_toArray, List.getElem_cons_succ, List.getElem_cons_zero, List.setIfInBounds_toArray, List.set_cons_zero, List.set_cons_succ]
        refine wpAnyH_take (i := 1) (v := ?_) rfl (by kernel_rfl) (by kernel_rfl) (by kernel_rfl) (fun _ _ _ h => h) (Or.inl ⟨by rfl, ?_⟩) (by assumption) ?_
        rotate_left
        · (intro w hSw; (try dsimp only at hSw); (try simp only [List.getElem_toArray, List.getElem_cons_succ, List.getElem_cons_zero]); first | (go_simp; done) | (go_simp; with_reducible rfl))
        try simp only [Act.put, List.getElem_toArray, List.getElem_cons_succ, List.getElem_cons_zero, List.setIfInBounds_toArray, List.set_cons_zero, List.set_cons_succ]
        refine wpAnyH_ready (rs := [2]) (by kernel_rfl) (by simp) ?_
        refine AllReadyH.cons rfl (fun K hK => ?_) AllReadyH.nil
        try simp only [List.getElem_toArray, List.getElem_cons_succ, List.getElem_cons_zero]
        go_simp

        refine hK.out _ _ ?_ (fun hHeld => ?_)
        · exact ⟨(World.cell?_alloc_lt _ _ _ (by show h1 < _; have := HS8.out.ord; omega)).trans y80, (World.cell?_alloc_lt _ _ _ (by show h1 < _; have := HS8.out.ord; omega)).trans y81⟩
        clear hK K
        try simp only [Act.put, List.getElem_toArray, List.getElem_cons_succ, List.getElem_cons_zero, List.setIfInBounds_toArray, List.set_cons_zero, List.set_cons_succ]
        refine wpAnyH_ready (rs := [3]) (by kernel_rfl) (by simp) ?_
        refine AllReadyH.cons rfl (fun K hK => ?_) AllReadyH.nil
        refine step_append_lies _ (by rfl) _ _ _ (by rfl) lo 3 i0 _ 1 8 Tryd.underlying27 hi0 hz0 hz1' hz2 rfl (by omega) _ n9 (numCells f2 n9) (by rfl) (World.ownsRow.alloc HS8.out.own _) ⟨w8.heap.size, 0, none⟩ 1 1 [.int .i64 0] (by rfl) (by rfl) (World.news_of_block (cs := #[.int .i64 0]) (t := 3) (fr := (0, 0)) (heap_alloc_new w8 _)) (by simp [Value.oneCell']) (by omega) (by unfold maxLen; omega) (by omega) (by have := HS8.out.ord; simp; omega) (w8.heap.size + 1) (World.size_alloc w8 _) ?_; intro gg cc w9 hown9 hgrow9 hat9 hlt9
        have hvl := HS8.out.own.lt
        have HBU : Hid (Below lo w8 w9) := by
          have h9 := (Below.refl lo w8).alloc (by have := HS8.out.ord; omega) (.cells #[.int .i64 0] 3)
          have o9 := HS8.out.ord
          exact ⟨hgrow9.os.trans h9.os, hgrow9.tape.trans h9.tape, hgrow9.output.trans h9.output, Nat.le_trans h9.size hgrow9.size, fun i hi => (hgrow9.block i (by simp; omega) (fun e => by have := (hvl i e.symm).1; omega)).trans (h9.block i hi)⟩
        have HS9 : Hid (RowSt w w9 g h1 lo A l1 cap (0 + 40 + 1 + 1 + 1 + 1 + 1) nn A' c' ws (.slice (some ⟨gg, 0, none⟩) (n9 + 1) cc) (n9 + 1) (fun j => if j = n9 then 0 else f2 j)) := by
          refine HS8.out.up HBU.out ?_
          rw [numCells_snoc]
          rw [show numCells (fun j => if j = n9 then (0 : Int) else f2 j) n9 = numCells f2 n9 from by rw [numCells_put, List.set_eq_of_length_le (Nat.le_of_eq (numCells_len _ _))]]
          rw [if_pos rfl]
          exact hown9
        obtain ⟨y90, y91⟩ := HS9.out.b0
        have z0 : w9.cell? ⟨w.heap.size, 0, none⟩ = some (.int .i64 0) := cell_of_row _ _ 0 _ _ (0, 0) HS9.out.res
        have z1 : w9.cell? ⟨w.heap.size, 1, none⟩ = some (.slice none 0 0) := cell_of_row _ _ 1 _ _ (0, 0) HS9.out.res
        have z2 : w9.frozen? ⟨w.heap.size, 0, none⟩ = false := by have := HS9.out.res; simp [World.frozen?, this]
        have z3 : w9.frozen? ⟨w.heap.size, 1, none⟩ = false := by have := HS9.out.res; simp [World.frozen?, this]
        have hne9 : h1 ≠ w.heap.size := by have := HS9.out.ord; omega
        have y9 := set_d (.int .i64 nn) (.slice A' ws.length c') ⟨y90, y91⟩ hne9
        clear hown9 hgrow9 hat9 hlt9 hvl
        refine hK.out _ _ ?_ (fun hHeld => ?_)
        · exact ⟨y90, y91⟩
        clear hK K
        try simp only [Act.put, List.getElem_toArray, List.getElem_cons_succ, List.getElem_cons_zero, List.setIfInBounds_toArray, List.set_cons_zero, List.set_cons_succ]
        refine wpAnyH_ready (rs := [4]) (by kernel_rfl) (by simp) ?_
        refine AllReadyH.cons rfl (fun K hK => ?_) AllReadyH.nil
        try simp only [List.getElem_toArray, List.getElem_cons_succ, List.getElem_cons_zero]
        go_simp

        refine hK.out _ _ ?_ (fun hHeld => ?_)
        · exact y9
        clear hK K
        try simp only [Act.put, List.getElem_toArray, List.getElem_cons_succ, List.getElem_cons_zero, List.setIfInBounds_toArray, List.set_cons_zero, List.set_cons_succ]
        refine wpAnyH_take (i := 5) (v := ?_) rfl (by kernel_rfl) (by kernel_rfl) (by kernel_rfl) (fun _ _ _ h => h) (Or.inl ⟨by rfl, ?_⟩) (by assumption) ?_
        rotate_left
        · (intro w hSw; (try dsimp only at hSw); (try simp only [List.getElem_toArray, List.getElem_cons_succ, List.getElem_cons_zero]); first | (go_simp; done) | (go_simp; with_reducible rfl))
        try simp only [Act.put, List.getElem_toArray, List.getElem_cons_succ, List.getElem_cons_zero, List.setIfInBounds_toArray, List.set_cons_zero, List.set_cons_succ]
        refine wpAnyH_done (by kernel_rfl) ?_ _
        have TT := Lib.hid (two_cells (v0 := .int .i64 nn) (v1 := .slice A' ws.length c') HS9.out.res)
        go_wp2_with fail
        obtain ⟨t0, t1⟩ := TT.out
        refine bodyPost_ret (v := .tuple #[.agg #[.int .i64 nn, .slice A' ws.length c'], .slice (some ⟨gg, 0, none⟩) (n9 + 1) cc]) (by simp [results, Tryd.results28, go_sem, t0, t1]) rfl ?_
        exact HS9.out.fin hl10 hcc hn0 hn7 (by omega)
    · have d3 : (q3 == 0) = false := by simpa using hq3
      go_wp2_with fail
      refine (oddE g A l1 cap _ 12 _ HS3.out.rdr (by omega) (by omega) (by omega)).mono ?_; rintro e8 w8 ⟨q8, rfl, hr8, hg8, -⟩
      have HS8 := Lib.hid (HS3.out.rd hr8 hg8)
      obtain ⟨y80, y81⟩ := HS8.out.b0
      clear hr8 hg8
      cases q8
      · have z0 : w8.cell? ⟨w.heap.size, 0, none⟩ = some (.int .i64 0) := cell_of_row _ _ 0 _ _ (0, 0) HS8.out.res
        have z1 : w8.cell? ⟨w.heap.size, 1, none⟩ = some (.slice none 0 0) := cell_of_row _ _ 1 _ _ (0, 0) HS8.out.res
        have z2 : w8.frozen? ⟨w.heap.size, 0, none⟩ = false := by have := HS8.out.res; simp [World.frozen?, this]
        have z3 : w8.frozen? ⟨w.heap.size, 1, none⟩ = false := by have := HS8.out.res; simp [World.frozen?, this]
        have TT := Lib.hid (two_cells (v0 := .int .i64 nn) (v1 := .slice A' ws.length c') HS8.out.res)
        go_wp2_with fail
        obtain ⟨t0, t1⟩ := TT.out
        refine bodyPost_ret (v := .tuple #[.agg #[.int .i64 nn, .slice A' ws.length c'], .slice Ar n9 cr]) (by simp [results, Tryd.results28, go_sem, t0, t1]) rfl ?_
        exact HS8.out.fin hl10 hcc hn0 hn7 (by omega)
      · go_wp2_with fail
        refine wp_region_held_drew (S := (fun w' => w'.cell? ⟨h1, 0, none⟩ = some (.int .i64 nn) ∧ w'.cell? ⟨h1, 1, none⟩ = some (.slice A' ws.length c'))) (by kernel_rfl) ?_ (fun hHeld => ?_)
        · exact ⟨y80, y81⟩
        refine wpAnyH_take (i := 0) (v := ?_) rfl (by kernel_rfl) (by kernel_rfl) (by kernel_rfl) (fun _ _ _ h => h) (Or.inl ⟨by rfl, ?_⟩) (by assumption) ?_
        rotate_left
        · (intro w hSw; (try dsimp only at hSw); (try simp only [List.getElem_toArray, List.getElem_cons_succ, List.getElem_cons_zero]); first | (go_simp; done) | (go_simp; with_reducible rfl))
        try simp only [Act.put, List.getElem_toArray, List.getElem_cons_succ, List.getElem_cons_zero, List.setIfInBounds_toArray, List.set_cons_zero, List.set_cons_succ]
        refine wpAnyH_take (i := 1) (v := ?_) rfl (by kernel_rfl) (by kernel_rfl) (by kernel_rfl) (fun _ _ _ h => h) (Or.inl ⟨by rfl, ?_⟩) (by assumption) ?_
        rotate_left
        · (intro w hSw; (try dsimp only at hSw); (try simp only [List.getElem_toArray, List.getElem_cons_succ, List.getElem_cons_zero]); first | (go_simp; done) | (go_simp; with_reducible rfl))
        try simp only [Act.put, List.getElem_toArray, List.getElem_cons_succ, List.getElem_cons_zero, List.setIfInBounds_toArray, List.set_cons_zero, List.set_cons_succ]
        refine wpAnyH_ready (rs := [2]) (by kernel_rfl) (by simp) ?_
        refine AllReadyH.cons rfl (fun K hK => ?_) AllReadyH.nil
        try simp only [List.getElem_toArray, List.getElem_cons_succ, List.getElem_cons_zero]
        go_simp

        refine hK.out _ _ ?_ (fun hHeld => ?_)
        · exact ⟨(World.cell?_alloc_lt _ _ _ (by show h1 < _; have := HS8.out.ord; omega)).trans y80, (World.cell?_alloc_lt _ _ _ (by show h1 < _; have := HS8.out.ord; omega)).trans y81⟩
        clear hK K
        try simp only [Act.put, List.getElem_toArray, List.getElem_cons_succ, List.getElem_cons_zero, List.setIfInBounds_toArray, List.set_cons_zero, List.set_cons_succ]
        refine wpAnyH_ready (rs := [3]) (by kernel_rfl) (by simp) ?_
        refine AllReadyH.cons rfl (fun K hK => ?_) AllReadyH.nil
        refine step_append_lies _ (by rfl) _ _ _ (by rfl) lo 3 i0 _ 1 8 Tryd.underlying27 hi0 hz0 hz1' hz2 rfl (by omega) _ n9 (numCells f n9) (by rfl) (World.ownsRow.alloc HS8.out.own _) ⟨w8.heap.size, 0, none⟩ 1 1 [.int .i64 0] (by rfl) (by rfl) (World.news_of_block (cs := #[.int .i64 0]) (t := 3) (fr := (0, 0)) (heap_alloc_new w8 _)) (by simp [Value.oneCell']) (by omega) (by unfold maxLen; omega) (by omega) (by have := HS8.out.ord; simp; omega) (w8.heap.size + 1) (World.size_alloc w8 _) ?_; intro gg cc w9 hown9 hgrow9 hat9 hlt9
        have hvl := HS8.out.own.lt
        have HBU : Hid (Below lo w8 w9) := by
          have h9 := (Below.refl lo w8).alloc (by have := HS8.out.ord; omega) (.cells #[.int .i64 0] 3)
          have o9 := HS8.out.ord
          exact ⟨hgrow9.os.trans h9.os, hgrow9.tape.trans h9.tape, hgrow9.output.trans h9.output, Nat.le_trans h9.size hgrow9.size, fun i hi => (hgrow9.block i (by simp; omega) (fun e => by have := (hvl i e.symm).1; omega)).trans (h9.block i hi)⟩
        have HS9 : Hid (RowSt w w9 g h1 lo A l1 cap (0 + 40 + 1 + 1) nn A' c' ws (.slice (some ⟨gg, 0, none⟩) (n9 + 1) cc) (n9 + 1) (fun j => if j = n9 then 0 else f j)) := by
          refine HS8.out.up HBU.out ?_
          rw [numCells_snoc]
          rw [show numCells (fun j => if j = n9 then (0 : Int) else f j) n9 = numCells f n9 from by rw [numCells_put, List.set_eq_of_length_le (Nat.le_of_eq (numCells_len _ _))]]
          rw [if_pos rfl]
          exact hown9
        obtain ⟨y90, y91⟩ := HS9.out.b0
        have z0 : w9.cell? ⟨w.heap.size, 0, none⟩ = some (.int .i64 0) := cell_of_row _ _ 0 _ _ (0, 0) HS9.out.res
        have z1 : w9.cell? ⟨w.heap.size, 1, none⟩ = some (.slice none 0 0) := cell_of_row _ _ 1 _ _ (0, 0) HS9.out.res
        have z2 : w9.frozen? ⟨w.heap.size, 0, none⟩ = false := by have := HS9.out.res; simp [World.frozen?, this]
        have z3 : w9.frozen? ⟨w.heap.size, 1, none⟩ = false := by have := HS9.out.res; simp [World.frozen?, this]
        have hne9 : h1 ≠ w.heap.size := by have := HS9.out.ord; omega
        have y9 := set_d (.int .i64 nn) (.slice A' ws.length c') ⟨y90, y91⟩ hne9
        clear hown9 hgrow9 hat9 hlt9 hvl
        refine hK.out _ _ ?_ (fun hHeld => ?_)
        · exact ⟨y90, y91⟩
        clear hK K
        try simp only [Act.put, List.getElem_toArray, List.getElem_cons_succ, List.getElem_cons_zero, List.setIfInBounds_toArray, List.set_cons_zero, List.set_cons_succ]
        refine wpAnyH_ready (rs := [4]) (by kernel_rfl) (by simp) ?_
        refine AllReadyH.cons rfl (fun K hK => ?_) AllReadyH.nil
        try simp only [List.getElem_toArray, List.getElem_cons_succ, List.getElem_cons_zero]
        go_simp

        refine hK.out _ _ ?_ (fun hHeld => ?_)
        · exact y9
        clear hK K
        try simp only [Act.put, List.getElem_toArray, List.getElem_cons_succ, List.getElem_cons_zero, List.setIfInBounds_toArray, List.set_cons_zero, List.set_cons_succ]
        refine wpAnyH_take (i := 5) (v := ?_) rfl (by kernel_rfl) (by kernel_rfl) (by kernel_rfl) (fun _ _ _ h => h) (Or.inl ⟨by rfl, ?_⟩) (by assumption) ?_
        rotate_left
        · (intro w hSw; (try dsimp only at hSw); (try simp only [List.getElem_toArray, List.getElem_cons_succ, List.getElem_cons_zero]); first | (go_simp; done) | (go_simp; with_reducible rfl))
        try simp only [Act.put, List.getElem_toArray, List.getElem_cons_succ, List.getElem_cons_zero, List.setIfInBounds_toArray, List.set_cons_zero, List.set_cons_succ]
        refine wpAnyH_done (by kernel_rfl) ?_ _
        have TT := Lib.hid (two_cells (v0 := .int .i64 nn) (v1 := .slice A' ws.length c') HS9.out.res)
        go_wp2_with fail
        obtain ⟨t0, t1⟩ := TT.out
        refine bodyPost_ret (v := .tuple #[.agg #[.int .i64 nn, .slice A' ws.length c'], .slice (some ⟨gg, 0, none⟩) (n9 + 1) cc]) (by simp [results, Tryd.results28, go_sem, t0, t1]) rfl ?_
        exact HS9.out.fin hl10 hcc hn0 hn7 (by omega)
end Go.Proofs.YtfpaalmbllhmaaaDoor
