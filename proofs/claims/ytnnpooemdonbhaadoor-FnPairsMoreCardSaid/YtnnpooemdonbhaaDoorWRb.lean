/- The draws of chapter 9. -/
import Derived.Test.YtnnpooemdonbhaaDoorWRa
import Derived.Test.YtnnpooemdonbhaaDoorWP
import Derived.Test.YtnnpooemdonbhaaDoorWM
set_option linter.unusedSimpArgs false
set_option linter.unusedVariables false
attribute [local go_sem ↓] Go.wp_at_zero Go.wp_at_succ
namespace Go.Proofs.YtnnpooemdonbhaaDoor
open Go.ChangeShapes Go.WideShapes Go.ChangeAt Go.RowKit

/-- some net, some pairs -/
def DrawnPq (w : World) (e : Ending) (w' : World) : Prop :=
  ∃ (nn : Int) (A' : Option Addr) (c' : Nat) (ws : List Wy) (bc cc : Nat) (pz : List (Int × Int)), e = .returned (.tuple #[.agg #[.int .i64 nn, .slice A' ws.length c'], .slice (some ⟨bc, 0, none⟩) pz.length cc]) ∧ RW w' w'.heap.size A' ws ∧ ws.length ≤ 10 ∧ ws.length ≤ c' ∧ 0 ≤ nn ∧ nn ≤ 7 ∧ RC w' w'.heap.size (some ⟨bc, 0, none⟩) pz ∧ pz.length ≤ 8 ∧ pz.length ≤ cc ∧ Below w.heap.size w w'
/-- some net, some pairs, some number -/
def DrawnPqN (w : World) (e : Ending) (w' : World) : Prop :=
  ∃ (nn s : Int) (A' : Option Addr) (c' : Nat) (ws : List Wy) (bc cc : Nat) (pz : List (Int × Int)), e = .returned (.tuple #[.agg #[.int .i64 nn, .slice A' ws.length c'], .slice (some ⟨bc, 0, none⟩) pz.length cc, .int .i64 s]) ∧ RW w' w'.heap.size A' ws ∧ ws.length ≤ 10 ∧ ws.length ≤ c' ∧ 0 ≤ nn ∧ nn ≤ 7 ∧ 0 ≤ s ∧ s ≤ 4000 ∧ RC w' w'.heap.size (some ⟨bc, 0, none⟩) pz ∧ pz.length ≤ 8 ∧ pz.length ≤ cc ∧ Below w.heap.size w w'
theorem pq_stays {W : World} {h : Nat} {A' : Option Addr} {ws : List Wy} {bc : Nat} {pz : List (Int × Int)} {B : Nat} (hrw : RW W B A' ws) (hri : RC W B (some ⟨bc, 0, none⟩) pz) (hA : ∀ ad, A' = some ad → h < ad.block) (hb : h < bc) (hB : B ≤ W.heap.size) (x y : Value) :
    RW ((W.setCell ⟨h, 0, none⟩ x).setCell ⟨h, 1, none⟩ y) ((W.setCell ⟨h, 0, none⟩ x).setCell ⟨h, 1, none⟩ y).heap.size A' ws ∧ RC ((W.setCell ⟨h, 0, none⟩ x).setCell ⟨h, 1, none⟩ y) ((W.setCell ⟨h, 0, none⟩ x).setCell ⟨h, 1, none⟩ y).heap.size (some ⟨bc, 0, none⟩) pz := by
  have hk : ∀ b, b ≠ h → ((W.setCell ⟨h, 0, none⟩ x).setCell ⟨h, 1, none⟩ y).heap[b]? = W.heap[b]? := fun b hb => (Below.heap_setCell _ _ _ _ hb).trans (Below.heap_setCell _ _ _ _ hb)
  constructor
  · intro i z hz
    obtain ⟨b, o, ha, hB', g0, g1, g2⟩ := hrw i z hz
    have hbb := hA _ ha
    simp at hbb
    have hq := hk b (by omega)
    exact ⟨b, o, ha, by simp [World.setCell]; omega, (World.cell?_of_block (w := W) hq).trans g0, (World.cell?_of_block (w := W) hq).trans g1, (World.cell?_of_block (w := W) hq).trans g2⟩
  · intro i z hz
    obtain ⟨b, o, ha, hB', g0, g1⟩ := hri i z hz
    injection ha with ha; injection ha with h1 h2; subst h1; subst h2
    have hq := hk bc (by omega)
    exact ⟨bc, 0, rfl, by simp [World.setCell]; omega, (World.cell?_of_block (w := W) hq).trans g0, (World.cell?_of_block (w := W) hq).trans g1⟩
set_option maxHeartbeats 2000000 in
theorem DrawPairsOf_any (A : Option Addr) (len cap : Nat) (w : World) (hr : RB w w.heap.size A len) (hc : len ≤ cap) (hl : len ≤ 1048576) :
    Calls Tryd.prog 18 #[.slice A len cap] w (DrawnPq w) := by
  have HR := Lib.hid hr
  clear hr
  go_enter Tryd.func18, Tryd.ntmps18
  go_wp2_with fail
  refine (openE A len cap _ (fun i hi => ?_) hc hl).mono ?_
  · obtain ⟨b, o, v, ha, hB, h0, h1, h2⟩ := HR.out i hi
    exact ⟨b, o, v, ha, by simp; omega, h0, h1, (World.cell?_alloc_lt w _ _ hB).trans h2⟩
  rintro e wo ⟨l1, rfl, hr1, hb1⟩
  simp only [World.size_alloc] at hr1
  have hzo : w.heap.size + 1 < wo.heap.size := by have := hr1.lt; omega
  have HB1 := Lib.hid (bstep (B := w.heap.size) (W := w) (by go_grown) (by go_size) hb1)
  have HBL := Lib.hid (hb1.block w.heap.size (by simp))
  obtain ⟨g, hg⟩ : ∃ g, w.heap.size + 1 = g := ⟨_, rfl⟩
  rw [hg] at hr1
  have hgw : w.heap.size < g := by omega
  have hgo : g < wo.heap.size := by omega
  clear hb1
  go_wp2_with fail
  refine (l20Pairs_any g A l1 cap 0 9 _ hr1 (by omega) (by omega) (by omega)).mono ?_
  rintro e w1 ⟨nn, A', c', ws, bc, cc, pz, rfl, hrw, hA', hri, hbc, hl10, hcc, hpz8, hpzc, hn0, hn7, hr2, hg2⟩
  have hs1 : wo.heap.size ≤ w1.heap.size := hg2.size
  have hres : w1.heap[w.heap.size]? = some (.cells #[.int .i64 0, .slice none 0 0] 25 (0, 0)) := by
    rw [hg2.block _ (by omega) (by intro e; injection e; omega), HBL.out]
    exact heap_alloc_new w _
  have HBD := Lib.hid (below_of_only HB1.out hg2 (by omega))
  have HRES := Lib.hid hres
  have HRW := Lib.hid hrw
  have HRI := Lib.hid hri
  have HAN : Hid (∀ ad, A' = some ad → w.heap.size < ad.block) := fun ad h => by have := hA' ad h; omega
  clear hres hrw hri hA' hr1 hg hg2
  clear hr2
  have z0 : w1.cell? ⟨w.heap.size, 0, none⟩ = some (.int .i64 0) := cell_of_row _ _ 0 _ _ (0, 0) HRES.out
  have z1 : w1.cell? ⟨w.heap.size, 1, none⟩ = some (.slice none 0 0) := cell_of_row _ _ 1 _ _ (0, 0) HRES.out
  have z2 : w1.frozen? ⟨w.heap.size, 0, none⟩ = false := by have := HRES.out; simp [World.frozen?, this]
  have z3 : w1.frozen? ⟨w.heap.size, 1, none⟩ = false := by have := HRES.out; simp [World.frozen?, this]
  have TT := Lib.hid (two_cells (v0 := .int .i64 nn) (v1 := .slice A' ws.length c') HRES.out)
  go_wp2_with fail
  obtain ⟨t0, t1⟩ := TT.out
  obtain ⟨s1, s2⟩ := pq_stays HRW.out HRI.out HAN.out (by omega) (Nat.le_refl _) (.int .i64 nn) (.slice A' ws.length c')
  refine bodyPost_ret (v := .tuple #[.agg #[.int .i64 nn, .slice A' ws.length c'], .slice (some ⟨bc, 0, none⟩) pz.length cc]) (by simp [results, Tryd.results18, go_sem, t0, t1]) rfl ?_
  exact ⟨nn, A', c', ws, bc, cc, pz, rfl, s1, hl10, hcc, hn0, hn7, s2, hpz8, hpzc, (HBD.out.setCell (p := ⟨w.heap.size, 0, none⟩) (Nat.le_refl _) _).setCell (p := ⟨w.heap.size, 1, none⟩) (Nat.le_refl _) _⟩
set_option maxHeartbeats 2000000 in
theorem DrawPairsCost_any (A : Option Addr) (len cap : Nat) (w : World) (hr : RB w w.heap.size A len) (hc : len ≤ cap) (hl : len ≤ 1048576) :
    Calls Tryd.prog 23 #[.slice A len cap] w (DrawnPq w) := by
  have HR := Lib.hid hr
  clear hr
  go_enter Tryd.func23, Tryd.ntmps23
  go_wp2_with fail
  refine (openE A len cap _ (fun i hi => ?_) hc hl).mono ?_
  · obtain ⟨b, o, v, ha, hB, h0, h1, h2⟩ := HR.out i hi
    exact ⟨b, o, v, ha, by simp; omega, h0, h1, (World.cell?_alloc_lt w _ _ hB).trans h2⟩
  rintro e wo ⟨l1, rfl, hr1, hb1⟩
  simp only [World.size_alloc] at hr1
  have hzo : w.heap.size + 1 < wo.heap.size := by have := hr1.lt; omega
  have HB1 := Lib.hid (bstep (B := w.heap.size) (W := w) (by go_grown) (by go_size) hb1)
  have HBL := Lib.hid (hb1.block w.heap.size (by simp))
  obtain ⟨g, hg⟩ : ∃ g, w.heap.size + 1 = g := ⟨_, rfl⟩
  rw [hg] at hr1
  have hgw : w.heap.size < g := by omega
  have hgo : g < wo.heap.size := by omega
  clear hb1
  go_wp2_with fail
  refine (l20Pairs_any g A l1 cap 0 9 _ hr1 (by omega) (by omega) (by omega)).mono ?_
  rintro e w1 ⟨nn, A', c', ws, bc, cc, pz, rfl, hrw, hA', hri, hbc, hl10, hcc, hpz8, hpzc, hn0, hn7, hr2, hg2⟩
  have hs1 : wo.heap.size ≤ w1.heap.size := hg2.size
  have hres : w1.heap[w.heap.size]? = some (.cells #[.int .i64 0, .slice none 0 0] 25 (0, 0)) := by
    rw [hg2.block _ (by omega) (by intro e; injection e; omega), HBL.out]
    exact heap_alloc_new w _
  have HBD := Lib.hid (below_of_only HB1.out hg2 (by omega))
  have HRES := Lib.hid hres
  have HRW := Lib.hid hrw
  have HRI := Lib.hid hri
  have HAN : Hid (∀ ad, A' = some ad → w.heap.size < ad.block) := fun ad h => by have := hA' ad h; omega
  clear hres hrw hri hA' hr1 hg hg2
  clear hr2
  have z0 : w1.cell? ⟨w.heap.size, 0, none⟩ = some (.int .i64 0) := cell_of_row _ _ 0 _ _ (0, 0) HRES.out
  have z1 : w1.cell? ⟨w.heap.size, 1, none⟩ = some (.slice none 0 0) := cell_of_row _ _ 1 _ _ (0, 0) HRES.out
  have z2 : w1.frozen? ⟨w.heap.size, 0, none⟩ = false := by have := HRES.out; simp [World.frozen?, this]
  have z3 : w1.frozen? ⟨w.heap.size, 1, none⟩ = false := by have := HRES.out; simp [World.frozen?, this]
  have TT := Lib.hid (two_cells (v0 := .int .i64 nn) (v1 := .slice A' ws.length c') HRES.out)
  go_wp2_with fail
  obtain ⟨t0, t1⟩ := TT.out
  obtain ⟨s1, s2⟩ := pq_stays HRW.out HRI.out HAN.out (by omega) (Nat.le_refl _) (.int .i64 nn) (.slice A' ws.length c')
  refine bodyPost_ret (v := .tuple #[.agg #[.int .i64 nn, .slice A' ws.length c'], .slice (some ⟨bc, 0, none⟩) pz.length cc]) (by simp [results, Tryd.results23, go_sem, t0, t1]) rfl ?_
  exact ⟨nn, A', c', ws, bc, cc, pz, rfl, s1, hl10, hcc, hn0, hn7, s2, hpz8, hpzc, (HBD.out.setCell (p := ⟨w.heap.size, 0, none⟩) (Nat.le_refl _) _).setCell (p := ⟨w.heap.size, 1, none⟩) (Nat.le_refl _) _⟩
set_option maxHeartbeats 2000000 in
theorem DrawJoinsPairs_any (A : Option Addr) (len cap : Nat) (w : World) (hr : RB w w.heap.size A len) (hc : len ≤ cap) (hl : len ≤ 1048576) :
    Calls Tryd.prog 12 #[.slice A len cap] w (DrawnPqN w) := by
  have HR := Lib.hid hr
  clear hr
  go_enter Tryd.func12, Tryd.ntmps12
  go_wp2_with fail
  refine (openE A len cap _ (fun i hi => ?_) hc hl).mono ?_
  · obtain ⟨b, o, v, ha, hB, h0, h1, h2⟩ := HR.out i hi
    exact ⟨b, o, v, ha, by simp; omega, h0, h1, (World.cell?_alloc_lt w _ _ hB).trans h2⟩
  rintro e wo ⟨l1, rfl, hr1, hb1⟩
  simp only [World.size_alloc] at hr1
  have hzo : w.heap.size + 1 < wo.heap.size := by have := hr1.lt; omega
  have HB1 := Lib.hid (bstep (B := w.heap.size) (W := w) (by go_grown) (by go_size) hb1)
  have HBL := Lib.hid (hb1.block w.heap.size (by simp))
  obtain ⟨g, hg⟩ : ∃ g, w.heap.size + 1 = g := ⟨_, rfl⟩
  rw [hg] at hr1
  have hgw : w.heap.size < g := by omega
  have hgo : g < wo.heap.size := by omega
  clear hb1
  go_wp2_with fail
  refine (l20Pairs_any g A l1 cap 0 9 _ hr1 (by omega) (by omega) (by omega)).mono ?_
  rintro e w1 ⟨nn, A', c', ws, bc, cc, pz, rfl, hrw, hA', hri, hbc, hl10, hcc, hpz8, hpzc, hn0, hn7, hr2, hg2⟩
  have hs1 : wo.heap.size ≤ w1.heap.size := hg2.size
  have hres : w1.heap[w.heap.size]? = some (.cells #[.int .i64 0, .slice none 0 0] 25 (0, 0)) := by
    rw [hg2.block _ (by omega) (by intro e; injection e; omega), HBL.out]
    exact heap_alloc_new w _
  have HBD := Lib.hid (below_of_only HB1.out hg2 (by omega))
  have HRES := Lib.hid hres
  have HRW := Lib.hid hrw
  have HRI := Lib.hid hri
  have HAN : Hid (∀ ad, A' = some ad → w.heap.size < ad.block) := fun ad h => by have := hA' ad h; omega
  have HAG : Hid (∀ ad, A' = some ad → g < ad.block) := fun ad h => by have := hA' ad h; omega
  clear hres hrw hri hA' hr1 hg hg2
  have HR1 := Lib.hid hr2
  have hgl : g < w1.heap.size := by omega
  have hsz1 : w.heap.size < w1.heap.size := by omega
  have hz1 : w1.heap.size ≠ w.heap.size := by omega
  clear hr2
  have hmx : min (ws.length : Int) 9 ≤ 9 := by omega
  obtain ⟨L, hL⟩ : ∃ L : Nat, min (ws.length : Int) 9 = (L : Int) := ⟨min ws.length 9, by omega⟩
  have hp2 := pow_bd (L : Int) 9 (by omega)
  rw [Int.toNat_natCast] at hp2
  have hpp : 1 ≤ (2 : Int) ^ L := hp2.1
  have hpb : (2 : Int) ^ L ≤ 1048576 := by omega
  have hL60 : (L : Int) ≤ 60 := by omega
  have hL0 : (0 : Int) ≤ (L : Int) := by omega
  have hw1 : IntKind.i64.wrap (2 ^ L) = 2 ^ L := IntWalk.i64_in _ ⟨by omega, by omega⟩
  have hw2 : wrap64 (2 ^ L) = 2 ^ L := IntWalk.wrap64_in _ ⟨by omega, by omega⟩
  have x1 : (if (9 : Int) < ws.length then (9 : Int) else ws.length) = (L : Int) := by rw [← hL]; split <;> omega
  have x2 : (if (ws.length : Int) < 9 then (ws.length : Int) else 9) = (L : Int) := by rw [← hL]; split <;> omega
  have x3 : (if (9 : Int) ≤ ws.length then (9 : Int) else ws.length) = (L : Int) := by rw [← hL]; split <;> omega
  have x4 : (if (ws.length : Int) ≤ 9 then (ws.length : Int) else 9) = (L : Int) := by rw [← hL]; split <;> omega
  go_wp2_with fail
  refine wp_region_held_drew (S := (fun w' => w'.cell? ⟨w1.heap.size, 0, none⟩ = some (.int .i64 nn) ∧ w'.cell? ⟨w1.heap.size, 1, none⟩ = some (.slice A' ws.length c'))) (by kernel_rfl) ?_ (fun hHeld => ?_)
  · exact ⟨cell_of_row _ _ 0 _ _ (0, 0) (heap_alloc_new w1 _), cell_of_row _ _ 1 _ _ (0, 0) (heap_alloc_new w1 _)⟩
  refine wpAnyH_take (i := 0) (v := ?_) rfl (by kernel_rfl) (by kernel_rfl) (by kernel_rfl) (fun _ _ _ h => h) (Or.inl ⟨by rfl, ?_⟩) (by assumption) ?_
  rotate_left
  · (intro w hSw; (try dsimp only at hSw); (try simp only [List.getElem_toArray, List.getElem_cons_succ, List.getElem_cons_zero]); first | (go_simp; done) | (go_simp; with_reducible rfl))
  try simp only [Act.put, List.getElem_toArray, List.getElem_cons_succ, List.getElem_cons_zero, List.setIfInBounds_toArray, List.set_cons_zero, List.set_cons_succ]
  refine wpAnyH_take (i := 1) (v := ?_) rfl (by kernel_rfl) (by kernel_rfl) (by kernel_rfl) (fun _ _ _ h => h) (Or.inl ⟨by rfl, ?_⟩) (by assumption) ?_
  rotate_left
  · (intro w hSw; (try dsimp only at hSw); (try simp only [List.getElem_toArray, List.getElem_cons_succ, List.getElem_cons_zero]); first | (go_simp; done) | (go_simp; with_reducible rfl))
  try simp only [Act.put, List.getElem_toArray, List.getElem_cons_succ, List.getElem_cons_zero, List.setIfInBounds_toArray, List.set_cons_zero, List.set_cons_succ]
  refine wpAnyH_take (i := 2) (v := ?_) rfl (by kernel_rfl) (by kernel_rfl) (by kernel_rfl) (fun _ _ _ h => h) (Or.inl ⟨by rfl, ?_⟩) (by assumption) ?_
  rotate_left
  · (intro w hSw; (try dsimp only at hSw); (try simp only [List.getElem_toArray, List.getElem_cons_succ, List.getElem_cons_zero]); first | (go_simp; done) | (go_simp; with_reducible rfl))
  try simp only [Act.put, List.getElem_toArray, List.getElem_cons_succ, List.getElem_cons_zero, List.setIfInBounds_toArray, List.set_cons_zero, List.set_cons_succ]
  refine wpAnyH_take (i := 3) (v := ?_) rfl (by kernel_rfl) (by kernel_rfl) (by kernel_rfl) (fun _ _ _ h => h) (Or.inl ⟨by rfl, ?_⟩) (by assumption) ?_
  rotate_left
  · (intro w hSw; (try dsimp only at hSw); (try simp only [List.getElem_toArray, List.getElem_cons_succ, List.getElem_cons_zero]); first | (go_simp; done) | (go_simp; with_reducible rfl))
  try simp only [Act.put, List.getElem_toArray, List.getElem_cons_succ, List.getElem_cons_zero, List.setIfInBounds_toArray, List.set_cons_zero, List.set_cons_succ]
  refine wpAnyH_take (i := 4) (v := ?_) rfl (by kernel_rfl) (by kernel_rfl) (by kernel_rfl) (fun _ _ _ h => h) (Or.inl ⟨by rfl, ?_⟩) (by assumption) ?_
  rotate_left
  · (intro w hSw; (try dsimp only at hSw); (try simp only [List.getElem_toArray, List.getElem_cons_succ, List.getElem_cons_zero]); first | (go_simp; done) | (go_simp; with_reducible rfl))
  try simp only [Act.put, List.getElem_toArray, List.getElem_cons_succ, List.getElem_cons_zero, List.setIfInBounds_toArray, List.set_cons_zero, List.set_cons_succ]
  refine wpAnyH_take (i := 5) (v := ?_) rfl (by kernel_rfl) (by kernel_rfl) (by kernel_rfl) (fun _ _ _ h => h) (Or.inl ⟨by rfl, ?_⟩) (by assumption) ?_
  rotate_left
  · (intro w hSw; (try dsimp only at hSw); (try simp only [List.getElem_toArray, List.getElem_cons_succ, List.getElem_cons_zero]); first | (go_simp; done) | (go_simp; with_reducible rfl))
  try simp only [Act.put, List.getElem_toArray, List.getElem_cons_succ, List.getElem_cons_zero, List.setIfInBounds_toArray, List.set_cons_zero, List.set_cons_succ]
  refine wpAnyH_take (i := 6) (v := ?_) rfl (by kernel_rfl) (by kernel_rfl) (by kernel_rfl) (fun _ _ _ h => h) (Or.inl ⟨by rfl, ?_⟩) (by assumption) ?_
  rotate_left
  · (intro w hSw; (try dsimp only at hSw); (try simp only [List.getElem_toArray, List.getElem_cons_succ, List.getElem_cons_zero]); first | (go_simp; done) | (go_simp; with_reducible rfl))
  try simp only [Act.put, List.getElem_toArray, List.getElem_cons_succ, List.getElem_cons_zero, List.setIfInBounds_toArray, List.set_cons_zero, List.set_cons_succ]
  refine wpAnyH_take (i := 7) (v := ?_) rfl (by kernel_rfl) (by kernel_rfl) (by kernel_rfl) (fun _ _ _ h => h) (Or.inl ⟨by rfl, ?_⟩) (by assumption) ?_
  rotate_left
  · (intro w hSw; (try dsimp only at hSw); (try simp only [List.getElem_toArray, List.getElem_cons_succ, List.getElem_cons_zero]); first | (go_simp; done) | (go_simp; with_reducible rfl))
  try simp only [Act.put, List.getElem_toArray, List.getElem_cons_succ, List.getElem_cons_zero, List.setIfInBounds_toArray, List.set_cons_zero, List.set_cons_succ]
  refine wpAnyH_take (i := 9) (v := ?_) rfl (by kernel_rfl) (by kernel_rfl) (by kernel_rfl) (fun _ _ _ h => h) (Or.inl ⟨by rfl, ?_⟩) (by assumption) ?_
  rotate_left
  · (intro w hSw; (try dsimp only at hSw); (try simp only [List.getElem_toArray, List.getElem_cons_succ, List.getElem_cons_zero]); first | (go_simp; done) | (go_simp; with_reducible rfl))
  try simp only [Act.put, List.getElem_toArray, List.getElem_cons_succ, List.getElem_cons_zero, List.setIfInBounds_toArray, List.set_cons_zero, List.set_cons_succ]
  refine wpAnyH_ready (rs := [8]) (by kernel_rfl) (by simp) ?_
  refine AllReadyH.cons rfl (fun K hK => ?_) AllReadyH.nil
  try simp only [List.getElem_toArray, List.getElem_cons_succ, List.getElem_cons_zero]
  go_simp
  go_at_call 41; (with_reducible refine (pickE g A l1 cap (0 + 60) (2 ^ L) (w1.alloc (.cells #[.int .i64 nn, .slice A' ws.length c'] 25)).drew (HR1.out.below (by go_grown)) (by decide) hpb).mono ?_); rintro e w3 ⟨q1, rfl, hq10, hq11, hr2, hg2, hs2⟩; have hq12 : q1 < (2 ^ L) := hq11 hpp; have hk3 := set_a hg2 hgl; have hz3 : w1.heap.size < w3.heap.size := set_z hs2; clear hq11 hs2
  refine hK.out _ _ ?_ (fun hHeld => ?_)
  · exact hk3
  clear hK K
  try simp only [Act.put, List.getElem_toArray, List.getElem_cons_succ, List.getElem_cons_zero, List.setIfInBounds_toArray, List.set_cons_zero, List.set_cons_succ]
  refine wpAnyH_ready (rs := [10]) (by kernel_rfl) (by simp) ?_
  refine AllReadyH.cons rfl (fun K hK => ?_) AllReadyH.nil
  try simp only [List.getElem_toArray, List.getElem_cons_succ, List.getElem_cons_zero]
  go_simp
  go_at_call 41; (with_reducible refine (pickE g A l1 cap (0 + 60 + 1) 40 w3 hr2 (by decide) (by decide)).mono ?_); rintro e w4 ⟨q3, rfl, hq30, hq31, hr4, hg4, hs4⟩; have hq32 := hq31 (by decide); have hk4 := set_b hk3 hg4 hgl; have hr3' := set_p HRES.out hg2 hsz1 hgw; have hr4' := set_e hr3' hg4 (Nat.lt_trans hsz1 hz3) hgw; have hk5 := set_d (.int .i64 nn) (.slice A' ws.length c') hk4 hz1; have hz4 : w1.heap.size < w4.heap.size := hs4 ▸ hz3; have TT := Lib.hid (two_cells (v0 := .int .i64 nn) (v1 := .slice A' ws.length c') hr4'); have z0 : w4.cell? ⟨w.heap.size, 0, none⟩ = some (.int .i64 0) := cell_of_row _ _ 0 _ _ (0, 0) hr4'; have z1 : w4.cell? ⟨w.heap.size, 1, none⟩ = some (.slice none 0 0) := cell_of_row _ _ 1 _ _ (0, 0) hr4'; have z2 := set_f 0 hr4'; have z3 := set_f 1 hr4'; clear hq31 hs4
  refine hK.out _ _ ?_ (fun hHeld => ?_)
  · exact hk4
  clear hK K
  try simp only [Act.put, List.getElem_toArray, List.getElem_cons_succ, List.getElem_cons_zero, List.setIfInBounds_toArray, List.set_cons_zero, List.set_cons_succ]
  refine wpAnyH_take (i := 11) (v := ?_) rfl (by kernel_rfl) (by kernel_rfl) (by kernel_rfl) (fun _ _ _ h => h) (Or.inl ⟨by rfl, ?_⟩) (by assumption) ?_
  rotate_left
  · (intro w hSw; (try dsimp only at hSw); (try simp only [List.getElem_toArray, List.getElem_cons_succ, List.getElem_cons_zero]); first | (go_simp; done) | (go_simp; with_reducible rfl))
  try simp only [Act.put, List.getElem_toArray, List.getElem_cons_succ, List.getElem_cons_zero, List.setIfInBounds_toArray, List.set_cons_zero, List.set_cons_succ]
  refine wpAnyH_take (i := 12) (v := ?_) rfl (by kernel_rfl) (by kernel_rfl) (by kernel_rfl) (fun _ _ _ h => h) (Or.inl ⟨by rfl, ?_⟩) (by assumption) ?_
  rotate_left
  · (intro w hSw; (try dsimp only at hSw); (try simp only [List.getElem_toArray, List.getElem_cons_succ, List.getElem_cons_zero]); first | (go_simp; done) | (go_simp; with_reducible rfl))
  try simp only [Act.put, List.getElem_toArray, List.getElem_cons_succ, List.getElem_cons_zero, List.setIfInBounds_toArray, List.set_cons_zero, List.set_cons_succ]
  refine wpAnyH_take (i := 13) (v := ?_) rfl (by kernel_rfl) (by kernel_rfl) (by kernel_rfl) (fun _ _ _ h => h) (Or.inl ⟨by rfl, ?_⟩) (by assumption) ?_
  rotate_left
  · (intro w hSw; (try dsimp only at hSw); (try simp only [List.getElem_toArray, List.getElem_cons_succ, List.getElem_cons_zero]); first | (go_simp; done) | (go_simp; with_reducible rfl))
  try simp only [Act.put, List.getElem_toArray, List.getElem_cons_succ, List.getElem_cons_zero, List.setIfInBounds_toArray, List.set_cons_zero, List.set_cons_succ]
  refine wpAnyH_ready (rs := [14]) (by kernel_rfl) (by simp) ?_
  refine AllReadyH.cons rfl (fun K hK => ?_) AllReadyH.nil
  try simp only [List.getElem_toArray, List.getElem_cons_succ, List.getElem_cons_zero]
  go_simp

  refine hK.out _ _ ?_ (fun hHeld => ?_)
  · exact hk5
  clear hK K
  try simp only [Act.put, List.getElem_toArray, List.getElem_cons_succ, List.getElem_cons_zero, List.setIfInBounds_toArray, List.set_cons_zero, List.set_cons_succ]
  refine wpAnyH_take (i := 15) (v := ?_) rfl (by kernel_rfl) (by kernel_rfl) (by kernel_rfl) (fun _ _ _ h => h) (Or.inl ⟨by rfl, ?_⟩) (by assumption) ?_
  rotate_left
  · (intro w hSw; (try dsimp only at hSw); (try simp only [List.getElem_toArray, List.getElem_cons_succ, List.getElem_cons_zero]); first | (go_simp; done) | (go_simp; with_reducible rfl))
  try simp only [Act.put, List.getElem_toArray, List.getElem_cons_succ, List.getElem_cons_zero, List.setIfInBounds_toArray, List.set_cons_zero, List.set_cons_succ]
  refine wpAnyH_take (i := 16) (v := ?_) rfl (by kernel_rfl) (by kernel_rfl) (by kernel_rfl) (fun _ _ _ h => h) (Or.inl ⟨by rfl, ?_⟩) (by assumption) ?_
  rotate_left
  · (intro w hSw; (try dsimp only at hSw); (try simp only [List.getElem_toArray, List.getElem_cons_succ, List.getElem_cons_zero]); first | (go_simp; done) | (go_simp; with_reducible rfl))
  try simp only [Act.put, List.getElem_toArray, List.getElem_cons_succ, List.getElem_cons_zero, List.setIfInBounds_toArray, List.set_cons_zero, List.set_cons_succ]
  refine wpAnyH_done (by kernel_rfl) ?_ _
  (try clear hw1 hw2 hmx)
  obtain ⟨t, ht⟩ : ∃ t : Int, q3.tdiv 39 = t := ⟨_, rfl⟩
  have ht0 : 0 ≤ t ∧ t ≤ 1 := by rw [← ht, Int.tdiv_eq_ediv_of_nonneg hq30]; omega
  have e1 : IntKind.i64.wrap (q3.tdiv 39) = t := by rw [ht]; exact IntWalk.i64_in _ ⟨by omega, by omega⟩
  have e2 : IntKind.i64.wrap (t * 1024) = t * 1024 := IntWalk.i64_in _ ⟨by omega, by omega⟩
  have e3 : IntKind.i64.wrap (q1 + t * 1024) = q1 + t * 1024 := IntWalk.i64_in _ ⟨by omega, by omega⟩
  have hk9 : ∀ b, b < w1.heap.size → b ≠ g → w4.heap[b]? = w1.heap[b]? := fun b hb hne => by
    rw [hg4.block _ (by omega) (by intro e; injection e; omega), hg2.block _ (by simp; omega) (by intro e; injection e; omega)]
    exact Below.heap_alloc _ _ _ hb
  have hrw4 : RW w4 w1.heap.size A' ws := by
    intro i x hx
    obtain ⟨b, o, ha, hB, g0, g1, g2⟩ := HRW.out i x hx
    have hbb := HAG.out _ ha
    simp at hbb
    have hk := hk9 b hB (by omega)
    exact ⟨b, o, ha, hB, (World.cell?_of_block (w := w1) hk).trans g0, (World.cell?_of_block (w := w1) hk).trans g1, (World.cell?_of_block (w := w1) hk).trans g2⟩
  have hri4 : RC w4 w1.heap.size (some ⟨bc, 0, none⟩) pz := by
    intro i x hx
    obtain ⟨b, o, ha, hB, g0, g1⟩ := HRI.out i x hx
    injection ha with ha; injection ha with h1 h2; subst h1; subst h2
    have hk := hk9 bc hB (by omega)
    exact ⟨bc, 0, rfl, hB, (World.cell?_of_block (w := w1) hk).trans g0, (World.cell?_of_block (w := w1) hk).trans g1⟩
  have HS := Lib.hid (pq_stays hrw4 hri4 HAN.out (by omega) (Nat.le_of_lt hz4) (.int .i64 nn) (.slice A' ws.length c'))
  have HG4 := Lib.hid (below_of_only (below_of_only (HBD.out.alloc (by omega) (.cells #[.int .i64 nn, .slice A' ws.length c'] 25)).drew hg2 (by omega)) hg4 (by omega))
  clear hrw4 hri4 hk9 hr4 hg2 hg4 hr2 hk3 hk4 hk5 hr3' hr4' ht
  go_wp2_with fail
  obtain ⟨t0, t1⟩ := TT.out
  obtain ⟨s1, s2⟩ := HS.out
  refine bodyPost_ret (v := .tuple #[.agg #[.int .i64 nn, .slice A' ws.length c'], .slice (some ⟨bc, 0, none⟩) pz.length cc, .int .i64 (q1 + t * 1024)]) (by simp [results, Tryd.results12, go_sem, t0, t1, e1, e2, e3]) rfl ?_
  exact ⟨nn, q1 + t * 1024, A', c', ws, bc, cc, pz, rfl, s1, hl10, hcc, hn0, hn7, by omega, by omega, s2, hpz8, hpzc, (HG4.out.setCell (p := ⟨w.heap.size, 0, none⟩) (Nat.le_refl _) _).setCell (p := ⟨w.heap.size, 1, none⟩) (Nat.le_refl _) _⟩
end Go.Proofs.YtnnpooemdonbhaaDoor
