/- The program's points: apart, PointsFar, MiddleOf, MeetCost. -/
import Derived.Test.YtgnjjiljipgbnaaDoorPoIa
import Derived.Test.YtgnjjiljipgbnaaDoorPoIb
set_option linter.unusedSimpArgs false
set_option linter.unusedVariables false
attribute [local go_sem ↓] Go.wp_at_zero Go.wp_at_succ
namespace Go.Proofs.YtgnjjiljipgbnaaDoor
open Go.ChangeShapes Go.WideShapes Go.ChangeAt Go.RowKit
set_option maxRecDepth 100000 in
set_option maxHeartbeats 4000000 in
theorem apart_any (p q : Int × Int) (hp : 0 ≤ p.1 ∧ p.1 ≤ 20 ∧ 0 ≤ p.2 ∧ p.2 ≤ 20) (hq : 0 ≤ q.1 ∧ q.1 ≤ 20 ∧ 0 ≤ q.2 ∧ q.2 ≤ 20) (w : World) :
    Calls Tryd.prog 22 #[.agg #[.int .i64 p.1, .int .i64 p.2], .agg #[.int .i64 q.1, .int .i64 q.2]] w fun e w' => e = .returned (.int .i64 (apart p q)) ∧ Below w.heap.size w w' := by
  obtain ⟨p1, p2⟩ := p
  obtain ⟨q1, q2⟩ := q
  simp only at hp hq ⊢
  have hp1 : 0 ≤ p1 ∧ p1 ≤ 20 := ⟨hp.1, hp.2.1⟩
  have hp2 : 0 ≤ p2 ∧ p2 ≤ 20 := ⟨hp.2.2.1, hp.2.2.2⟩
  have hq1 : 0 ≤ q1 ∧ q1 ≤ 20 := ⟨hq.1, hq.2.1⟩
  have hq2 : 0 ≤ q2 ∧ q2 ≤ 20 := ⟨hq.2.2.1, hq.2.2.2⟩
  obtain ⟨X, hX⟩ : ∃ X, max (p1 - q1) (q1 - p1) = X := ⟨_, rfl⟩
  obtain ⟨Y, hY⟩ : ∃ Y, max (p2 - q2) (q2 - p2) = Y := ⟨_, rfl⟩
  have HAP : Hid (apart (p1, p2) (q1, q2) = X + Y) := by show _ = _; unfold apart; simp only; rw [hX, hY]
  have HX := Lib.hid hX
  have HY := Lib.hid hY
  have H5 : Hid (IntKind.i64.wrap (X + Y) = X + Y ∧ wrap64 (X + Y) = X + Y) := ⟨IntWalk.i64_in _ ⟨by omega, by omega⟩, IntWalk.wrap64_in _ ⟨by omega, by omega⟩⟩
  rw [HAP.out]
  clear hX hY hp hq
  have z0 : ((w.alloc (.cells #[.int .i64 p1, .int .i64 p2] 35)).alloc (.cells #[.int .i64 q1, .int .i64 q2] 35)).cell? ⟨w.heap.size, 0, none⟩ = some (.int .i64 p1) := by go_simp
  have z1 : ((w.alloc (.cells #[.int .i64 p1, .int .i64 p2] 35)).alloc (.cells #[.int .i64 q1, .int .i64 q2] 35)).cell? ⟨w.heap.size, 1, none⟩ = some (.int .i64 p2) := by go_simp
  have z2 : ((w.alloc (.cells #[.int .i64 p1, .int .i64 p2] 35)).alloc (.cells #[.int .i64 q1, .int .i64 q2] 35)).cell? ⟨w.heap.size + 1, 0, none⟩ = some (.int .i64 q1) := by go_simp
  have z3 : ((w.alloc (.cells #[.int .i64 p1, .int .i64 p2] 35)).alloc (.cells #[.int .i64 q1, .int .i64 q2] 35)).cell? ⟨w.heap.size + 1, 1, none⟩ = some (.int .i64 q2) := by go_simp
  have z4 : w.heap.size + 1 < ((w.alloc (.cells #[.int .i64 p1, .int .i64 p2] 35)).alloc (.cells #[.int .i64 q1, .int .i64 q2] 35)).heap.size := by simp
  have z5 : Below w.heap.size w ((w.alloc (.cells #[.int .i64 p1, .int .i64 p2] 35)).alloc (.cells #[.int .i64 q1, .int .i64 q2] 35)) := by go_grown
  go_enter Tryd.func22, Tryd.ntmps22
  go_wp2_with fail
  obtain ⟨e1, e2⟩ := H5.out
  refine wp_region_held_drew (S := (fun w' => w'.cell? ⟨w.heap.size, 0, none⟩ = some (.int .i64 p1) ∧ w'.cell? ⟨w.heap.size, 1, none⟩ = some (.int .i64 p2) ∧ w'.cell? ⟨w.heap.size + 1, 0, none⟩ = some (.int .i64 q1) ∧ w'.cell? ⟨w.heap.size + 1, 1, none⟩ = some (.int .i64 q2) ∧ w.heap.size + 1 < w'.heap.size ∧ Below w.heap.size w w')) (by kernel_rfl) ?_ (fun hHeld => ?_)
  · exact ⟨z0, z1, z2, z3, z4, z5.drew⟩
  refine wpAnyH_take (i := 0) (v := ?_) rfl (by kernel_rfl) (by kernel_rfl) (by kernel_rfl) (fun _ _ _ h => h) (Or.inl ⟨by rfl, ?_⟩) (by assumption) ?_
  rotate_left
  · (intro w hSw; (try dsimp only at hSw); (try simp only [List.getElem_toArray, List.getElem_cons_succ, List.getElem_cons_zero]); first | (go_simp; done) | (go_simp; with_reducible rfl))
  try simp only [Act.put, List.getElem_toArray, List.getElem_cons_succ, List.getElem_cons_zero, List.setIfInBounds_toArray, List.set_cons_zero, List.set_cons_succ]
  refine wpAnyH_take (i := 1) (v := ?_) rfl (by kernel_rfl) (by kernel_rfl) (by kernel_rfl) (fun _ _ _ h => h) (Or.inl ⟨by rfl, ?_⟩) (by assumption) ?_
  rotate_left
  · (intro w hSw; (try dsimp only at hSw); (try simp only [List.getElem_toArray, List.getElem_cons_succ, List.getElem_cons_zero]); first | (go_simp; done) | (go_simp; with_reducible rfl))
  try simp only [Act.put, List.getElem_toArray, List.getElem_cons_succ, List.getElem_cons_zero, List.setIfInBounds_toArray, List.set_cons_zero, List.set_cons_succ]
  refine wpAnyH_take (i := 2) (v := ?_) rfl (by kernel_rfl) (by kernel_rfl) (by kernel_rfl) (fun _ _ _ h => h) (Or.inl ⟨by rfl, ?_⟩) (by assumption) ?_
  rotate_left
  · (intro w hSw; (try dsimp only at hSw); (try simp only [List.getElem_toArray, List.getElem_cons_succ, List.getElem_cons_zero]); first | (go_simp; done) | (go_simp; with_reducible rfl))
  try simp only [Act.put, List.getElem_toArray, List.getElem_cons_succ, List.getElem_cons_zero, List.setIfInBounds_toArray, List.set_cons_zero, List.set_cons_succ]
  refine wpAnyH_take (i := 3) (v := ?_) rfl (by kernel_rfl) (by kernel_rfl) (by kernel_rfl) (fun _ _ _ h => h) (Or.inl ⟨by rfl, ?_⟩) (by assumption) ?_
  rotate_left
  · (intro w hSw; (try dsimp only at hSw); (try simp only [List.getElem_toArray, List.getElem_cons_succ, List.getElem_cons_zero]); first | (go_simp; done) | (go_simp; with_reducible rfl))
  try simp only [Act.put, List.getElem_toArray, List.getElem_cons_succ, List.getElem_cons_zero, List.setIfInBounds_toArray, List.set_cons_zero, List.set_cons_succ]
  refine wpAnyH_take (i := 6) (v := ?_) rfl (by kernel_rfl) (by kernel_rfl) (by kernel_rfl) (fun _ _ _ h => h) (Or.inl ⟨by rfl, ?_⟩) (by assumption) ?_
  rotate_left
  · (intro w hSw; (try dsimp only at hSw); (try simp only [List.getElem_toArray, List.getElem_cons_succ, List.getElem_cons_zero]); first | (go_simp; done) | (go_simp; with_reducible rfl))
  try simp only [Act.put, List.getElem_toArray, List.getElem_cons_succ, List.getElem_cons_zero, List.setIfInBounds_toArray, List.set_cons_zero, List.set_cons_succ]
  refine wpAnyH_take (i := 7) (v := ?_) rfl (by kernel_rfl) (by kernel_rfl) (by kernel_rfl) (fun _ _ _ h => h) (Or.inl ⟨by rfl, ?_⟩) (by assumption) ?_
  rotate_left
  · (intro w hSw; (try dsimp only at hSw); (try simp only [List.getElem_toArray, List.getElem_cons_succ, List.getElem_cons_zero]); first | (go_simp; done) | (go_simp; with_reducible rfl))
  try simp only [Act.put, List.getElem_toArray, List.getElem_cons_succ, List.getElem_cons_zero, List.setIfInBounds_toArray, List.set_cons_zero, List.set_cons_succ]
  refine wpAnyH_take (i := 8) (v := ?_) rfl (by kernel_rfl) (by kernel_rfl) (by kernel_rfl) (fun _ _ _ h => h) (Or.inl ⟨by rfl, ?_⟩) (by assumption) ?_
  rotate_left
  · (intro w hSw; (try dsimp only at hSw); (try simp only [List.getElem_toArray, List.getElem_cons_succ, List.getElem_cons_zero]); first | (go_simp; done) | (go_simp; with_reducible rfl))
  try simp only [Act.put, List.getElem_toArray, List.getElem_cons_succ, List.getElem_cons_zero, List.setIfInBounds_toArray, List.set_cons_zero, List.set_cons_succ]
  refine wpAnyH_take (i := 9) (v := ?_) rfl (by kernel_rfl) (by kernel_rfl) (by kernel_rfl) (fun _ _ _ h => h) (Or.inl ⟨by rfl, ?_⟩) (by assumption) ?_
  rotate_left
  · (intro w hSw; (try dsimp only at hSw); (try simp only [List.getElem_toArray, List.getElem_cons_succ, List.getElem_cons_zero]); first | (go_simp; done) | (go_simp; with_reducible rfl))
  try simp only [Act.put, List.getElem_toArray, List.getElem_cons_succ, List.getElem_cons_zero, List.setIfInBounds_toArray, List.set_cons_zero, List.set_cons_succ]
  refine wpAnyH_ready (rs := [4, 10]) (by kernel_rfl) (by simp) ?_
  refine AllReadyH.cons rfl (fun K hK => ?_) (AllReadyH.cons rfl (fun K hK => ?_) AllReadyH.nil)
  · try simp only [List.getElem_toArray, List.getElem_cons_succ, List.getElem_cons_zero]
    go_simp
    refine hK.out _ _ ?_ (fun hHeld => ?_)
    · exact ⟨(World.cell?_alloc_lt _ _ _ (by have := hHeld.2.2.2.2.1; simp; try omega)).trans hHeld.1, (World.cell?_alloc_lt _ _ _ (by have := hHeld.2.2.2.2.1; simp; try omega)).trans hHeld.2.1, (World.cell?_alloc_lt _ _ _ (by have := hHeld.2.2.2.2.1; simp; try omega)).trans hHeld.2.2.1, (World.cell?_alloc_lt _ _ _ (by have := hHeld.2.2.2.2.1; simp; try omega)).trans hHeld.2.2.2.1, (by have := hHeld.2.2.2.2.1; simp; try omega), (by have hp := hHeld.2.2.2.2.2; go_grown)⟩
    clear hK K
    try simp only [Act.put, List.getElem_toArray, List.getElem_cons_succ, List.getElem_cons_zero, List.setIfInBounds_toArray, List.set_cons_zero, List.set_cons_succ]
    refine wpAnyH_ready (rs := [5, 10]) (by kernel_rfl) (by simp) ?_
    refine AllReadyH.cons rfl (fun K hK => ?_) (AllReadyH.cons rfl (fun K hK => ?_) AllReadyH.nil)
    · try simp only [List.getElem_toArray, List.getElem_cons_succ, List.getElem_cons_zero]
      go_simp
      go_at_call 25; refine (spread2_any p1 q1 _ _ _ (by first | (go_simp; done) | (refine (hb5.cell (by simp; try omega)).trans ?_; go_simp)) (by first | (go_simp; done) | (refine (hb5.cell (by simp; try omega)).trans ?_; go_simp)) (by first | (simp; done) | (simp; omega) | (have h9 := hb5.size; simp at h9; omega)) hp1 hq1).mono ?_; rintro e5 w5 ⟨rfl, hb5⟩; rw [HX.out]; have hs5 := hb5.size
      refine hK.out _ _ ?_ (fun hHeld => ?_)
      · exact ⟨(hb5.cell (by have := hHeld.2.2.2.2.1; simp; try omega)).trans hHeld.1, (hb5.cell (by have := hHeld.2.2.2.2.1; simp; try omega)).trans hHeld.2.1, (hb5.cell (by have := hHeld.2.2.2.2.1; simp; try omega)).trans hHeld.2.2.1, (hb5.cell (by have := hHeld.2.2.2.2.1; simp; try omega)).trans hHeld.2.2.2.1, (by have := hHeld.2.2.2.2.1; have h9 := hb5.size; (try simp at h9); omega), bstep (B := w.heap.size) (W := w) (by have hp := hHeld.2.2.2.2.2; go_grown) (by have := hHeld.2.2.2.2.1; simp; try omega) hb5⟩
      clear hK K
      try simp only [Act.put, List.getElem_toArray, List.getElem_cons_succ, List.getElem_cons_zero, List.setIfInBounds_toArray, List.set_cons_zero, List.set_cons_succ]
      refine wpAnyH_ready (rs := [10]) (by kernel_rfl) (by simp) ?_
      refine AllReadyH.cons rfl (fun K hK => ?_) AllReadyH.nil
      try simp only [List.getElem_toArray, List.getElem_cons_succ, List.getElem_cons_zero]
      go_simp
      refine hK.out _ _ ?_ (fun hHeld => ?_)
      · exact ⟨(World.cell?_alloc_lt _ _ _ (by have := hHeld.2.2.2.2.1; simp; try omega)).trans hHeld.1, (World.cell?_alloc_lt _ _ _ (by have := hHeld.2.2.2.2.1; simp; try omega)).trans hHeld.2.1, (World.cell?_alloc_lt _ _ _ (by have := hHeld.2.2.2.2.1; simp; try omega)).trans hHeld.2.2.1, (World.cell?_alloc_lt _ _ _ (by have := hHeld.2.2.2.2.1; simp; try omega)).trans hHeld.2.2.2.1, (by have := hHeld.2.2.2.2.1; simp; try omega), (by have hp := hHeld.2.2.2.2.2; go_grown)⟩
      clear hK K
      try simp only [Act.put, List.getElem_toArray, List.getElem_cons_succ, List.getElem_cons_zero, List.setIfInBounds_toArray, List.set_cons_zero, List.set_cons_succ]
      refine wpAnyH_ready (rs := [11]) (by kernel_rfl) (by simp) ?_
      refine AllReadyH.cons rfl (fun K hK => ?_) AllReadyH.nil
      try simp only [List.getElem_toArray, List.getElem_cons_succ, List.getElem_cons_zero]
      go_simp
      go_at_call 25; refine (spread2_any p2 q2 _ _ _ (by first | (go_simp; done) | (refine (hb5.cell (by simp; try omega)).trans ?_; go_simp)) (by first | (go_simp; done) | (refine (hb5.cell (by simp; try omega)).trans ?_; go_simp)) (by first | (simp; done) | (simp; omega) | (have h9 := hb5.size; simp at h9; omega)) hp2 hq2).mono ?_; rintro e11 w11 ⟨rfl, hb11⟩; rw [HY.out]; have hs11 := hb11.size
      refine hK.out _ _ ?_ (fun hHeld => ?_)
      · exact ⟨(hb11.cell (by have := hHeld.2.2.2.2.1; simp; try omega)).trans hHeld.1, (hb11.cell (by have := hHeld.2.2.2.2.1; simp; try omega)).trans hHeld.2.1, (hb11.cell (by have := hHeld.2.2.2.2.1; simp; try omega)).trans hHeld.2.2.1, (hb11.cell (by have := hHeld.2.2.2.2.1; simp; try omega)).trans hHeld.2.2.2.1, (by have := hHeld.2.2.2.2.1; have h9 := hb11.size; (try simp at h9); omega), bstep (B := w.heap.size) (W := w) (by have hp := hHeld.2.2.2.2.2; go_grown) (by have := hHeld.2.2.2.2.1; simp; try omega) hb11⟩
      clear hK K
      try simp only [Act.put, List.getElem_toArray, List.getElem_cons_succ, List.getElem_cons_zero, List.setIfInBounds_toArray, List.set_cons_zero, List.set_cons_succ]
      refine wpAnyH_take (i := 12) (v := ?_) rfl (by kernel_rfl) (by kernel_rfl) (by kernel_rfl) (fun _ _ _ h => h) (Or.inl ⟨by rfl, ?_⟩) (by assumption) ?_
      rotate_left
      · (intro w hSw; (try dsimp only at hSw); (try simp only [List.getElem_toArray, List.getElem_cons_succ, List.getElem_cons_zero]); first | (go_simp; done) | (go_simp; with_reducible rfl))
      try simp only [Act.put, List.getElem_toArray, List.getElem_cons_succ, List.getElem_cons_zero, List.setIfInBounds_toArray, List.set_cons_zero, List.set_cons_succ]
      refine wpAnyH_take (i := 13) (v := ?_) rfl (by kernel_rfl) (by kernel_rfl) (by kernel_rfl) (fun _ _ _ h => h) (Or.inl ⟨by rfl, ?_⟩) (by assumption) ?_
      rotate_left
      · (intro w hSw; (try dsimp only at hSw); (try simp only [List.getElem_toArray, List.getElem_cons_succ, List.getElem_cons_zero]); first | (go_simp; done) | (go_simp; with_reducible rfl))
      try simp only [Act.put, List.getElem_toArray, List.getElem_cons_succ, List.getElem_cons_zero, List.setIfInBounds_toArray, List.set_cons_zero, List.set_cons_succ]
      refine wpAnyH_done (by kernel_rfl) ?_ _
      go_wp2_with fail
      go_ret
      exact ⟨rfl, hHeld.2.2.2.2.2⟩
    · try simp only [List.getElem_toArray, List.getElem_cons_succ, List.getElem_cons_zero]
      go_simp
      refine hK.out _ _ ?_ (fun hHeld => ?_)
      · exact ⟨(World.cell?_alloc_lt _ _ _ (by have := hHeld.2.2.2.2.1; simp; try omega)).trans hHeld.1, (World.cell?_alloc_lt _ _ _ (by have := hHeld.2.2.2.2.1; simp; try omega)).trans hHeld.2.1, (World.cell?_alloc_lt _ _ _ (by have := hHeld.2.2.2.2.1; simp; try omega)).trans hHeld.2.2.1, (World.cell?_alloc_lt _ _ _ (by have := hHeld.2.2.2.2.1; simp; try omega)).trans hHeld.2.2.2.1, (by have := hHeld.2.2.2.2.1; simp; try omega), (by have hp := hHeld.2.2.2.2.2; go_grown)⟩
      clear hK K
      try simp only [Act.put, List.getElem_toArray, List.getElem_cons_succ, List.getElem_cons_zero, List.setIfInBounds_toArray, List.set_cons_zero, List.set_cons_succ]
      refine wpAnyH_ready (rs := [5]) (by kernel_rfl) (by simp) ?_
      refine AllReadyH.cons rfl (fun K hK => ?_) AllReadyH.nil
      try simp only [List.getElem_toArray, List.getElem_cons_succ, List.getElem_cons_zero]
      go_simp
      go_at_call 25; refine (spread2_any p1 q1 _ _ _ (by first | (go_simp; done) | (refine (hb5.cell (by simp; try omega)).trans ?_; go_simp)) (by first | (go_simp; done) | (refine (hb5.cell (by simp; try omega)).trans ?_; go_simp)) (by first | (simp; done) | (simp; omega) | (have h9 := hb5.size; simp at h9; omega)) hp1 hq1).mono ?_; rintro e5 w5 ⟨rfl, hb5⟩; rw [HX.out]; have hs5 := hb5.size
      refine hK.out _ _ ?_ (fun hHeld => ?_)
      · exact ⟨(hb5.cell (by have := hHeld.2.2.2.2.1; simp; try omega)).trans hHeld.1, (hb5.cell (by have := hHeld.2.2.2.2.1; simp; try omega)).trans hHeld.2.1, (hb5.cell (by have := hHeld.2.2.2.2.1; simp; try omega)).trans hHeld.2.2.1, (hb5.cell (by have := hHeld.2.2.2.2.1; simp; try omega)).trans hHeld.2.2.2.1, (by have := hHeld.2.2.2.2.1; have h9 := hb5.size; (try simp at h9); omega), bstep (B := w.heap.size) (W := w) (by have hp := hHeld.2.2.2.2.2; go_grown) (by have := hHeld.2.2.2.2.1; simp; try omega) hb5⟩
      clear hK K
      try simp only [Act.put, List.getElem_toArray, List.getElem_cons_succ, List.getElem_cons_zero, List.setIfInBounds_toArray, List.set_cons_zero, List.set_cons_succ]
      refine wpAnyH_ready (rs := [11]) (by kernel_rfl) (by simp) ?_
      refine AllReadyH.cons rfl (fun K hK => ?_) AllReadyH.nil
      try simp only [List.getElem_toArray, List.getElem_cons_succ, List.getElem_cons_zero]
      go_simp
      go_at_call 25; refine (spread2_any p2 q2 _ _ _ (by first | (go_simp; done) | (refine (hb5.cell (by simp; try omega)).trans ?_; go_simp)) (by first | (go_simp; done) | (refine (hb5.cell (by simp; try omega)).trans ?_; go_simp)) (by first | (simp; done) | (simp; omega) | (have h9 := hb5.size; simp at h9; omega)) hp2 hq2).mono ?_; rintro e11 w11 ⟨rfl, hb11⟩; rw [HY.out]; have hs11 := hb11.size
      refine hK.out _ _ ?_ (fun hHeld => ?_)
      · exact ⟨(hb11.cell (by have := hHeld.2.2.2.2.1; simp; try omega)).trans hHeld.1, (hb11.cell (by have := hHeld.2.2.2.2.1; simp; try omega)).trans hHeld.2.1, (hb11.cell (by have := hHeld.2.2.2.2.1; simp; try omega)).trans hHeld.2.2.1, (hb11.cell (by have := hHeld.2.2.2.2.1; simp; try omega)).trans hHeld.2.2.2.1, (by have := hHeld.2.2.2.2.1; have h9 := hb11.size; (try simp at h9); omega), bstep (B := w.heap.size) (W := w) (by have hp := hHeld.2.2.2.2.2; go_grown) (by have := hHeld.2.2.2.2.1; simp; try omega) hb11⟩
      clear hK K
      try simp only [Act.put, List.getElem_toArray, List.getElem_cons_succ, List.getElem_cons_zero, List.setIfInBounds_toArray, List.set_cons_zero, List.set_cons_succ]
      refine wpAnyH_take (i := 12) (v := ?_) rfl (by kernel_rfl) (by kernel_rfl) (by kernel_rfl) (fun _ _ _ h => h) (Or.inl ⟨by rfl, ?_⟩) (by assumption) ?_
      rotate_left
      · (intro w hSw; (try dsimp only at hSw); (try simp only [List.getElem_toArray, List.getElem_cons_succ, List.getElem_cons_zero]); first | (go_simp; done) | (go_simp; with_reducible rfl))
      try simp only [Act.put, List.getElem_toArray, List.getElem_cons_succ, List.getElem_cons_zero, List.setIfInBounds_toArray, List.set_cons_zero, List.set_cons_succ]
      refine wpAnyH_take (i := 13) (v := ?_) rfl (by kernel_rfl) (by kernel_rfl) (by kernel_rfl) (fun _ _ _ h => h) (Or.inl ⟨by rfl, ?_⟩) (by assumption) ?_
      rotate_left
      · (intro w hSw; (try dsimp only at hSw); (try simp only [List.getElem_toArray, List.getElem_cons_succ, List.getElem_cons_zero]); first | (go_simp; done) | (go_simp; with_reducible rfl))
      try simp only [Act.put, List.getElem_toArray, List.getElem_cons_succ, List.getElem_cons_zero, List.setIfInBounds_toArray, List.set_cons_zero, List.set_cons_succ]
      refine wpAnyH_done (by kernel_rfl) ?_ _
      go_wp2_with fail
      go_ret
      exact ⟨rfl, hHeld.2.2.2.2.2⟩
  · try simp only [List.getElem_toArray, List.getElem_cons_succ, List.getElem_cons_zero]
    go_simp
    refine hK.out _ _ ?_ (fun hHeld => ?_)
    · exact ⟨(World.cell?_alloc_lt _ _ _ (by have := hHeld.2.2.2.2.1; simp; try omega)).trans hHeld.1, (World.cell?_alloc_lt _ _ _ (by have := hHeld.2.2.2.2.1; simp; try omega)).trans hHeld.2.1, (World.cell?_alloc_lt _ _ _ (by have := hHeld.2.2.2.2.1; simp; try omega)).trans hHeld.2.2.1, (World.cell?_alloc_lt _ _ _ (by have := hHeld.2.2.2.2.1; simp; try omega)).trans hHeld.2.2.2.1, (by have := hHeld.2.2.2.2.1; simp; try omega), (by have hp := hHeld.2.2.2.2.2; go_grown)⟩
    clear hK K
    try simp only [Act.put, List.getElem_toArray, List.getElem_cons_succ, List.getElem_cons_zero, List.setIfInBounds_toArray, List.set_cons_zero, List.set_cons_succ]
    refine wpAnyH_ready (rs := [4]) (by kernel_rfl) (by simp) ?_
    refine AllReadyH.cons rfl (fun K hK => ?_) AllReadyH.nil
    try simp only [List.getElem_toArray, List.getElem_cons_succ, List.getElem_cons_zero]
    go_simp
    refine hK.out _ _ ?_ (fun hHeld => ?_)
    · exact ⟨(World.cell?_alloc_lt _ _ _ (by have := hHeld.2.2.2.2.1; simp; try omega)).trans hHeld.1, (World.cell?_alloc_lt _ _ _ (by have := hHeld.2.2.2.2.1; simp; try omega)).trans hHeld.2.1, (World.cell?_alloc_lt _ _ _ (by have := hHeld.2.2.2.2.1; simp; try omega)).trans hHeld.2.2.1, (World.cell?_alloc_lt _ _ _ (by have := hHeld.2.2.2.2.1; simp; try omega)).trans hHeld.2.2.2.1, (by have := hHeld.2.2.2.2.1; simp; try omega), (by have hp := hHeld.2.2.2.2.2; go_grown)⟩
    clear hK K
    try simp only [Act.put, List.getElem_toArray, List.getElem_cons_succ, List.getElem_cons_zero, List.setIfInBounds_toArray, List.set_cons_zero, List.set_cons_succ]
    refine wpAnyH_ready (rs := [5]) (by kernel_rfl) (by simp) ?_
    refine AllReadyH.cons rfl (fun K hK => ?_) AllReadyH.nil
    try simp only [List.getElem_toArray, List.getElem_cons_succ, List.getElem_cons_zero]
    go_simp
    go_at_call 25; refine (spread2_any p1 q1 _ _ _ (by first | (go_simp; done) | (refine (hb5.cell (by simp; try omega)).trans ?_; go_simp)) (by first | (go_simp; done) | (refine (hb5.cell (by simp; try omega)).trans ?_; go_simp)) (by first | (simp; done) | (simp; omega) | (have h9 := hb5.size; simp at h9; omega)) hp1 hq1).mono ?_; rintro e5 w5 ⟨rfl, hb5⟩; rw [HX.out]; have hs5 := hb5.size
    refine hK.out _ _ ?_ (fun hHeld => ?_)
    · exact ⟨(hb5.cell (by have := hHeld.2.2.2.2.1; simp; try omega)).trans hHeld.1, (hb5.cell (by have := hHeld.2.2.2.2.1; simp; try omega)).trans hHeld.2.1, (hb5.cell (by have := hHeld.2.2.2.2.1; simp; try omega)).trans hHeld.2.2.1, (hb5.cell (by have := hHeld.2.2.2.2.1; simp; try omega)).trans hHeld.2.2.2.1, (by have := hHeld.2.2.2.2.1; have h9 := hb5.size; (try simp at h9); omega), bstep (B := w.heap.size) (W := w) (by have hp := hHeld.2.2.2.2.2; go_grown) (by have := hHeld.2.2.2.2.1; simp; try omega) hb5⟩
    clear hK K
    try simp only [Act.put, List.getElem_toArray, List.getElem_cons_succ, List.getElem_cons_zero, List.setIfInBounds_toArray, List.set_cons_zero, List.set_cons_succ]
    refine wpAnyH_ready (rs := [11]) (by kernel_rfl) (by simp) ?_
    refine AllReadyH.cons rfl (fun K hK => ?_) AllReadyH.nil
    try simp only [List.getElem_toArray, List.getElem_cons_succ, List.getElem_cons_zero]
    go_simp
    go_at_call 25; refine (spread2_any p2 q2 _ _ _ (by first | (go_simp; done) | (refine (hb5.cell (by simp; try omega)).trans ?_; go_simp)) (by first | (go_simp; done) | (refine (hb5.cell (by simp; try omega)).trans ?_; go_simp)) (by first | (simp; done) | (simp; omega) | (have h9 := hb5.size; simp at h9; omega)) hp2 hq2).mono ?_; rintro e11 w11 ⟨rfl, hb11⟩; rw [HY.out]; have hs11 := hb11.size
    refine hK.out _ _ ?_ (fun hHeld => ?_)
    · exact ⟨(hb11.cell (by have := hHeld.2.2.2.2.1; simp; try omega)).trans hHeld.1, (hb11.cell (by have := hHeld.2.2.2.2.1; simp; try omega)).trans hHeld.2.1, (hb11.cell (by have := hHeld.2.2.2.2.1; simp; try omega)).trans hHeld.2.2.1, (hb11.cell (by have := hHeld.2.2.2.2.1; simp; try omega)).trans hHeld.2.2.2.1, (by have := hHeld.2.2.2.2.1; have h9 := hb11.size; (try simp at h9); omega), bstep (B := w.heap.size) (W := w) (by have hp := hHeld.2.2.2.2.2; go_grown) (by have := hHeld.2.2.2.2.1; simp; try omega) hb11⟩
    clear hK K
    try simp only [Act.put, List.getElem_toArray, List.getElem_cons_succ, List.getElem_cons_zero, List.setIfInBounds_toArray, List.set_cons_zero, List.set_cons_succ]
    refine wpAnyH_take (i := 12) (v := ?_) rfl (by kernel_rfl) (by kernel_rfl) (by kernel_rfl) (fun _ _ _ h => h) (Or.inl ⟨by rfl, ?_⟩) (by assumption) ?_
    rotate_left
    · (intro w hSw; (try dsimp only at hSw); (try simp only [List.getElem_toArray, List.getElem_cons_succ, List.getElem_cons_zero]); first | (go_simp; done) | (go_simp; with_reducible rfl))
    try simp only [Act.put, List.getElem_toArray, List.getElem_cons_succ, List.getElem_cons_zero, List.setIfInBounds_toArray, List.set_cons_zero, List.set_cons_succ]
    refine wpAnyH_take (i := 13) (v := ?_) rfl (by kernel_rfl) (by kernel_rfl) (by kernel_rfl) (fun _ _ _ h => h) (Or.inl ⟨by rfl, ?_⟩) (by assumption) ?_
    rotate_left
    · (intro w hSw; (try dsimp only at hSw); (try simp only [List.getElem_toArray, List.getElem_cons_succ, List.getElem_cons_zero]); first | (go_simp; done) | (go_simp; with_reducible rfl))
    try simp only [Act.put, List.getElem_toArray, List.getElem_cons_succ, List.getElem_cons_zero, List.setIfInBounds_toArray, List.set_cons_zero, List.set_cons_succ]
    refine wpAnyH_done (by kernel_rfl) ?_ _
    go_wp2_with fail
    go_ret
    exact ⟨rfl, hHeld.2.2.2.2.2⟩
set_option maxRecDepth 100000 in
set_option maxHeartbeats 2000000 in
theorem PointsFar_any (a b' : Int) (Ap : Option Addr) (cp : Nat) (ps : List (Int × Int)) (w : World) (hp : RC w w.heap.size Ap ps) (hpm : ps.length ≤ 1073741824) :
    Calls Tryd.prog 9 #[.slice Ap ps.length cp, .int .i64 a, .int .i64 b'] w fun e w' => e = .returned (.int .i64 (pointsFar ps a b')) ∧ Below w.heap.size w w' := by
  have HP := Lib.hid hp
  clear hp
  unfold pointsFar
  cases hok : pointsOk ps
  · have HOK := Lib.hid hok
    rw [Bool.false_and, if_neg (by simp)]
    clear hok
    go_enter Tryd.func9, Tryd.ntmps9
    go_wp2_with fail
    refine (PointsOk_any _ _ _ _ HP.out hpm).mono ?_; rintro e w1 ⟨rfl, hb1⟩
    rw [HOK.out]
    obtain ⟨hc1, hf1⟩ := bcell hb1
    have HK1 := Lib.hid hb1
    have HB1 := Lib.hid (bstep (B := w.heap.size) (W := w) (by (try have hp := HB0.out); go_grown) (by go_size) hb1); clear hb1
    go_wp2_with fail
    go_ret
    exact ⟨rfl, HB1.out⟩
  · have HOK := Lib.hid hok
    obtain ⟨hl1, hl6, hin⟩ := pointsOk_t hok
    have HIN := Lib.hid hin
    rw [Bool.true_and]
    clear hok hin
    cases ha : inB a 0 ((ps.length : Int) - 1)
    · have HA := Lib.hid ha
      rw [Bool.false_and, if_neg (by simp)]
      clear ha
      go_enter Tryd.func9, Tryd.ntmps9
      go_wp2_with fail
      refine (PointsOk_any _ _ _ _ HP.out hpm).mono ?_; rintro e w1 ⟨rfl, hb1⟩
      rw [HOK.out]
      obtain ⟨hc1, hf1⟩ := bcell hb1
      have HK1 := Lib.hid hb1
      have HB1 := Lib.hid (bstep (B := w.heap.size) (W := w) (by (try have hp := HB0.out); go_grown) (by go_size) hb1); clear hb1
      go_wp2_with fail
      refine (hasPoint_any _ _ _ _ _ hpm).mono ?_; rintro e w2 ⟨rfl, rfl⟩; rw [HA.out]
      go_wp2_with fail
      go_ret
      exact ⟨rfl, HB1.out⟩
    · have HA := Lib.hid ha
      obtain ⟨a0, a1⟩ := inB_t ha
      rw [Bool.true_and]
      clear ha
      cases hb : inB b' 0 ((ps.length : Int) - 1)
      · have HBB := Lib.hid hb
        rw [if_neg (by simp)]
        clear hb
        go_enter Tryd.func9, Tryd.ntmps9
        go_wp2_with fail
        refine (PointsOk_any _ _ _ _ HP.out hpm).mono ?_; rintro e w1 ⟨rfl, hb1⟩
        rw [HOK.out]
        obtain ⟨hc1, hf1⟩ := bcell hb1
        have HK1 := Lib.hid hb1
        have HB1 := Lib.hid (bstep (B := w.heap.size) (W := w) (by (try have hp := HB0.out); go_grown) (by go_size) hb1); clear hb1
        go_wp2_with fail
        refine (hasPoint_any _ _ _ _ _ hpm).mono ?_; rintro e w2 ⟨rfl, rfl⟩; rw [HA.out]
        go_wp2_with fail
        refine (hasPoint_any _ _ _ _ _ hpm).mono ?_; rintro e w2 ⟨rfl, rfl⟩; rw [HBB.out]
        go_wp2_with fail
        go_ret
        exact ⟨rfl, HB1.out⟩
      · have HBB := Lib.hid hb
        obtain ⟨b0, b1⟩ := inB_t hb
        rw [if_pos rfl]
        clear hb
        obtain ⟨ka, rfl⟩ : ∃ k : Nat, a = k := ⟨a.toNat, by omega⟩
        obtain ⟨kb, rfl⟩ : ∃ k : Nat, b' = k := ⟨b'.toNat, by omega⟩
        rw [Int.toNat_natCast, Int.toNat_natCast]
        have hpp := HIN.out _ (ptAt_mem (ps := ps) (k := ka) (by omega))
        have hqq := HIN.out _ (ptAt_mem (ps := ps) (k := kb) (by omega))
        have ka1 : (ka : Int) < (ps.length : Int) := by omega
        have kb1 : (kb : Int) < (ps.length : Int) := by omega
        have kal : ka < ps.length := by omega
        have kbl : kb < ps.length := by omega
        go_enter Tryd.func9, Tryd.ntmps9
        go_wp2_with fail
        refine (PointsOk_any _ _ _ _ HP.out hpm).mono ?_; rintro e w1 ⟨rfl, hb1⟩
        rw [HOK.out]
        obtain ⟨hc1, hf1⟩ := bcell hb1
        have HK1 := Lib.hid hb1
        have HB1 := Lib.hid (bstep (B := w.heap.size) (W := w) (by (try have hp := HB0.out); go_grown) (by go_size) hb1); clear hb1
        obtain ⟨b, o, rfl, hbw, c0, c1⟩ := (HP.out.later HB1.out).at2 kal
        obtain ⟨bb, oo, e9, -, d0, d1⟩ := (HP.out.later HB1.out).at2 kbl
        injection e9 with e9; injection e9 with e91 e92; subst e91; subst e92
        obtain ⟨⟨pa, pb⟩, hP⟩ : ∃ x, ptAt ps ka = x := ⟨_, rfl⟩
        obtain ⟨⟨qa, qb⟩, hQ⟩ : ∃ x, ptAt ps kb = x := ⟨_, rfl⟩
        rw [hP] at c0 c1 hpp
        rw [hQ] at d0 d1 hqq
        have HPE := Lib.hid hP
        have HQE := Lib.hid hQ
        simp only at c0 c1 d0 d1
        clear hP hQ hc1 hf1
        go_wp2_with fail
        refine (hasPoint_any _ _ _ _ _ hpm).mono ?_; rintro e w2 ⟨rfl, rfl⟩; rw [HA.out]
        go_wp2_with fail
        refine (hasPoint_any _ _ _ _ _ hpm).mono ?_; rintro e w2 ⟨rfl, rfl⟩; rw [HBB.out]
        go_wp2_with fail
        refine wp_region_held_drew (S := (fun w' => w'.cell? ⟨b, o + ka * 2, none⟩ = some (.int .i64 pa) ∧ w'.cell? ⟨b, o + ka * 2 + 1, none⟩ = some (.int .i64 pb) ∧ w'.cell? ⟨b, o + kb * 2, none⟩ = some (.int .i64 qa) ∧ w'.cell? ⟨b, o + kb * 2 + 1, none⟩ = some (.int .i64 qb))) (by kernel_rfl) ?_ (fun hHeld => ?_)
        · exact ⟨c0, c1, d0, d1⟩
        refine wpAnyH_take (i := 0) (v := ?_) rfl (by kernel_rfl) (by kernel_rfl) (by kernel_rfl) (fun _ _ _ h => h) (Or.inl ⟨by rfl, ?_⟩) (by assumption) ?_
        rotate_left
        · (intro w hSw; (try dsimp only at hSw); (try simp only [List.getElem_toArray, List.getElem_cons_succ, List.getElem_cons_zero]); first | (go_simp; done) | (go_simp; with_reducible rfl))
        try simp only [Act.put, List.getElem_toArray, List.getElem_cons_succ, List.getElem_cons_zero, List.setIfInBounds_toArray, List.set_cons_zero, List.set_cons_succ]
        refine wpAnyH_take (i := 1) (v := ?_) rfl (by kernel_rfl) (by kernel_rfl) (by kernel_rfl) (fun _ _ _ h => h) (Or.inl ⟨by rfl, ?_⟩) (by assumption) ?_
        rotate_left
        · (intro w hSw; (try dsimp only at hSw); (try simp only [List.getElem_toArray, List.getElem_cons_succ, List.getElem_cons_zero]); first | (go_simp; done) | (go_simp; with_reducible rfl))
        try simp only [Act.put, List.getElem_toArray, List.getElem_cons_succ, List.getElem_cons_zero, List.setIfInBounds_toArray, List.set_cons_zero, List.set_cons_succ]
        refine wpAnyH_take (i := 2) (v := ?_) rfl (by kernel_rfl) (by kernel_rfl) (by kernel_rfl) (fun _ _ _ h => h) (Or.inl ⟨by rfl, ?_⟩) (by assumption) ?_
        rotate_left
        · (intro w hSw; (try dsimp only at hSw); (try simp only [List.getElem_toArray, List.getElem_cons_succ, List.getElem_cons_zero]); first | (go_simp; done) | (go_simp; with_reducible rfl))
        try simp only [Act.put, List.getElem_toArray, List.getElem_cons_succ, List.getElem_cons_zero, List.setIfInBounds_toArray, List.set_cons_zero, List.set_cons_succ]
        refine wpAnyH_take (i := 3) (v := ?_) rfl (by kernel_rfl) (by kernel_rfl) (by kernel_rfl) (fun _ _ _ h => h) (Or.inl ⟨by rfl, ?_⟩) (by assumption) ?_
        rotate_left
        · (intro w hSw; (try dsimp only at hSw); (try simp only [List.getElem_toArray, List.getElem_cons_succ, List.getElem_cons_zero]); first | (go_simp; done) | (go_simp; with_reducible rfl))
        try simp only [Act.put, List.getElem_toArray, List.getElem_cons_succ, List.getElem_cons_zero, List.setIfInBounds_toArray, List.set_cons_zero, List.set_cons_succ]
        refine wpAnyH_take (i := 4) (v := ?_) rfl (by kernel_rfl) (by kernel_rfl) (by kernel_rfl) (fun _ _ _ h => h) (Or.inl ⟨by rfl, ?_⟩) (by assumption) ?_
        rotate_left
        · (intro w hSw; (try dsimp only at hSw); (try simp only [List.getElem_toArray, List.getElem_cons_succ, List.getElem_cons_zero]); first | (go_simp; done) | (go_simp; with_reducible rfl))
        try simp only [Act.put, List.getElem_toArray, List.getElem_cons_succ, List.getElem_cons_zero, List.setIfInBounds_toArray, List.set_cons_zero, List.set_cons_succ]
        refine wpAnyH_take (i := 5) (v := ?_) rfl (by kernel_rfl) (by kernel_rfl) (by kernel_rfl) (fun _ _ _ h => h) (Or.inl ⟨by rfl, ?_⟩) (by assumption) ?_
        rotate_left
        · (intro w hSw; (try dsimp only at hSw); (try simp only [List.getElem_toArray, List.getElem_cons_succ, List.getElem_cons_zero]); first | (go_simp; done) | (go_simp; with_reducible rfl))
        try simp only [Act.put, List.getElem_toArray, List.getElem_cons_succ, List.getElem_cons_zero, List.setIfInBounds_toArray, List.set_cons_zero, List.set_cons_succ]
        refine wpAnyH_take (i := 6) (v := ?_) rfl (by kernel_rfl) (by kernel_rfl) (by kernel_rfl) (fun _ _ _ h => h) (Or.inl ⟨by rfl, ?_⟩) (by assumption) ?_
        rotate_left
        · (intro w hSw; (try dsimp only at hSw); (try simp only [List.getElem_toArray, List.getElem_cons_succ, List.getElem_cons_zero]); first | (go_simp; done) | (go_simp; with_reducible rfl))
        try simp only [Act.put, List.getElem_toArray, List.getElem_cons_succ, List.getElem_cons_zero, List.setIfInBounds_toArray, List.set_cons_zero, List.set_cons_succ]
        refine wpAnyH_take (i := 7) (v := ?_) rfl (by kernel_rfl) (by kernel_rfl) (by kernel_rfl) (fun _ _ _ h => h) (Or.inl ⟨by rfl, ?_⟩) (by assumption) ?_
        rotate_left
        · (intro w hSw; (try dsimp only at hSw); (try simp only [List.getElem_toArray, List.getElem_cons_succ, List.getElem_cons_zero]); first | (go_simp; done) | (go_simp; with_reducible rfl))
        try simp only [Act.put, List.getElem_toArray, List.getElem_cons_succ, List.getElem_cons_zero, List.setIfInBounds_toArray, List.set_cons_zero, List.set_cons_succ]
        refine wpAnyH_ready (rs := [8]) (by kernel_rfl) (by simp) ?_
        refine AllReadyH.cons rfl (fun K hK => ?_) AllReadyH.nil
        try simp only [List.getElem_toArray, List.getElem_cons_succ, List.getElem_cons_zero]
        go_simp
        go_at_call 22; refine (apart_any (pa, pb) (qa, qb) hpp hqq _).mono ?_; rintro e8 w8 ⟨rfl, hb8⟩; have g8 : Below w1.heap.size w1 w8 := und hb8
        refine hK.out _ _ ?_ (fun hHeld => ?_)
        · exact ⟨(g8.cell (p := ⟨b, o + ka * 2, none⟩) hbw).trans c0, (g8.cell (p := ⟨b, o + ka * 2 + 1, none⟩) hbw).trans c1, (g8.cell (p := ⟨b, o + kb * 2, none⟩) hbw).trans d0, (g8.cell (p := ⟨b, o + kb * 2 + 1, none⟩) hbw).trans d1⟩
        clear hK K
        try simp only [Act.put, List.getElem_toArray, List.getElem_cons_succ, List.getElem_cons_zero, List.setIfInBounds_toArray, List.set_cons_zero, List.set_cons_succ]
        refine wpAnyH_take (i := 9) (v := ?_) rfl (by kernel_rfl) (by kernel_rfl) (by kernel_rfl) (fun _ _ _ h => h) (Or.inl ⟨by rfl, ?_⟩) (by assumption) ?_
        rotate_left
        · (intro w hSw; (try dsimp only at hSw); (try simp only [List.getElem_toArray, List.getElem_cons_succ, List.getElem_cons_zero]); first | (go_simp; done) | (go_simp; with_reducible rfl))
        try simp only [Act.put, List.getElem_toArray, List.getElem_cons_succ, List.getElem_cons_zero, List.setIfInBounds_toArray, List.set_cons_zero, List.set_cons_succ]
        refine wpAnyH_done (by kernel_rfl) ?_ _
        have HB9 := Lib.hid (bstep (B := w.heap.size) (W := w) HB1.out HB1.out.size g8)
        go_wp2_with fail
        go_ret
        exact ⟨ret_int (by rw [HPE.out, HQE.out]), ⟨HB9.out.os, HB9.out.tape, HB9.out.output, HB9.out.size, HB9.out.block⟩⟩
end Go.Proofs.YtgnjjiljipgbnaaDoor
