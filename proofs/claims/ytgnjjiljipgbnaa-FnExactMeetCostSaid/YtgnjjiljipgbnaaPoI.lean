/- The program's points: apart, PointsFar, MiddleOf, MeetCost. -/
import Derived.Test.YtgnjjiljipgbnaaPoIa
import Derived.Test.YtgnjjiljipgbnaaPoIb
set_option linter.unusedSimpArgs false
set_option linter.unusedVariables false
attribute [local go_sem ↓] Go.wp_at_zero Go.wp_at_succ
namespace Go.Proofs.Ytgnjjiljipgbnaa
open Go.ChangeShapes Go.WideShapes Go.ChangeAt Go.RowKit
set_option maxRecDepth 100000 in
set_option maxHeartbeats 4000000 in
theorem apart_any (p q : Int × Int) (hp : 0 ≤ p.1 ∧ p.1 ≤ 20 ∧ 0 ≤ p.2 ∧ p.2 ≤ 20) (hq : 0 ≤ q.1 ∧ q.1 ≤ 20 ∧ 0 ≤ q.2 ∧ q.2 ≤ 20) (w : World) :
    Calls Try.prog 41 #[.agg #[.int .i64 p.1, .int .i64 p.2], .agg #[.int .i64 q.1, .int .i64 q.2]] w fun e w' => e = .returned (.int .i64 (apart p q)) ∧ Below w.heap.size w w' := by
  obtain ⟨p1, p2⟩ := p
  obtain ⟨q1, q2⟩ := q
  simp only at hp hq ⊢
  have hp1 : 0 ≤ p1 ∧ p1 ≤ 20 := ⟨hp.1, hp.2.1⟩
  have hp2 : 0 ≤ p2 ∧ p2 ≤ 20 := ⟨hp.2.2.1, hp.2.2.2⟩
  have hq1 : 0 ≤ q1 ∧ q1 ≤ 20 := ⟨hq.1, hq.2.1⟩
  have hq2 : 0 ≤ q2 ∧ q2 ≤ 20 := ⟨hq.2.2.1, hq.2.2.2⟩
  obtain ⟨X, hX⟩ : ∃ X, max (p1 - q1) (q1 - p1) = X := ⟨_, rfl⟩
  obtain ⟨Y, hY⟩ : ∃ Y, max (p2 - q2) (q2 - p2) = Y := ⟨_, rfl⟩
  have HAP : Hid (apart (p1, p2) (q1, q2) = X + Y) := by show _ = _; unfold apart; simp only; rw [hX, hY]
  have HX := Lib.hid hX
  have HY := Lib.hid hY
  have H5 : Hid (IntKind.i64.wrap (X + Y) = X + Y ∧ wrap64 (X + Y) = X + Y) := ⟨IntWalk.i64_in _ ⟨by omega, by omega⟩, IntWalk.wrap64_in _ ⟨by omega, by omega⟩⟩
  rw [HAP.out]
  clear hX hY hp hq
  have z0 : ((w.alloc (.cells #[.int .i64 p1, .int .i64 p2] 27)).alloc (.cells #[.int .i64 q1, .int .i64 q2] 27)).cell? ⟨w.heap.size, 0, none⟩ = some (.int .i64 p1) := by go_simp
  have z1 : ((w.alloc (.cells #[.int .i64 p1, .int .i64 p2] 27)).alloc (.cells #[.int .i64 q1, .int .i64 q2] 27)).cell? ⟨w.heap.size, 1, none⟩ = some (.int .i64 p2) := by go_simp
  have z2 : ((w.alloc (.cells #[.int .i64 p1, .int .i64 p2] 27)).alloc (.cells #[.int .i64 q1, .int .i64 q2] 27)).cell? ⟨w.heap.size + 1, 0, none⟩ = some (.int .i64 q1) := by go_simp
  have z3 : ((w.alloc (.cells #[.int .i64 p1, .int .i64 p2] 27)).alloc (.cells #[.int .i64 q1, .int .i64 q2] 27)).cell? ⟨w.heap.size + 1, 1, none⟩ = some (.int .i64 q2) := by go_simp
  have z4 : w.heap.size + 1 < ((w.alloc (.cells #[.int .i64 p1, .int .i64 p2] 27)).alloc (.cells #[.int .i64 q1, .int .i64 q2] 27)).heap.size := by simp
  have z5 : Below w.heap.size w ((w.alloc (.cells #[.int .i64 p1, .int .i64 p2] 27)).alloc (.cells #[.int .i64 q1, .int .i64 q2] 27)) := by go_grown
  go_enter Try.func41, Try.ntmps41
  go_wp2_with fail
  obtain ⟨e1, e2⟩ := H5.out
  refine wp_region_held_drew (S := (fun w' => w'.cell? ⟨w.heap.size, 0, none⟩ = some (.int .i64 p1) ∧ w'.cell? ⟨w.heap.size, 1, none⟩ = some (.int .i64 p2) ∧ w'.cell? ⟨w.heap.size + 1, 0, none⟩ = some (.int .i64 q1) ∧ w'.cell? ⟨w.heap.size + 1, 1, none⟩ = some (.int .i64 q2) ∧ w.heap.size + 1 < w'.heap.size ∧ Below w.heap.size w w')) (by kernel_rfl) ?_ (fun hHeld => ?_)
  · exact ⟨z0, z1, z2, z3, z4, z5.drew⟩
  refine wpAnyH_take (i := 0) (v := ?_) rfl (by kernel_rfl) (by kernel_rfl) (by kernel_rfl) (fun _ _ _ h => h) (Or.inl ⟨by rfl, ?_⟩) (by assumption) ?_
  rotate_left
  · (intro w hSw; (try dsimp only at hSw); (try simp only [List.getElem_toArray, List.getElem_cons_succ, List.getElem_cons_zero]); first | (go_simp; done) | (go_simp; with_reducible rfl))
  try simp only [Act.put, List.getElem_toArray, List.getElem_cons_succ, List.getElem_cons_zero, List.setIfInBounds_toArray, List.set_cons_zero, List.set_cons_succ]
  refine wpAnyH_take (i := 1) (v := ?_) rfl (by kernel_rfl) (by kernel_rfl) (by kernel_rfl) (fun _ _ _ h => h) (Or.inl ⟨by rfl, ?_⟩) (by assumption) ?_
  rotate_left
  · (intro w hSw; (try dsimp only at hSw); (try simp only [List.getElem_toArray, List.getElem_cons_succ, List.getElem_cons_zero]); first | (go_simp; done) | (go_simp; with_reducible rfl))
  try simp only [Act.put, List.getElem_toArray, List.getElem_cons_succ, List.getElem_cons_zero, List.setIfInBounds_toArray, List.set_cons_zero, List.set_cons_succ]
  refine wpAnyH_take (i := 2) (v := ?_) rfl (by kernel_rfl) (by kernel_rfl) (by kernel_rfl) (fun _ _ _ h => h) (Or.inl ⟨by rfl, ?_⟩) (by assumption) ?_
  rotate_left
  · (intro w hSw; (try dsimp only at hSw); (try simp only [List.getElem_toArray, List.getElem_cons_succ, List.getElem_cons_zero]); first | (go_simp; done) | (go_simp; with_reducible rfl))
  try simp only [Act.put, List.getElem_toArray, List.getElem_cons_succ, List.getElem_cons_zero, List.setIfInBounds_toArray, List.set_cons_zero, List.set_cons_succ]
  refine wpAnyH_take (i := 3) (v := ?_) rfl (by kernel_rfl) (by kernel_rfl) (by kernel_rfl) (fun _ _ _ h => h) (Or.inl ⟨by rfl, ?_⟩) (by assumption) ?_
  rotate_left
  · (intro w hSw; (try dsimp only at hSw); (try simp only [List.getElem_toArray, List.getElem_cons_succ, List.getElem_cons_zero]); first | (go_simp; done) | (go_simp; with_reducible rfl))
  try simp only [Act.put, List.getElem_toArray, List.getElem_cons_succ, List.getElem_cons_zero, List.setIfInBounds_toArray, List.set_cons_zero, List.set_cons_succ]
  refine wpAnyH_take (i := 6) (v := ?_) rfl (by kernel_rfl) (by kernel_rfl) (by kernel_rfl) (fun _ _ _ h => h) (Or.inl ⟨by rfl, ?_⟩) (by assumption) ?_
  rotate_left
  · (intro w hSw; (try dsimp only at hSw); (try simp only [List.getElem_toArray, List.getElem_cons_succ, List.getElem_cons_zero]); first | (go_simp; done) | (go_simp; with_reducible rfl))
  try simp only [Act.put, List.getElem_toArray, List.getElem_cons_succ, List.getElem_cons_zero, List.setIfInBounds_toArray, List.set_cons_zero, List.set_cons_succ]
  refine wpAnyH_take (i := 7) (v := ?_) rfl (by kernel_rfl) (by kernel_rfl) (by kernel_rfl) (fun _ _ _ h => h) (Or.inl ⟨by rfl, ?_⟩) (by assumption) ?_
  rotate_left
  · (intro w hSw; (try dsimp only at hSw); (try simp only [List.getElem_toArray, List.getElem_cons_succ, List.getElem_cons_zero]); first | (go_simp; done) | (go_simp; with_reducible rfl))
  try simp only [Act.put, List.getElem_toArray, List.getElem_cons_succ, List.getElem_cons_zero, List.setIfInBounds_toArray, List.set_cons_zero, List.set_cons_succ]
  refine wpAnyH_take (i := 8) (v := ?_) rfl (by kernel_rfl) (by kernel_rfl) (by kernel_rfl) (fun _ _ _ h => h) (Or.inl ⟨by rfl, ?_⟩) (by assumption) ?_
  rotate_left
  · (intro w hSw; (try dsimp only at hSw); (try simp only [List.getElem_toArray, List.getElem_cons_succ, List.getElem_cons_zero]); first | (go_simp; done) | (go_simp; with_reducible rfl))
  try simp only [Act.put, List.getElem_toArray, List.getElem_cons_succ, List.getElem_cons_zero, List.setIfInBounds_toArray, List.set_cons_zero, List.set_cons_succ]
  refine wpAnyH_take (i := 9) (v := ?_) rfl (by kernel_rfl) (by kernel_rfl) (by kernel_rfl) (fun _ _ _ h => h) (Or.inl ⟨by rfl, ?_⟩) (by assumption) ?_
  rotate_left
  · (intro w hSw; (try dsimp only at hSw); (try simp only [List.getElem_toArray, List.getElem_cons_succ, List.getElem_cons_zero]); first | (go_simp; done) | (go_simp; with_reducible rfl))
  try simp only [Act.put, List.getElem_toArray, List.getElem_cons_succ, List.getElem_cons_zero, List.setIfInBounds_toArray, List.set_cons_zero, List.set_cons_succ]
  refine wpAnyH_ready (rs := [4, 10]) (by kernel_rfl) (by simp) ?_
  refine AllReadyH.cons rfl (fun K hK => ?_) (AllReadyH.cons rfl (fun K hK => ?_) AllReadyH.nil)
  · try simp only [List.getElem_toArray, List.getElem_cons_succ, List.getElem_cons_zero]
    go_simp
    refine hK.out _ _ ?_ (fun hHeld => ?_)
    · exact ⟨(World.cell?_alloc_lt _ _ _ (by have := hHeld.2.2.2.2.1; simp; try omega)).trans hHeld.1, (World.cell?_alloc_lt _ _ _ (by have := hHeld.2.2.2.2.1; simp; try omega)).trans hHeld.2.1, (World.cell?_alloc_lt _ _ _ (by have := hHeld.2.2.2.2.1; simp; try omega)).trans hHeld.2.2.1, (World.cell?_alloc_lt _ _ _ (by have := hHeld.2.2.2.2.1; simp; try omega)).trans hHeld.2.2.2.1, (by have := hHeld.2.2.2.2.1; simp; try omega), (by have hp := hHeld.2.2.2.2.2; go_grown)⟩
    clear hK K
    try simp only [Act.put, List.getElem_toArray, List.getElem_cons_succ, List.getElem_cons_zero, List.setIfInBounds_toArray, List.set_cons_zero, List.set_cons_succ]
    refine wpAnyH_ready (rs := [5, 10]) (by kernel_rfl) (by simp) ?_
    refine AllReadyH.cons rfl (fun K hK => ?_) (AllReadyH.cons rfl (fun K hK => ?_) AllReadyH.nil)
    · try simp only [List.getElem_toArray, List.getElem_cons_succ, List.getElem_cons_zero]
      go_simp
      go_at_call 44; refine (spread2_any p1 q1 _ _ _ (by first | (go_simp; done) | (refine (hb5.cell (by simp; try omega)).trans ?_; go_simp)) (by first | (go_simp; done) | (refine (hb5.cell (by simp; try omega)).trans ?_; go_simp)) (by first | (simp; done) | (simp; omega) | (have h9 := hb5.size; simp at h9; omega)) hp1 hq1).mono ?_; rintro e5 w5 ⟨rfl, hb5⟩; rw [HX.out]; have hs5 := hb5.size
      refine hK.out _ _ ?_ (fun hHeld => ?_)
      · exact ⟨(hb5.cell (by have := hHeld.2.2.2.2.1; simp; try omega)).trans hHeld.1, (hb5.cell (by have := hHeld.2.2.2.2.1; simp; try omega)).trans hHeld.2.1, (hb5.cell (by have := hHeld.2.2.2.2.1; simp; try omega)).trans hHeld.2.2.1, (hb5.cell (by have := hHeld.2.2.2.2.1; simp; try omega)).trans hHeld.2.2.2.1, (by have := hHeld.2.2.2.2.1; have h9 := hb5.size; (try simp at h9); omega), bstep (B := w.heap.size) (W := w) (by have hp := hHeld.2.2.2.2.2; go_grown) (by have := hHeld.2.2.2.2.1; simp; try omega) hb5⟩
      clear hK K
      try simp only [Act.put, List.getElem_toArray, List.getElem_cons_succ, List.getElem_cons_zero, List.setIfInBounds_toArray, List.set_cons_zero, List.set_cons_succ]
      refine wpAnyH_ready (rs := [10]) (by kernel_rfl) (by simp) ?_
      refine AllReadyH.cons rfl (fun K hK => ?_) AllReadyH.nil
      try simp only [List.getElem_toArray, List.getElem_cons_succ, List.getElem_cons_zero]
      go_simp
      refine hK.out _ _ ?_ (fun hHeld => ?_)
      · exact ⟨(World.cell?_alloc_lt _ _ _ (by have := hHeld.2.2.2.2.1; simp; try omega)).trans hHeld.1, (World.cell?_alloc_lt _ _ _ (by have := hHeld.2.2.2.2.1; simp; try omega)).trans hHeld.2.1, (World.cell?_alloc_lt _ _ _ (by have := hHeld.2.2.2.2.1; simp; try omega)).trans hHeld.2.2.1, (World.cell?_alloc_lt _ _ _ (by have := hHeld.2.2.2.2.1; simp; try omega)).trans hHeld.2.2.2.1, (by have := hHeld.2.2.2.2.1; simp; try omega), (by have hp := hHeld.2.2.2.2.2; go_grown)⟩
      clear hK K
      try simp only [Act.put, List.getElem_toArray, List.getElem_cons_succ, List.getElem_cons_zero, List.setIfInBounds_toArray, List.set_cons_zero, List.set_cons_succ]
      refine wpAnyH_ready (rs := [11]) (by kernel_rfl) (by simp) ?_
      refine AllReadyH.cons rfl (fun K hK => ?_) AllReadyH.nil
      try simp only [List.getElem_toArray, List.getElem_cons_succ, List.getElem_cons_zero]
      go_simp
      go_at_call 44; refine (spread2_any p2 q2 _ _ _ (by first | (go_simp; done) | (refine (hb5.cell (by simp; try omega)).trans ?_; go_simp)) (by first | (go_simp; done) | (refine (hb5.cell (by simp; try omega)).trans ?_; go_simp)) (by first | (simp; done) | (simp; omega) | (have h9 := hb5.size; simp at h9; omega)) hp2 hq2).mono ?_; rintro e11 w11 ⟨rfl, hb11⟩; rw [HY.out]; have hs11 := hb11.size
      refine hK.out _ _ ?_ (fun hHeld => ?_)
      · exact ⟨(hb11.cell (by have := hHeld.2.2.2.2.1; simp; try omega)).trans hHeld.1, (hb11.cell (by have := hHeld.2.2.2.2.1; simp; try omega)).trans hHeld.2.1, (hb11.cell (by have := hHeld.2.2.2.2.1; simp; try omega)).trans hHeld.2.2.1, (hb11.cell (by have := hHeld.2.2.2.2.1; simp; try omega)).trans hHeld.2.2.2.1, (by have := hHeld.2.2.2.2.1; have h9 := hb11.size; (try simp at h9); omega), bstep (B := w.heap.size) (W := w) (by have hp := hHeld.2.2.2.2.2; go_grown) (by have := hHeld.2.2.2.2.1; simp; try omega) hb11⟩
      clear hK K
      try simp only [Act.put, List.getElem_toArray, List.getElem_cons_succ, List.getElem_cons_zero, List.setIfInBounds_toArray, List.set_cons_zero, List.set_cons_succ]
      refine wpAnyH_take (i := 12) (v := ?_) rfl (by kernel_rfl) (by kernel_rfl) (by kernel_rfl) (fun _ _ _ h => h) (Or.inl ⟨by rfl, ?_⟩) (by assumption) ?_
      rotate_left
      · (intro w hSw; (try dsimp only at hSw); (try simp only [List.getElem_toArray, List.getElem_cons_succ, List.getElem_cons_zero]); first | (go_simp; done) | (go_simp; with_reducible rfl))
      try simp only [Act.put, List.getElem_toArray, List.getElem_cons_succ, List.getElem_cons_zero, List.setIfInBounds_toArray, List.set_cons_zero, List.set_cons_succ]
      refine wpAnyH_take (i := 13) (v := ?_) rfl (by kernel_rfl) (by kernel_rfl) (by kernel_rfl) (fun _ _ _ h => h) (Or.inl ⟨by rfl, ?_⟩) (by assumption) ?_
      rotate_left
      · (intro w hSw; (try dsimp only at hSw); (try simp only [List.getElem_toArray, List.getElem_cons_succ, List.getElem_cons_zero]); first | (go_simp; done) | (go_simp; with_reducible rfl))
      try simp only [Act.put, List.getElem_toArray, List.getElem_cons_succ, List.getElem_cons_zero, List.setIfInBounds_toArray, List.set_cons_zero, List.set_cons_succ]
      refine wpAnyH_done (by kernel_rfl) ?_ _
      go_wp2_with fail
      go_ret
      exact ⟨rfl, hHeld.2.2.2.2.2⟩
    · try simp only [List.getElem_toArray, List.getElem_cons_succ, List.getElem_cons_zero]
      go_simp
      refine hK.out _ _ ?_ (fun hHeld => ?_)
      · exact ⟨(World.cell?_alloc_lt _ _ _ (by have := hHeld.2.2.2.2.1; simp; try omega)).trans hHeld.1, (World.cell?_alloc_lt _ _ _ (by have := hHeld.2.2.2.2.1; simp; try omega)).trans hHeld.2.1, (World.cell?_alloc_lt _ _ _ (by have := hHeld.2.2.2.2.1; simp; try omega)).trans hHeld.2.2.1, (World.cell?_alloc_lt _ _ _ (by have := hHeld.2.2.2.2.1; simp; try omega)).trans hHeld.2.2.2.1, (by have := hHeld.2.2.2.2.1; simp; try omega), (by have hp := hHeld.2.2.2.2.2; go_grown)⟩
      clear hK K
      try simp only [Act.put, List.getElem_toArray, List.getElem_cons_succ, List.getElem_cons_zero, List.setIfInBounds_toArray, List.set_cons_zero, List.set_cons_succ]
      refine wpAnyH_ready (rs := [5]) (by kernel_rfl) (by simp) ?_
      refine AllReadyH.cons rfl (fun K hK => ?_) AllReadyH.nil
      try simp only [List.getElem_toArray, List.getElem_cons_succ, List.getElem_cons_zero]
      go_simp
      go_at_call 44; refine (spread2_any p1 q1 _ _ _ (by first | (go_simp; done) | (refine (hb5.cell (by simp; try omega)).trans ?_; go_simp)) (by first | (go_simp; done) | (refine (hb5.cell (by simp; try omega)).trans ?_; go_simp)) (by first | (simp; done) | (simp; omega) | (have h9 := hb5.size; simp at h9; omega)) hp1 hq1).mono ?_; rintro e5 w5 ⟨rfl, hb5⟩; rw [HX.out]; have hs5 := hb5.size
      refine hK.out _ _ ?_ (fun hHeld => ?_)
      · exact ⟨(hb5.cell (by have := hHeld.2.2.2.2.1; simp; try omega)).trans hHeld.1, (hb5.cell (by have := hHeld.2.2.2.2.1; simp; try omega)).trans hHeld.2.1, (hb5.cell (by have := hHeld.2.2.2.2.1; simp; try omega)).trans hHeld.2.2.1, (hb5.cell (by have := hHeld.2.2.2.2.1; simp; try omega)).trans hHeld.2.2.2.1, (by have := hHeld.2.2.2.2.1; have h9 := hb5.size; (try simp at h9); omega), bstep (B := w.heap.size) (W := w) (by have hp := hHeld.2.2.2.2.2; go_grown) (by have := hHeld.2.2.2.2.1; simp; try omega) hb5⟩
      clear hK K
      try simp only [Act.put, List.getElem_toArray, List.getElem_cons_succ, List.getElem_cons_zero, List.setIfInBounds_toArray, List.set_cons_zero, List.set_cons_succ]
      refine wpAnyH_ready (rs := [11]) (by kernel_rfl) (by simp) ?_
      refine AllReadyH.cons rfl (fun K hK => ?_) AllReadyH.nil
      try simp only [List.getElem_toArray, List.getElem_cons_succ, List.getElem_cons_zero]
      go_simp
      go_at_call 44; refine (spread2_any p2 q2 _ _ _ (by first | (go_simp; done) | (refine (hb5.cell (by simp; try omega)).trans ?_; go_simp)) (by first | (go_simp; done) | (refine (hb5.cell (by simp; try omega)).trans ?_; go_simp)) (by first | (simp; done) | (simp; omega) | (have h9 := hb5.size; simp at h9; omega)) hp2 hq2).mono ?_; rintro e11 w11 ⟨rfl, hb11⟩; rw [HY.out]; have hs11 := hb11.size
      refine hK.out _ _ ?_ (fun hHeld => ?_)
      · exact ⟨(hb11.cell (by have := hHeld.2.2.2.2.1; simp; try omega)).trans hHeld.1, (hb11.cell (by have := hHeld.2.2.2.2.1; simp; try omega)).trans hHeld.2.1, (hb11.cell (by have := hHeld.2.2.2.2.1; simp; try omega)).trans hHeld.2.2.1, (hb11.cell (by have := hHeld.2.2.2.2.1; simp; try omega)).trans hHeld.2.2.2.1, (by have := hHeld.2.2.2.2.1; have h9 := hb11.size; (try simp at h9); omega), bstep (B := w.heap.size) (W := w) (by have hp := hHeld.2.2.2.2.2; go_grown) (by have := hHeld.2.2.2.2.1; simp; try omega) hb11⟩
      clear hK K
      try simp only [Act.put, List.getElem_toArray, List.getElem_cons_succ, List.getElem_cons_zero, List.setIfInBounds_toArray, List.set_cons_zero, List.set_cons_succ]
      refine wpAnyH_take (i := 12) (v := ?_) rfl (by kernel_rfl) (by kernel_rfl) (by kernel_rfl) (fun _ _ _ h => h) (Or.inl ⟨by rfl, ?_⟩) (by assumption) ?_
      rotate_left
      · (intro w hSw; (try dsimp only at hSw); (try simp only [List.getElem_toArray, List.getElem_cons_succ, List.getElem_cons_zero]); first | (go_simp; done) | (go_simp; with_reducible rfl))
      try simp only [Act.put, List.getElem_toArray, List.getElem_cons_succ, List.getElem_cons_zero, List.setIfInBounds_toArray, List.set_cons_zero, List.set_cons_succ]
      refine wpAnyH_take (i := 13) (v := ?_) rfl (by kernel_rfl) (by kernel_rfl) (by kernel_rfl) (fun _ _ _ h => h) (Or.inl ⟨by rfl, ?_⟩) (by assumption) ?_
      rotate_left
      · (intro w hSw; (try dsimp only at hSw); (try simp only [List.getElem_toArray, List.getElem_cons_succ, List.getElem_cons_zero]); first | (go_simp; done) | (go_simp; with_reducible rfl))
      try simp only [Act.put, List.getElem_toArray, List.getElem_cons_succ, List.getElem_cons_zero, List.setIfInBounds_toArray, List.set_cons_zero, List.set_cons_succ]
      refine wpAnyH_done (by kernel_rfl) ?_ _
      go_wp2_with fail
      go_ret
      exact ⟨rfl, hHeld.2.2.2.2.2⟩
  · try simp only [List.getElem_toArray, List.getElem_cons_succ, List.getElem_cons_zero]
    go_simp
    refine hK.out _ _ ?_ (fun hHeld => ?_)
    · exact ⟨(World.cell?_alloc_lt _ _ _ (by have := hHeld.2.2.2.2.1; simp; try omega)).trans hHeld.1, (World.cell?_alloc_lt _ _ _ (by have := hHeld.2.2.2.2.1; simp; try omega)).trans hHeld.2.1, (World.cell?_alloc_lt _ _ _ (by have := hHeld.2.2.2.2.1; simp; try omega)).trans hHeld.2.2.1, (World.cell?_alloc_lt _ _ _ (by have := hHeld.2.2.2.2.1; simp; try omega)).trans hHeld.2.2.2.1, (by have := hHeld.2.2.2.2.1; simp; try omega), (by have hp := hHeld.2.2.2.2.2; go_grown)⟩
    clear hK K
    try simp only [Act.put, List.getElem_toArray, List.getElem_cons_succ, List.getElem_cons_zero, List.setIfInBounds_toArray, List.set_cons_zero, List.set_cons_succ]
    refine wpAnyH_ready (rs := [4]) (by kernel_rfl) (by simp) ?_
    refine AllReadyH.cons rfl (fun K hK => ?_) AllReadyH.nil
    try simp only [List.getElem_toArray, List.getElem_cons_succ, List.getElem_cons_zero]
    go_simp
    refine hK.out _ _ ?_ (fun hHeld => ?_)
    · exact ⟨(World.cell?_alloc_lt _ _ _ (by have := hHeld.2.2.2.2.1; simp; try omega)).trans hHeld.1, (World.cell?_alloc_lt _ _ _ (by have := hHeld.2.2.2.2.1; simp; try omega)).trans hHeld.2.1, (World.cell?_alloc_lt _ _ _ (by have := hHeld.2.2.2.2.1; simp; try omega)).trans hHeld.2.2.1, (World.cell?_alloc_lt _ _ _ (by have := hHeld.2.2.2.2.1; simp; try omega)).trans hHeld.2.2.2.1, (by have := hHeld.2.2.2.2.1; simp; try omega), (by have hp := hHeld.2.2.2.2.2; go_grown)⟩
    clear hK K
    try simp only [Act.put, List.getElem_toArray, List.getElem_cons_succ, List.getElem_cons_zero, List.setIfInBounds_toArray, List.set_cons_zero, List.set_cons_succ]
    refine wpAnyH_ready (rs := [5]) (by kernel_rfl) (by simp) ?_
    refine AllReadyH.cons rfl (fun K hK => ?_) AllReadyH.nil
    try simp only [List.getElem_toArray, List.getElem_cons_succ, List.getElem_cons_zero]
    go_simp
    go_at_call 44; refine (spread2_any p1 q1 _ _ _ (by first | (go_simp; done) | (refine (hb5.cell (by simp; try omega)).trans ?_; go_simp)) (by first | (go_simp; done) | (refine (hb5.cell (by simp; try omega)).trans ?_; go_simp)) (by first | (simp; done) | (simp; omega) | (have h9 := hb5.size; simp at h9; omega)) hp1 hq1).mono ?_; rintro e5 w5 ⟨rfl, hb5⟩; rw [HX.out]; have hs5 := hb5.size
    refine hK.out _ _ ?_ (fun hHeld => ?_)
    · exact ⟨(hb5.cell (by have := hHeld.2.2.2.2.1; simp; try omega)).trans hHeld.1, (hb5.cell (by have := hHeld.2.2.2.2.1; simp; try omega)).trans hHeld.2.1, (hb5.cell (by have := hHeld.2.2.2.2.1; simp; try omega)).trans hHeld.2.2.1, (hb5.cell (by have := hHeld.2.2.2.2.1; simp; try omega)).trans hHeld.2.2.2.1, (by have := hHeld.2.2.2.2.1; have h9 := hb5.size; (try simp at h9); omega), bstep (B := w.heap.size) (W := w) (by have hp := hHeld.2.2.2.2.2; go_grown) (by have := hHeld.2.2.2.2.1; simp; try omega) hb5⟩
    clear hK K
    try simp only [Act.put, List.getElem_toArray, List.getElem_cons_succ, List.getElem_cons_zero, List.setIfInBounds_toArray, List.set_cons_zero, List.set_cons_succ]
    refine wpAnyH_ready (rs := [11]) (by kernel_rfl) (by simp) ?_
    refine AllReadyH.cons rfl (fun K hK => ?_) AllReadyH.nil
    try simp only [List.getElem_toArray, List.getElem_cons_succ, List.getElem_cons_zero]
    go_simp
    go_at_call 44; refine (spread2_any p2 q2 _ _ _ (by first | (go_simp; done) | (refine (hb5.cell (by simp; try omega)).trans ?_; go_simp)) (by first | (go_simp; done) | (refine (hb5.cell (by simp; try omega)).trans ?_; go_simp)) (by first | (simp; done) | (simp; omega) | (have h9 := hb5.size; simp at h9; omega)) hp2 hq2).mono ?_; rintro e11 w11 ⟨rfl, hb11⟩; rw [HY.out]; have hs11 := hb11.size
    refine hK.out _ _ ?_ (fun hHeld => ?_)
    · exact ⟨(hb11.cell (by have := hHeld.2.2.2.2.1; simp; try omega)).trans hHeld.1, (hb11.cell (by have := hHeld.2.2.2.2.1; simp; try omega)).trans hHeld.2.1, (hb11.cell (by have := hHeld.2.2.2.2.1; simp; try omega)).trans hHeld.2.2.1, (hb11.cell (by have := hHeld.2.2.2.2.1; simp; try omega)).trans hHeld.2.2.2.1, (by have := hHeld.2.2.2.2.1; have h9 := hb11.size; (try simp at h9); omega), bstep (B := w.heap.size) (W := w) (by have hp := hHeld.2.2.2.2.2; go_grown) (by have := hHeld.2.2.2.2.1; simp; try omega) hb11⟩
    clear hK K
    try simp only [Act.put, List.getElem_toArray, List.getElem_cons_succ, List.getElem_cons_zero, List.setIfInBounds_toArray, List.set_cons_zero, List.set_cons_succ]
    refine wpAnyH_take (i := 12) (v := ?_) rfl (by kernel_rfl) (by kernel_rfl) (by kernel_rfl) (fun _ _ _ h => h) (Or.inl ⟨by rfl, ?_⟩) (by assumption) ?_
    rotate_left
    · (intro w hSw; (try dsimp only at hSw); (try simp only [List.getElem_toArray, List.getElem_cons_succ, List.getElem_cons_zero]); first | (go_simp; done) | (go_simp; with_reducible rfl))
    try simp only [Act.put, List.getElem_toArray, List.getElem_cons_succ, List.getElem_cons_zero, List.setIfInBounds_toArray, List.set_cons_zero, List.set_cons_succ]
    refine wpAnyH_take (i := 13) (v := ?_) rfl (by kernel_rfl) (by kernel_rfl) (by kernel_rfl) (fun _ _ _ h => h) (Or.inl ⟨by rfl, ?_⟩) (by assumption) ?_
    rotate_left
    · (intro w hSw; (try dsimp only at hSw); (try simp only [List.getElem_toArray, List.getElem_cons_succ, List.getElem_cons_zero]); first | (go_simp; done) | (go_simp; with_reducible rfl))
    try simp only [Act.put, List.getElem_toArray, List.getElem_cons_succ, List.getElem_cons_zero, List.setIfInBounds_toArray, List.set_cons_zero, List.set_cons_succ]
    refine wpAnyH_done (by kernel_rfl) ?_ _
    go_wp2_with fail
    go_ret
    exact ⟨rfl, hHeld.2.2.2.2.2⟩
set_option maxRecDepth 100000 in
set_option maxHeartbeats 2000000 in
theorem PointsFar_any (a b' : Int) (Ap : Option Addr) (cp : Nat) (ps : List (Int × Int)) (w : World) (hp : RC w w.heap.size Ap ps) (hpm : ps.length ≤ 1073741824) :
    Calls Try.prog 18 #[.slice Ap ps.length cp, .int .i64 a, .int .i64 b'] w fun e w' => e = .returned (.int .i64 (pointsFar ps a b')) ∧ Below w.heap.size w w' := by
  have HP := Lib.hid hp
  clear hp
  unfold pointsFar
  cases hok : pointsOk ps
  · have HOK := Lib.hid hok
    rw [Bool.false_and, if_neg (by simp)]
    clear hok
    go_enter Try.func18, Try.ntmps18
    go_wp2_with fail
    refine (PointsOk_any _ _ _ _ HP.out hpm).mono ?_; rintro e w1 ⟨rfl, hb1⟩
    rw [HOK.out]
    obtain ⟨hc1, hf1⟩ := bcell hb1
    have HK1 := Lib.hid hb1
    have HB1 := Lib.hid (bstep (B := w.heap.size) (W := w) (by (try have hp := HB0.out); go_grown) (by go_size) hb1); clear hb1
    go_wp2_with fail
    go_ret
    exact ⟨rfl, HB1.out⟩
  · have HOK := Lib.hid hok
    obtain ⟨hl1, hl6, hin⟩ := pointsOk_t hok
    have HIN := Lib.hid hin
    rw [Bool.true_and]
    clear hok hin
    cases ha : inB a 0 ((ps.length : Int) - 1)
    · have HA := Lib.hid ha
      rw [Bool.false_and, if_neg (by simp)]
      clear ha
      go_enter Try.func18, Try.ntmps18
      go_wp2_with fail
      refine (PointsOk_any _ _ _ _ HP.out hpm).mono ?_; rintro e w1 ⟨rfl, hb1⟩
      rw [HOK.out]
      obtain ⟨hc1, hf1⟩ := bcell hb1
      have HK1 := Lib.hid hb1
      have HB1 := Lib.hid (bstep (B := w.heap.size) (W := w) (by (try have hp := HB0.out); go_grown) (by go_size) hb1); clear hb1
      go_wp2_with fail
      refine (hasPoint_any _ _ _ _ _ hpm).mono ?_; rintro e w2 ⟨rfl, rfl⟩; rw [HA.out]
      go_wp2_with fail
      go_ret
      exact ⟨rfl, HB1.out⟩
    · have HA := Lib.hid ha
      obtain ⟨a0, a1⟩ := inB_t ha
      rw [Bool.true_and]
      clear ha
      cases hb : inB b' 0 ((ps.length : Int) - 1)
      · have HBB := Lib.hid hb
        rw [if_neg (by simp)]
        clear hb
        go_enter Try.func18, Try.ntmps18
        go_wp2_with fail
        refine (PointsOk_any _ _ _ _ HP.out hpm).mono ?_; rintro e w1 ⟨rfl, hb1⟩
        rw [HOK.out]
        obtain ⟨hc1, hf1⟩ := bcell hb1
        have HK1 := Lib.hid hb1
        have HB1 := Lib.hid (bstep (B := w.heap.size) (W := w) (by (try have hp := HB0.out); go_grown) (by go_size) hb1); clear hb1
        go_wp2_with fail
        refine (hasPoint_any _ _ _ _ _ hpm).mono ?_; rintro e w2 ⟨rfl, rfl⟩; rw [HA.out]
        go_wp2_with fail
        refine (hasPoint_any _ _ _ _ _ hpm).mono ?_; rintro e w2 ⟨rfl, rfl⟩; rw [HBB.out]
        go_wp2_with fail
        go_ret
        exact ⟨rfl, HB1.out⟩
      · have HBB := Lib.hid hb
        obtain ⟨b0, b1⟩ := inB_t hb
        rw [if_pos rfl]
        clear hb
        obtain ⟨ka, rfl⟩ : ∃ k : Nat, a = k := ⟨a.toNat, by omega⟩
        obtain ⟨kb, rfl⟩ : ∃ k : Nat, b' = k := ⟨b'.toNat, by omega⟩
        rw [Int.toNat_natCast, Int.toNat_natCast]
        have hpp := HIN.out _ (ptAt_mem (ps := ps) (k := ka) (by omega))
        have hqq := HIN.out _ (ptAt_mem (ps := ps) (k := kb) (by omega))
        have ka1 : (ka : Int) < (ps.length : Int) := by omega
        have kb1 : (kb : Int) < (ps.length : Int) := by omega
        have kal : ka < ps.length := by omega
        have kbl : kb < ps.length := by omega
        go_enter Try.func18, Try.ntmps18
        go_wp2_with fail
        refine (PointsOk_any _ _ _ _ HP.out hpm).mono ?_; rintro e w1 ⟨rfl, hb1⟩
        rw [HOK.out]
        obtain ⟨hc1, hf1⟩ := bcell hb1
        have HK1 := Lib.hid hb1
        have HB1 := Lib.hid (bstep (B := w.heap.size) (W := w) (by (try have hp := HB0.out); go_grown) (by go_size) hb1); clear hb1
        obtain ⟨b, o, rfl, hbw, c0, c1⟩ := (HP.out.later HB1.out).at2 kal
        obtain ⟨bb, oo, e9, -, d0, d1⟩ := (HP.out.later HB1.out).at2 kbl
        injection e9 with e9; injection e9 with e91 e92; subst e91; subst e92
        obtain ⟨⟨pa, pb⟩, hP⟩ : ∃ x, ptAt ps ka = x := ⟨_, rfl⟩
        obtain ⟨⟨qa, qb⟩, hQ⟩ : ∃ x, ptAt ps kb = x := ⟨_, rfl⟩
        rw [hP] at c0 c1 hpp
        rw [hQ] at d0 d1 hqq
        have HPE := Lib.hid hP
        have HQE := Lib.hid hQ
        simp only at c0 c1 d0 d1
        clear hP hQ hc1 hf1
        go_wp2_with fail
        refine (hasPoint_any _ _ _ _ _ hpm).mono ?_; rintro e w2 ⟨rfl, rfl⟩; rw [HA.out]
        go_wp2_with fail
        refine (hasPoint_any _ _ _ _ _ hpm).mono ?_; rintro e w2 ⟨rfl, rfl⟩; rw [HBB.out]
        go_wp2_with fail
        refine wp_region_held_drew (S := (fun w' => w'.cell? ⟨b, o + ka * 2, none⟩ = some (.int .i64 pa) ∧ w'.cell? ⟨b, o + ka * 2 + 1, none⟩ = some (.int .i64 pb) ∧ w'.cell? ⟨b, o + kb * 2, none⟩ = some (.int .i64 qa) ∧ w'.cell? ⟨b, o + kb * 2 + 1, none⟩ = some (.int .i64 qb))) (by kernel_rfl) ?_ (fun hHeld => ?_)
        · exact ⟨c0, c1, d0, d1⟩
        refine wpAnyH_take (i := 0) (v := ?_) rfl (by kernel_rfl) (by kernel_rfl) (by kernel_rfl) (fun _ _ _ h => h) (Or.inl ⟨by rfl, ?_⟩) (by assumption) ?_
        rotate_left
        · (intro w hSw; (try dsimp only at hSw); (try simp only [List.getElem_toArray, List.getElem_cons_succ, List.getElem_cons_zero]); first | (go_simp; done) | (go_simp; with_reducible rfl))
        try simp only [Act.put, List.getElem_toArray, List.getElem_cons_succ, List.getElem_cons_zero, List.setIfInBounds_toArray, List.set_cons_zero, List.set_cons_succ]
        refine wpAnyH_take (i := 1) (v := ?_) rfl (by kernel_rfl) (by kernel_rfl) (by kernel_rfl) (fun _ _ _ h => h) (Or.inl ⟨by rfl, ?_⟩) (by assumption) ?_
        rotate_left
        · (intro w hSw; (try dsimp only at hSw); (try simp only [List.getElem_toArray, List.getElem_cons_succ, List.getElem_cons_zero]); first | (go_simp; done) | (go_simp; with_reducible rfl))
        try simp only [Act.put, List.getElem_toArray, List.getElem_cons_succ, List.getElem_cons_zero, List.setIfInBounds_toArray, List.set_cons_zero, List.set_cons_succ]
        refine wpAnyH_take (i := 2) (v := ?_) rfl (by kernel_rfl) (by kernel_rfl) (by kernel_rfl) (fun _ _ _ h => h) (Or.inl ⟨by rfl, ?_⟩) (by assumption) ?_
        rotate_left
        · (intro w hSw; (try dsimp only at hSw); (try simp only [List.getElem_toArray, List.getElem_cons_succ, List.getElem_cons_zero]); first | (go_simp; done) | (go_simp; with_reducible rfl))
        try simp only [Act.put, List.getElem_toArray, List.getElem_cons_succ, List.getElem_cons_zero, List.setIfInBounds_toArray, List.set_cons_zero, List.set_cons_succ]
        refine wpAnyH_take (i := 3) (v := ?_) rfl (by kernel_rfl) (by kernel_rfl) (by kernel_rfl) (fun _ _ _ h => h) (Or.inl ⟨by rfl, ?_⟩) (by assumption) ?_
        rotate_left
        · (intro w hSw; (try dsimp only at hSw); (try simp only [List.getElem_toArray, List.getElem_cons_succ, List.getElem_cons_zero]); first | (go_simp; done) | (go_simp; with_reducible rfl))
        try simp only [Act.put, List.getElem_toArray, List.getElem_cons_succ, List.getElem_cons_zero, List.setIfInBounds_toArray, List.set_cons_zero, List.set_cons_succ]
        refine wpAnyH_take (i := 4) (v := ?_) rfl (by kernel_rfl) (by kernel_rfl) (by kernel_rfl) (fun _ _ _ h => h) (Or.inl ⟨by rfl, ?_⟩) (by assumption) ?_
        rotate_left
        · (intro w hSw; (try dsimp only at hSw); (try simp only [List.getElem_toArray, List.getElem_cons_succ, List.getElem_cons_zero]); first | (go_simp; done) | (go_simp; with_reducible rfl))
        try simp only [Act.put, List.getElem_toArray, List.getElem_cons_succ, List.getElem_cons_zero, List.setIfInBounds_toArray, List.set_cons_zero, List.set_cons_succ]
        refine wpAnyH_take (i := 5) (v := ?_) rfl (by kernel_rfl) (by kernel_rfl) (by kernel_rfl) (fun _ _ _ h => h) (Or.inl ⟨by rfl, ?_⟩) (by assumption) ?_
        rotate_left
        · (intro w hSw; (try dsimp only at hSw); (try simp only [List.getElem_toArray, List.getElem_cons_succ, List.getElem_cons_zero]); first | (go_simp; done) | (go_simp; with_reducible rfl))
        try simp only [Act.put, List.getElem_toArray, List.getElem_cons_succ, List.getElem_cons_zero, List.setIfInBounds_toArray, List.set_cons_zero, List.set_cons_succ]
        refine wpAnyH_take (i := 6) (v := ?_) rfl (by kernel_rfl) (by kernel_rfl) (by kernel_rfl) (fun _ _ _ h => h) (Or.inl ⟨by rfl, ?_⟩) (by assumption) ?_
        rotate_left
        · (intro w hSw; (try dsimp only at hSw); (try simp only [List.getElem_toArray, List.getElem_cons_succ, List.getElem_cons_zero]); first | (go_simp; done) | (go_simp; with_reducible rfl))
        try simp only [Act.put, List.getElem_toArray, List.getElem_cons_succ, List.getElem_cons_zero, List.setIfInBounds_toArray, List.set_cons_zero, List.set_cons_succ]
        refine wpAnyH_take (i := 7) (v := ?_) rfl (by kernel_rfl) (by kernel_rfl) (by kernel_rfl) (fun _ _ _ h => h) (Or.inl ⟨by rfl, ?_⟩) (by assumption) ?_
        rotate_left
        · (intro w hSw; (try dsimp only at hSw); (try simp only [List.getElem_toArray, List.getElem_cons_succ, List.getElem_cons_zero]); first | (go_simp; done) | (go_simp; with_reducible rfl))
        try simp only [Act.put, List.getElem_toArray, List.getElem_cons_succ, List.getElem_cons_zero, List.setIfInBounds_toArray, List.set_cons_zero, List.set_cons_succ]
        refine wpAnyH_ready (rs := [8]) (by kernel_rfl) (by simp) ?_
        refine AllReadyH.cons rfl (fun K hK => ?_) AllReadyH.nil
        try simp only [List.getElem_toArray, List.getElem_cons_succ, List.getElem_cons_zero]
        go_simp
        go_at_call 41; refine (apart_any (pa, pb) (qa, qb) hpp hqq _).mono ?_; rintro e8 w8 ⟨rfl, hb8⟩; have g8 : Below w1.heap.size w1 w8 := und hb8
        refine hK.out _ _ ?_ (fun hHeld => ?_)
        · exact ⟨(g8.cell (p := ⟨b, o + ka * 2, none⟩) hbw).trans c0, (g8.cell (p := ⟨b, o + ka * 2 + 1, none⟩) hbw).trans c1, (g8.cell (p := ⟨b, o + kb * 2, none⟩) hbw).trans d0, (g8.cell (p := ⟨b, o + kb * 2 + 1, none⟩) hbw).trans d1⟩
        clear hK K
        try simp only [Act.put, List.getElem_toArray, List.getElem_cons_succ, List.getElem_cons_zero, List.setIfInBounds_toArray, List.set_cons_zero, List.set_cons_succ]
        refine wpAnyH_take (i := 9) (v := ?_) rfl (by kernel_rfl) (by kernel_rfl) (by kernel_rfl) (fun _ _ _ h => h) (Or.inl ⟨by rfl, ?_⟩) (by assumption) ?_
        rotate_left
        · (intro w hSw; (try dsimp only at hSw); (try simp only [List.getElem_toArray, List.getElem_cons_succ, List.getElem_cons_zero]); first | (go_simp; done) | (go_simp; with_reducible rfl))
        try simp only [Act.put, List.getElem_toArray, List.getElem_cons_succ, List.getElem_cons_zero, List.setIfInBounds_toArray, List.set_cons_zero, List.set_cons_succ]
        refine wpAnyH_done (by kernel_rfl) ?_ _
        have HB9 := Lib.hid (bstep (B := w.heap.size) (W := w) HB1.out HB1.out.size g8)
        go_wp2_with fail
        go_ret
        exact ⟨ret_int (by rw [HPE.out, HQE.out]), ⟨HB9.out.os, HB9.out.tape, HB9.out.output, HB9.out.size, HB9.out.block⟩⟩
set_option maxRecDepth 100000 in
set_option maxHeartbeats 4000000 in
theorem MiddleOf_any (Ap : Option Addr) (cp : Nat) (ps : List (Int × Int)) (w : World) (hp : RC w w.heap.size Ap ps) (hpm : ps.length ≤ 1073741824) :
    Calls Try.prog 25 #[.slice Ap ps.length cp] w fun e w' => e = .returned (.tuple #[.agg #[.int .i64 (middleOf ps).1, .int .i64 (middleOf ps).2], .bool (middleOk ps)]) ∧ Below w.heap.size w w' := by
  have HP := Lib.hid hp
  clear hp
  have fin2 : ∀ (W : World) (u v : Value), W.heap[w.heap.size]? = some (.cells #[.int .i64 0, .int .i64 0] 27 (0, 0)) → ((W.setCell ⟨w.heap.size, 0, none⟩ u).setCell ⟨w.heap.size, 1, none⟩ v).cell? ⟨w.heap.size, 0, none⟩ = some u ∧ ((W.setCell ⟨w.heap.size, 0, none⟩ u).setCell ⟨w.heap.size, 1, none⟩ v).cell? ⟨w.heap.size, 1, none⟩ = some v := fun W u v h => two_cells h
  cases hok : middleOk ps
  · have hmo : middleOf ps = (0, 0) := by unfold middleOf; rw [hok]; rfl
    rw [hmo]
    simp only
    have go : ∀ (w1 : World), Below (w.heap.size + 1) (w.alloc (.cells #[.int .i64 0, .int .i64 0] 27)) w1 → w1.heap[w.heap.size]? = some (.cells #[.int .i64 0, .int .i64 0] 27 (0, 0)) := fun w1 h => (h.block w.heap.size (by omega)).trans (heap_alloc_new w _)
    by_cases hl3 : ps.length = 3
    · have hpo : pointsOk ps = false := by
        cases h : pointsOk ps
        · rfl
        · unfold middleOk at hok; rw [h, decide_eq_true hl3] at hok; cases hok
      have HPO := Lib.hid hpo
      have hl3i : ((ps.length : Int) != 3) = false := by rw [bne_eq_false_iff_eq]; omega
      obtain ⟨L, hL⟩ : ∃ L, ps.length = L := ⟨_, rfl⟩
      have HPL : Hid (∀ W : World, RC W W.heap.size Ap ps → Calls Try.prog 15 #[.slice Ap L cp] W fun e w' => e = .returned (.bool false) ∧ Below W.heap.size W w') := fun W h => by
        have h9 := PointsOk_any Ap cp ps W h hpm
        rw [hL, hpo] at h9
        exact h9
      rw [hL] at hl3 ⊢
      subst hl3
      clear hok hpo hmo hl3i hL HPO
      go_enter Try.func25, Try.ntmps25
      go_wp2_with fail
      refine (HPL.out _ (HP.out.later (by go_grown))).mono ?_; rintro e w1 ⟨rfl, hb1⟩
      have hbk := go w1 (by rw [World.size_alloc] at hb1; exact hb1)
      have HB1 := Lib.hid (bstep (B := w.heap.size) (W := w) (by go_grown) (by go_size) hb1)
      have x0 := cell_of_row _ _ 0 _ _ (0, 0) hbk
      have x1 := cell_of_row _ _ 1 _ _ (0, 0) hbk
      have x2 : w1.frozen? ⟨w.heap.size, 0, none⟩ = false := by simp [World.frozen?, hbk]
      have x3 : w1.frozen? ⟨w.heap.size, 1, none⟩ = false := by simp [World.frozen?, hbk]
      have TT := Lib.hid (fin2 w1 (.int .i64 0) (.int .i64 0) hbk)
      clear hb1 hbk
      go_wp2_with fail
      obtain ⟨t0, t1⟩ := TT.out
      refine bodyPost_ret (v := .tuple #[.agg #[.int .i64 0, .int .i64 0], .bool false]) (by simp [results, Try.results25, go_sem, t0, t1]) rfl ?_
      exact ⟨rfl, (HB1.out.setCell (p := ⟨w.heap.size, 0, none⟩) (Nat.le_refl _) _).setCell (p := ⟨w.heap.size, 1, none⟩) (Nat.le_refl _) _⟩
    · have hl3i : ((ps.length : Int) != 3) = true := by rw [bne_iff_ne]; omega
      have hbk0 : (w.alloc (.cells #[.int .i64 0, .int .i64 0] 27)).heap[w.heap.size]? = some (.cells #[.int .i64 0, .int .i64 0] 27 (0, 0)) := heap_alloc_new w _
      have TT := Lib.hid (fin2 _ (.int .i64 0) (.int .i64 0) hbk0)
      clear hok hmo hl3 hbk0
      go_enter Try.func25, Try.ntmps25
      go_wp2_with fail
      refine bodyPost_ret (v := .tuple #[.agg #[.int .i64 0, .int .i64 0], .bool false]) (by obtain ⟨t0, t1⟩ := TT.out; simp [results, Try.results25, go_sem]) rfl ?_
      exact ⟨rfl, by go_grown⟩
  · obtain ⟨hpo, hl3, hmo, -⟩ := middle_t hok
    have HPO := Lib.hid hpo
    have HMO : Hid (middleOf ps = (mid3 (ptAt ps 0).1 (ptAt ps 1).1 (ptAt ps 2).1, mid3 (ptAt ps 0).2 (ptAt ps 1).2 (ptAt ps 2).2)) := hmo
    obtain ⟨⟨xa, xb⟩, hX⟩ : ∃ x, ptAt ps 0 = x := ⟨_, rfl⟩
    obtain ⟨⟨ya, yb⟩, hY⟩ : ∃ x, ptAt ps 1 = x := ⟨_, rfl⟩
    obtain ⟨⟨za, zb⟩, hZ⟩ : ∃ x, ptAt ps 2 = x := ⟨_, rfl⟩
    rw [hX, hY, hZ] at HMO
    rw [HMO.out]
    simp only
    have hps := three hl3
    rw [hX, hY, hZ] at hps
    have hm1 : ps.map Prod.fst = [xa, ya, za] := by rw [hps]; rfl
    have hm2 : ps.map Prod.snd = [xb, yb, zb] := by rw [hps]; rfl
    obtain ⟨L, hL⟩ : ∃ L, ps.length = L := ⟨_, rfl⟩
    have HPL : Hid (∀ W : World, RC W W.heap.size Ap ps → Calls Try.prog 15 #[.slice Ap L cp] W fun e w' => e = .returned (.bool true) ∧ Below W.heap.size W w') := fun W h => by
      have h9 := PointsOk_any Ap cp ps W h hpm
      rw [hL, hpo] at h9
      exact h9
    have HR1 : Hid (∀ W : World, RC W W.heap.size Ap ps → Calls Try.prog 45 #[.slice Ap L cp] W fun e w' => ∃ b, W.heap.size ≤ b ∧ e = .returned (.slice (some ⟨b, 0, none⟩) L L) ∧ Row1 w' b 3 [xa, ya, za] L ∧ Below W.heap.size W w') := fun W h => by
      have h9 := rowsOf_any Ap cp ps W h (by omega)
      rw [hm1, hL] at h9
      exact h9
    have HR2 : Hid (∀ W : World, RC W W.heap.size Ap ps → Calls Try.prog 46 #[.slice Ap L cp] W fun e w' => ∃ b, W.heap.size ≤ b ∧ e = .returned (.slice (some ⟨b, 0, none⟩) L L) ∧ Row1 w' b 3 [xb, yb, zb] L ∧ Below W.heap.size W w') := fun W h => by
      have h9 := columnsOf_any Ap cp ps W h (by omega)
      rw [hm2, hL] at h9
      exact h9
    rw [hL] at hl3 ⊢
    subst hl3
    clear hok hpo hmo hX hY hZ hL hps hm1 hm2 HPO
    go_enter Try.func25, Try.ntmps25
    go_wp2_with fail
    refine (HPL.out _ (HP.out.later (by go_grown))).mono ?_; rintro e w1 ⟨rfl, hb1⟩
    have hbk : w1.heap[w.heap.size]? = some (.cells #[.int .i64 0, .int .i64 0] 27 (0, 0)) := (hb1.block w.heap.size (by simp)).trans (heap_alloc_new w _)
    have hs1 : w.heap.size < w1.heap.size := by have := hb1.size; simp at this; omega
    have HB1 := Lib.hid (bstep (B := w.heap.size) (W := w) (by go_grown) (by go_size) hb1)
    have HK1 := Lib.hid hbk
    clear hb1 hbk
    go_wp2_with fail
    refine (HR1.out _ (HP.out.later HB1.out)).mono ?_; rintro e w2 ⟨b2, hlo2, rfl, hrow2, hb2⟩
    have HROW2 := Lib.hid hrow2.three
    have HK2 := Lib.hid ((hb2.block w.heap.size hs1).trans HK1.out)
    have hs2 : w.heap.size < w2.heap.size := by have := hb2.size; omega
    have HB2 := Lib.hid (bstep (B := w.heap.size) (W := w) HB1.out (by omega) hb2)
    clear hb2 hrow2
    go_wp2_with fail
    refine (middle_any xa ya za b2 3 3 (w.heap.size + 1) _ HROW2.out (by omega) (by omega)).mono ?_; rintro e w3 ⟨rfl, hb3⟩
    have HK3 := Lib.hid ((hb3.block w.heap.size (by omega)).trans HK2.out)
    have hs3 : w.heap.size < w3.heap.size := by have := hb3.size; omega
    have HB3 := Lib.hid (HB2.out.trans (hb3.mono (Nat.le_succ _)))
    clear hb3
    go_wp2_with fail
    refine (HR2.out _ (HP.out.later HB3.out)).mono ?_; rintro e w4 ⟨b4, hlo4, rfl, hrow4, hb4⟩
    have HROW4 := Lib.hid hrow4.three
    have HK4 := Lib.hid ((hb4.block w.heap.size hs3).trans HK3.out)
    have hs4 : w.heap.size < w4.heap.size := by have := hb4.size; omega
    have HB4 := Lib.hid (bstep (B := w.heap.size) (W := w) HB3.out (by omega) hb4)
    clear hb4 hrow4
    go_wp2_with fail
    refine (middle_any xb yb zb b4 3 3 (w.heap.size + 1) _ HROW4.out (by omega) (by omega)).mono ?_; rintro e w5 ⟨rfl, hb5⟩
    have hbk := (hb5.block w.heap.size (by omega)).trans HK4.out
    have HB5 := Lib.hid (HB4.out.trans (hb5.mono (Nat.le_succ _)))
    have x0 := cell_of_row _ _ 0 _ _ (0, 0) hbk
    have x1 := cell_of_row _ _ 1 _ _ (0, 0) hbk
    have x2 : w5.frozen? ⟨w.heap.size, 0, none⟩ = false := by simp [World.frozen?, hbk]
    have x3 : w5.frozen? ⟨w.heap.size, 1, none⟩ = false := by simp [World.frozen?, hbk]
    have TT := Lib.hid (fin2 w5 (.int .i64 (mid3 xa ya za)) (.int .i64 (mid3 xb yb zb)) hbk)
    clear hb5 hbk
    go_wp2_with fail
    obtain ⟨t0, t1⟩ := TT.out
    refine bodyPost_ret (v := .tuple #[.agg #[.int .i64 (mid3 xa ya za), .int .i64 (mid3 xb yb zb)], .bool true]) (by simp [results, Try.results25, go_sem, t0, t1]) rfl ?_
    exact ⟨rfl, (HB5.out.setCell (p := ⟨w.heap.size, 0, none⟩) (Nat.le_refl _) _).setCell (p := ⟨w.heap.size, 1, none⟩) (Nat.le_refl _) _⟩
set_option maxRecDepth 100000 in
set_option maxHeartbeats 2000000 in
theorem MeetCost_any (qa qb : Int) (Ap : Option Addr) (cp : Nat) (ps : List (Int × Int)) (w : World) (hp : RC w w.heap.size Ap ps) (hpm : ps.length ≤ 1073741824) :
    Calls Try.prog 27 #[.slice Ap ps.length cp, .agg #[.int .i64 qa, .int .i64 qb]] w fun e w' => e = .returned (.int .i64 (meetCost ps (qa, qb))) ∧ Below w.heap.size w w' := by
  have HP := Lib.hid hp
  clear hp
  unfold meetCost
  cases hok : pointsOk ps
  · have HOK := Lib.hid hok
    rw [Bool.false_and, if_neg (by simp)]
    clear hok
    go_enter Try.func27, Try.ntmps27
    go_wp2_with fail
    refine (PointsOk_any _ _ _ _ (HP.out.later (by go_grown)) hpm).mono ?_; rintro e w1 ⟨rfl, hb1⟩
    rw [HOK.out]
    obtain ⟨hc1, hf1⟩ := bcell hb1
    have hz1_0 : w.heap.size < w1.heap.size := by have hq := hb1.size; (try simp at hq); omega
    have HK1 := Lib.hid hb1
    have HB1 := Lib.hid (bstep (B := w.heap.size) (W := w) (by (try have hp := HB0.out); go_grown) (by go_size) hb1); clear hb1
    go_wp2_with fail
    go_ret
    exact ⟨rfl, HB1.out⟩
  · have HOK := Lib.hid hok
    obtain ⟨hl1, hl6, hin⟩ := pointsOk_t hok
    have HIN := Lib.hid hin
    rw [Bool.true_and]
    clear hok hin
    cases ha : ptIn (qa, qb)
    · have HA := Lib.hid ha
      rw [if_neg (by simp)]
      clear ha
      go_enter Try.func27, Try.ntmps27
      go_wp2_with fail
      refine (PointsOk_any _ _ _ _ (HP.out.later (by go_grown)) hpm).mono ?_; rintro e w1 ⟨rfl, hb1⟩
      rw [HOK.out]
      obtain ⟨hc1, hf1⟩ := bcell hb1
      have hz1_0 : w.heap.size < w1.heap.size := by have hq := hb1.size; (try simp at hq); omega
      have HK1 := Lib.hid hb1
      have HB1 := Lib.hid (bstep (B := w.heap.size) (W := w) (by (try have hp := HB0.out); go_grown) (by go_size) hb1); clear hb1
      have k10 : w1.cell? ⟨w.heap.size, 0, none⟩ = some (.int .i64 qa) ∧ w1.cell? ⟨w.heap.size, 1, none⟩ = some (.int .i64 qb) := ⟨by go_simp, by go_simp⟩
      obtain ⟨k10, k11⟩ := k10
      clear hc1 hf1
      go_wp2_with fail
      refine (onGrid_any (qa, qb) _).mono ?_; rintro e w2 ⟨rfl, hb2⟩
      rw [HA.out]
      obtain ⟨hc2, hf2⟩ := bcell hb2
      have hz2_0 : w.heap.size < w2.heap.size := by have hq := hb2.size; (try simp at hq); omega
      have HK2 := Lib.hid hb2
      have HB2 := Lib.hid (bstep (B := w.heap.size) (W := w) (by have hp := HB1.out; go_grown) (by go_size) hb2); clear hb2
      go_wp2_with fail
      go_ret
      exact ⟨rfl, HB2.out⟩
    · have HA := Lib.hid ha
      have hqq := ptIn_t ha
      simp only at hqq
      rw [if_pos rfl]
      clear ha
      go_enter Try.func27, Try.ntmps27
      go_wp2_with fail
      refine (PointsOk_any _ _ _ _ (HP.out.later (by go_grown)) hpm).mono ?_; rintro e w1 ⟨rfl, hb1⟩
      rw [HOK.out]
      obtain ⟨hc1, hf1⟩ := bcell hb1
      have hz1_0 : w.heap.size < w1.heap.size := by have hq := hb1.size; (try simp at hq); omega
      have HK1 := Lib.hid hb1
      have HB1 := Lib.hid (bstep (B := w.heap.size) (W := w) (by (try have hp := HB0.out); go_grown) (by go_size) hb1); clear hb1
      have k10 : w1.cell? ⟨w.heap.size, 0, none⟩ = some (.int .i64 qa) ∧ w1.cell? ⟨w.heap.size, 1, none⟩ = some (.int .i64 qb) := ⟨by go_simp, by go_simp⟩
      obtain ⟨k10, k11⟩ := k10
      clear hc1 hf1
      go_wp2_with fail
      refine (onGrid_any (qa, qb) _).mono ?_; rintro e w2 ⟨rfl, hb2⟩
      rw [HA.out]
      obtain ⟨hc2, hf2⟩ := bcell hb2
      have hz2_0 : w.heap.size < w2.heap.size := by have hq := hb2.size; (try simp at hq); omega
      have HK2 := Lib.hid hb2
      have HB2 := Lib.hid (bstep (B := w.heap.size) (W := w) (by have hp := HB1.out; go_grown) (by go_size) hb2); clear hb2
      have k20 : w2.cell? ⟨w.heap.size, 0, none⟩ = some (.int .i64 qa) ∧ w2.cell? ⟨w.heap.size, 1, none⟩ = some (.int .i64 qb) := ⟨by go_simp, by go_simp⟩
      obtain ⟨k20, k21⟩ := k20
      clear hc2 hf2 k10 k11
      go_wp2_with fail
      go_loopw [5, 18] (fun c i wr => ∃ k : Nat, k ≤ ps.length ∧ i = .int .i64 k ∧ c = .int .i64 (sumA (qa, qb) (ps.take k)) ∧ wr.cell? ⟨w.heap.size, 0, none⟩ = some (.int .i64 qa) ∧ wr.cell? ⟨w.heap.size, 1, none⟩ = some (.int .i64 qb) ∧ Below w.heap.size w wr ∧ w.heap.size < wr.heap.size) (fun _ i _ => ps.length - (intOf i).toNat)
      case atStart => exact ⟨0, Nat.zero_le _, rfl, rfl, k20, k21, HB2.out, hz2_0⟩
      case round =>
        clear k20 k21 HB1 HK1 HB2 HK2
        obtain ⟨k, hk, rfl, rfl, b0, b1, hb, hz⟩ := hrel
        have HB0 := Lib.hid hb
        have k0 : (0 : Int) ≤ (k : Int) := by omega
        by_cases hlk : k < ps.length
        · obtain ⟨⟨pa, pb⟩, hx⟩ : ∃ x, ps[k]? = some x := ⟨_, List.getElem?_eq_getElem hlk⟩
          obtain ⟨b, o, rfl, hB, c0, c1⟩ := (HP.out.below hb) k _ hx
          simp only at c0 c1
          have k1 : (k : Int) < (ps.length : Int) := by omega
          have hbw : b < wr.heap.size := by omega
          have hpp := HIN.out (pa, pb) (List.mem_of_getElem? hx)
          have HSU := Lib.hid (sumA_take (q := (qa, qb)) hx)
          have hsb := sumA_bd (q := (qa, qb)) hqq (ps := ps.take k) (fun p hp => HIN.out p (List.mem_of_mem_take hp))
          have hlt : (ps.take k).length = k := by rw [List.length_take]; omega
          rw [hlt] at hsb
          have hab := apart_bd (q := (qa, qb)) hpp hqq
          have hnn := apart_nn (pa, pb) (qa, qb)
          have HCA : Hid (∀ W : World, Calls Try.prog 41 #[.agg #[.int .i64 pa, .int .i64 pb], .agg #[.int .i64 qa, .int .i64 qb]] W fun e w' => e = .returned (.int .i64 (apart (pa, pb) (qa, qb))) ∧ Below W.heap.size W w') := fun W => apart_any (pa, pb) (qa, qb) hpp hqq W
          obtain ⟨AA, hAA⟩ : ∃ x, apart (pa, pb) (qa, qb) = x := ⟨_, rfl⟩
          obtain ⟨SM, hSM⟩ : ∃ x, sumA (qa, qb) (ps.take k) = x := ⟨_, rfl⟩
          rw [hAA] at hab hnn HSU HCA
          rw [hSM] at hsb HSU ⊢
          have HV1 : Hid (IntKind.i64.wrap (SM + AA) = SM + AA) := IntWalk.i64_in _ ⟨by omega, by omega⟩
          have HV2 : Hid (wrap64 (SM + AA) = SM + AA) := IntWalk.wrap64_in _ ⟨by omega, by omega⟩
          clear hx hb hsb hlt hab hnn hAA hSM
          go_wp2_with fail
          refine (HCA.out _).mono ?_; rintro e w1 ⟨rfl, hb1⟩
          obtain ⟨hc1, hf1⟩ := bcell hb1
          have hz1_0 : w.heap.size < w1.heap.size := by have hq := hb1.size; (try simp at hq); omega
          have HK1 := Lib.hid hb1
          have HB1 := Lib.hid (bstep (B := w.heap.size) (W := w) (by (try have hp := HB0.out); go_grown) (by go_size) hb1); clear hb1
          have k30 : w1.cell? ⟨w.heap.size, 0, none⟩ = some (.int .i64 qa) ∧ w1.cell? ⟨w.heap.size, 1, none⟩ = some (.int .i64 qb) := ⟨by go_simp, by go_simp⟩
          clear hc1 hf1
          have hv1 := HV1.out
          have hv2 := HV2.out
          go_wp2_with fail
          clear hv1 hv2
          go_roundw
          case rel => exact ⟨k + 1, by omega, by go_num, by rw [HSU.out], k30.1, k30.2, HB1.out, hz1_0⟩
          case measure => (simp [intOf]) <;> omega
        · obtain rfl : k = ps.length := by omega
          rw [List.take_length]
          clear hb
          go_wp2_with fail
          go_ret
          exact ⟨rfl, HB0.out⟩
end Go.Proofs.Ytgnjjiljipgbnaa
