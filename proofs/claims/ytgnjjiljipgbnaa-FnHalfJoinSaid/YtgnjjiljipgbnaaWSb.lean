/- The draws of chapter 10's points. -/
import Derived.Test.YtgnjjiljipgbnaaWSa
set_option linter.unusedSimpArgs false
set_option linter.unusedVariables false
attribute [local go_sem ↓] Go.wp_at_zero Go.wp_at_succ
namespace Go.Proofs.Ytgnjjiljipgbnaa
open Go.ChangeShapes Go.WideShapes Go.ChangeAt Go.RowKit

/-- some points -/
def DrawnPo (w : World) (e : Ending) (w' : World) : Prop :=
  ∃ (bc cc : Nat) (ps : List (Int × Int)), e = .returned (.slice (some ⟨bc, 0, none⟩) ps.length cc) ∧ RC w' w'.heap.size (some ⟨bc, 0, none⟩) ps ∧ ps.length ≤ 12 ∧ ps.length ≤ cc ∧ Below w.heap.size w w'
/-- some points, two numbers -/
def DrawnPoNN (w : World) (e : Ending) (w' : World) : Prop :=
  ∃ (bc cc : Nat) (ps : List (Int × Int)) (a b : Int), e = .returned (.tuple #[.slice (some ⟨bc, 0, none⟩) ps.length cc, .int .i64 a, .int .i64 b]) ∧ RC w' w'.heap.size (some ⟨bc, 0, none⟩) ps ∧ ps.length ≤ 12 ∧ ps.length ≤ cc ∧ -100 ≤ a ∧ a ≤ 100 ∧ -100 ≤ b ∧ b ≤ 100 ∧ Below w.heap.size w w'
/-- some points, a point -/
def DrawnPoP (w : World) (e : Ending) (w' : World) : Prop :=
  ∃ (bc cc : Nat) (ps : List (Int × Int)) (a b : Int), e = .returned (.tuple #[.slice (some ⟨bc, 0, none⟩) ps.length cc, .agg #[.int .i64 a, .int .i64 b]]) ∧ RC w' w'.heap.size (some ⟨bc, 0, none⟩) ps ∧ ps.length ≤ 12 ∧ ps.length ≤ cc ∧ -100 ≤ a ∧ a ≤ 100 ∧ -100 ≤ b ∧ b ≤ 100 ∧ Below w.heap.size w w'
theorem rc_grown {W W2 : World} {B g bc : Nat} {pz : List (Int × Int)} (h : RC W B (some ⟨bc, 0, none⟩) pz) (hg : W.grownBy W2 (some g)) (hgb : g < bc) (hB : B ≤ W.heap.size) : RC W2 W2.heap.size (some ⟨bc, 0, none⟩) pz := by
  intro i x hx
  obtain ⟨b9, o9, e9, hb9, c0, c1⟩ := h i x hx
  injection e9 with e9; injection e9 with e91 e92; subst e91; subst e92
  have hk : W2.heap[bc]? = W.heap[bc]? := hg.block bc (by omega) (by intro e; injection e; omega)
  exact ⟨bc, 0, rfl, by have := hg.size; omega, (World.cell?_of_block (w := W) hk).trans c0, (World.cell?_of_block (w := W) hk).trans c1⟩
set_option maxHeartbeats 1000000 in
theorem DrawPointsOk_any (A : Option Addr) (len cap : Nat) (w : World) (hr : RB w w.heap.size A len) (hc : len ≤ cap) (hl : len ≤ 1048576) :
    Calls Try.prog 14 #[.slice A len cap] w (DrawnPo w) := by
  go_enter Try.func14, Try.ntmps14
  go_wp2_with fail
  refine (openE A len cap _ hr hc hl).mono ?_
  rintro e wo ⟨l1, rfl, hr1, hb1⟩
  have hzo : w.heap.size < wo.heap.size := hr1.lt
  have HB1 := Lib.hid hb1
  clear hb1
  go_wp2_with fail
  refine (l20Points_any _ A l1 cap 0 2 _ hr1 (by omega) (by omega) (by omega)).mono ?_
  rintro e w1 ⟨bc, cc, ps, rfl, hrc, hbc, hl12, hcc, hr2, hg2⟩
  have HBD := Lib.hid (below_of_only HB1.out hg2 (Nat.le_refl _))
  have HRC := Lib.hid hrc
  clear hr1 hr2 hg2 hrc
  go_wp2_with fail
  go_ret
  exact ⟨bc, cc, ps, rfl, HRC.out, hl12, hcc, HBD.out⟩
set_option maxHeartbeats 1000000 in
theorem DrawHalfRound_any (A : Option Addr) (len cap : Nat) (w : World) (hr : RB w w.heap.size A len) (hc : len ≤ cap) (hl : len ≤ 1048576) :
    Calls Try.prog 22 #[.slice A len cap] w (DrawnPo w) := by
  go_enter Try.func22, Try.ntmps22
  go_wp2_with fail
  refine (openE A len cap _ hr hc hl).mono ?_
  rintro e wo ⟨l1, rfl, hr1, hb1⟩
  have hzo : w.heap.size < wo.heap.size := hr1.lt
  have HB1 := Lib.hid hb1
  clear hb1
  go_wp2_with fail
  refine (l20Points_any _ A l1 cap 0 9 _ hr1 (by omega) (by omega) (by omega)).mono ?_
  rintro e w1 ⟨bc, cc, ps, rfl, hrc, hbc, hl12, hcc, hr2, hg2⟩
  have HBD := Lib.hid (below_of_only HB1.out hg2 (Nat.le_refl _))
  have HRC := Lib.hid hrc
  clear hr1 hr2 hg2 hrc
  go_wp2_with fail
  go_ret
  exact ⟨bc, cc, ps, rfl, HRC.out, hl12, hcc, HBD.out⟩
set_option maxRecDepth 100000 in
set_option maxHeartbeats 4000000 in
theorem DrawPointsFar_any (A : Option Addr) (len cap : Nat) (w : World) (hr : RB w w.heap.size A len) (hc : len ≤ cap) (hl : len ≤ 1048576) :
    Calls Try.prog 17 #[.slice A len cap] w (DrawnPoNN w) := by
  go_enter Try.func17, Try.ntmps17
  go_wp2_with fail
  refine (openE A len cap _ hr hc hl).mono ?_
  rintro e wo ⟨l1, rfl, hr1, hb1⟩
  have hzo : w.heap.size < wo.heap.size := hr1.lt
  have HB1 := Lib.hid hb1
  obtain ⟨g, hg⟩ : ∃ g, w.heap.size = g := ⟨_, rfl⟩
  rw [hg] at hr1 hzo
  clear hb1
  go_wp2_with fail
  refine (l20Points_any g A l1 cap 0 12 _ hr1 (by omega) (by omega) (by omega)).mono ?_
  rintro e w1 ⟨bc, cc, ps, rfl, hrc, hbc, hl12, hcc, hr2, hg2⟩
  have hs1 : wo.heap.size ≤ w1.heap.size := hg2.size
  have HBD := Lib.hid (below_of_only HB1.out hg2 (by omega))
  have HRC := Lib.hid hrc
  have HR1 := Lib.hid hr2
  clear hr1 hg2 hrc hr2
  obtain ⟨M, hM⟩ : ∃ M : Int, max (ps.length : Int) 1 = M := ⟨_, rfl⟩
  have hM0 : 0 < M := by omega
  have hM1 : M ≤ 12 := by omega
  have x1 : (if (ps.length : Int) < 1 then (1 : Int) else ps.length) = M := by rw [← hM]; split <;> omega
  have x2 : (if (1 : Int) < ps.length then (ps.length : Int) else 1) = M := by rw [← hM]; split <;> omega
  have x3 : (if (ps.length : Int) ≤ 1 then (1 : Int) else ps.length) = M := by rw [← hM]; split <;> omega
  have x4 : (if (1 : Int) ≤ ps.length then (ps.length : Int) else 1) = M := by rw [← hM]; split <;> omega
  go_wp2_with fail
  refine (pickE g A l1 cap _ (M) _ HR1.out (by omega) (by omega)).mono ?_; rintro e2 w2 ⟨q2, rfl, hq20, hq21, hr2, hg2, -⟩
  have hq22 := hq21 (by omega)
  have hz2 : w1.heap.size ≤ w2.heap.size := hg2.size
  have HR2 := Lib.hid hr2
  have HC2 := Lib.hid (rc_grown HRC.out hg2 (by omega) (Nat.le_refl _))
  have HB2 := Lib.hid (below_of_only HBD.out hg2 (by omega))
  clear hq21 hr2 hg2
  go_wp2_with fail
  refine (pickE g A l1 cap _ (40) _ HR2.out (by omega) (by omega)).mono ?_; rintro e3 w3 ⟨q3, rfl, hq30, hq31, hr3, hg3, -⟩
  have hq32 := hq31 (by omega)
  have hz3 : w2.heap.size ≤ w3.heap.size := hg3.size
  have HR3 := Lib.hid hr3
  have HC3 := Lib.hid (rc_grown HC2.out hg3 (by omega) (Nat.le_refl _))
  have HB3 := Lib.hid (below_of_only HB2.out hg3 (by omega))
  clear hq31 hr3 hg3
  obtain ⟨t3, ht3⟩ : ∃ t : Int, q3.tdiv 39 = t := ⟨_, rfl⟩
  have ht30 : 0 ≤ t3 ∧ t3 ≤ 1 := by rw [← ht3, Int.tdiv_eq_ediv_of_nonneg (by omega)]; omega
  have u3a : IntKind.i64.wrap (q3.tdiv 39) = t3 := by rw [ht3]; exact IntWalk.i64_in _ ⟨by omega, by omega⟩
  have u3b : wrap64 (q3.tdiv 39) = t3 := by rw [ht3]; exact IntWalk.wrap64_in _ ⟨by omega, by omega⟩
  have u3c : wrap64 (q3 / 39) = t3 := by rw [← Int.tdiv_eq_ediv_of_nonneg (by omega), ht3]; exact IntWalk.wrap64_in _ ⟨by omega, by omega⟩
  have u3d : IntKind.i64.wrap (t3 * 12) = t3 * 12 := IntWalk.i64_in _ ⟨by omega, by omega⟩
  have u3e : wrap64 (t3 * 12) = t3 * 12 := IntWalk.wrap64_in _ ⟨by omega, by omega⟩
  have v3a : IntKind.i64.wrap (q2 + t3 * 12) = q2 + t3 * 12 := IntWalk.i64_in _ ⟨by omega, by omega⟩
  have v3b : wrap64 (q2 + t3 * 12) = q2 + t3 * 12 := IntWalk.wrap64_in _ ⟨by omega, by omega⟩
  go_wp2_with fail
  refine (pickE g A l1 cap _ (M) _ HR3.out (by omega) (by omega)).mono ?_; rintro e4 w4 ⟨q4, rfl, hq40, hq41, hr4, hg4, -⟩
  have hq42 := hq41 (by omega)
  have hz4 : w3.heap.size ≤ w4.heap.size := hg4.size
  have HR4 := Lib.hid hr4
  have HC4 := Lib.hid (rc_grown HC3.out hg4 (by omega) (Nat.le_refl _))
  have HB4 := Lib.hid (below_of_only HB3.out hg4 (by omega))
  clear hq41 hr4 hg4
  go_wp2_with fail
  refine (pickE g A l1 cap _ (40) _ HR4.out (by omega) (by omega)).mono ?_; rintro e5 w5 ⟨q5, rfl, hq50, hq51, hr5, hg5, -⟩
  have hq52 := hq51 (by omega)
  have hz5 : w4.heap.size ≤ w5.heap.size := hg5.size
  have HR5 := Lib.hid hr5
  have HC5 := Lib.hid (rc_grown HC4.out hg5 (by omega) (Nat.le_refl _))
  have HB5 := Lib.hid (below_of_only HB4.out hg5 (by omega))
  clear hq51 hr5 hg5
  obtain ⟨t5, ht5⟩ : ∃ t : Int, q5.tdiv 39 = t := ⟨_, rfl⟩
  have ht50 : 0 ≤ t5 ∧ t5 ≤ 1 := by rw [← ht5, Int.tdiv_eq_ediv_of_nonneg (by omega)]; omega
  have u5a : IntKind.i64.wrap (q5.tdiv 39) = t5 := by rw [ht5]; exact IntWalk.i64_in _ ⟨by omega, by omega⟩
  have u5b : wrap64 (q5.tdiv 39) = t5 := by rw [ht5]; exact IntWalk.wrap64_in _ ⟨by omega, by omega⟩
  have u5c : wrap64 (q5 / 39) = t5 := by rw [← Int.tdiv_eq_ediv_of_nonneg (by omega), ht5]; exact IntWalk.wrap64_in _ ⟨by omega, by omega⟩
  have u5d : IntKind.i64.wrap (t5 * 12) = t5 * 12 := IntWalk.i64_in _ ⟨by omega, by omega⟩
  have u5e : wrap64 (t5 * 12) = t5 * 12 := IntWalk.wrap64_in _ ⟨by omega, by omega⟩
  have v5a : IntKind.i64.wrap (q4 - t5 * 12) = q4 - t5 * 12 := IntWalk.i64_in _ ⟨by omega, by omega⟩
  have v5b : wrap64 (q4 - t5 * 12) = q4 - t5 * 12 := IntWalk.wrap64_in _ ⟨by omega, by omega⟩
  go_wp2_with fail
  refine bodyPost_ret (v := .tuple #[.slice (some ⟨bc, 0, none⟩) ps.length cc, .int .i64 (q2 + t3 * 12), .int .i64 (q4 - t5 * 12)]) (by simp [results, Try.results17, go_sem]) rfl ?_
  exact ⟨bc, cc, ps, q2 + t3 * 12, q4 - t5 * 12, rfl, HC5.out, hl12, hcc, by omega, by omega, by omega, by omega, HB5.out⟩
set_option maxRecDepth 100000 in
set_option maxHeartbeats 4000000 in
theorem DrawMiddleOf_any (A : Option Addr) (len cap : Nat) (w : World) (hr : RB w w.heap.size A len) (hc : len ≤ cap) (hl : len ≤ 1048576) :
    Calls Try.prog 24 #[.slice A len cap] w (DrawnPo w) := by
  go_enter Try.func24, Try.ntmps24
  go_wp2_with fail
  refine (openE A len cap _ hr hc hl).mono ?_
  rintro e wo ⟨l1, rfl, hr1, hb1⟩
  have hzo : w.heap.size < wo.heap.size := hr1.lt
  have HB1 := Lib.hid hb1
  obtain ⟨g, hg⟩ : ∃ g, w.heap.size = g := ⟨_, rfl⟩
  rw [hg] at hr1 hzo
  clear hb1
  go_wp2_with fail
  refine (l20Points_any g A l1 cap 0 14 _ hr1 (by omega) (by omega) (by omega)).mono ?_
  rintro e w1 ⟨bc, cc, ps, rfl, hrc, hbc, hl12, hcc, hr2, hg2⟩
  have hs1 : wo.heap.size ≤ w1.heap.size := hg2.size
  have HBD := Lib.hid (below_of_only HB1.out hg2 (by omega))
  have HRC := Lib.hid hrc
  have HR1 := Lib.hid hr2
  clear hr1 hg2 hrc hr2
  go_wp2_with fail
  refine (pickE g A l1 cap _ (4) _ HR1.out (by omega) (by omega)).mono ?_; rintro e2 w2 ⟨q2, rfl, hq20, hq21, hr2, hg2, -⟩
  have hq22 := hq21 (by omega)
  have hz2 : w1.heap.size ≤ w2.heap.size := hg2.size
  have HR2 := Lib.hid hr2
  have HC2 := Lib.hid (rc_grown HRC.out hg2 (by omega) (Nat.le_refl _))
  have HB2 := Lib.hid (below_of_only HBD.out hg2 (by omega))
  clear hq21 hr2 hg2
  by_cases hq : 0 < q2
  · by_cases hl : 0 < ps.length
    · have hli : (0 : Int) < (ps.length : Int) := by omega
      obtain ⟨pa, pb, rest, hps⟩ : ∃ pa pb rest, ps = (pa, pb) :: rest := by
        cases ps with
        | nil => simp at hl
        | cons p rest => exact ⟨p.1, p.2, rest, rfl⟩
      obtain ⟨b9, o9, e9, hb9, k2a, k2b⟩ := HC2.out 0 (pa, pb) (by rw [hps]; rfl)
      injection e9 with e9; injection e9 with e91 e92; subst e91; subst e92
      simp only [Nat.zero_mul, Nat.zero_add] at k2a k2b
      have k2 := (⟨k2a, k2b⟩ : _ ∧ _)
      clear hps
      go_wp2_with fail
      refine wp_region_held_drew (S := (fun w' => w'.cell? ⟨bc, 0, none⟩ = some (.int .i64 pa) ∧ w'.cell? ⟨bc, 1, none⟩ = some (.int .i64 pb))) (by kernel_rfl) ?_ (fun hHeld => ?_)
      · exact ⟨k2a, k2b⟩
      refine wpAnyH_take (i := 0) (v := ?_) rfl (by kernel_rfl) (by kernel_rfl) (by kernel_rfl) (fun _ _ _ h => h) (Or.inl ⟨by rfl, ?_⟩) (by assumption) ?_
      rotate_left
      · (intro w hSw; (try dsimp only at hSw); (try simp only [List.getElem_toArray, List.getElem_cons_succ, List.getElem_cons_zero]); first | (go_simp; done) | (go_simp; with_reducible rfl))
      try simp only [Act.put, List.getElem_toArray, List.getElem_cons_succ, List.getElem_cons_zero, List.setIfInBounds_toArray, List.set_cons_zero, List.set_cons_succ]
      refine wpAnyH_take (i := 1) (v := ?_) rfl (by kernel_rfl) (by kernel_rfl) (by kernel_rfl) (fun _ _ _ h => h) (Or.inl ⟨by rfl, ?_⟩) (by assumption) ?_
      rotate_left
      · (intro w hSw; (try dsimp only at hSw); (try simp only [List.getElem_toArray, List.getElem_cons_succ, List.getElem_cons_zero]); first | (go_simp; done) | (go_simp; with_reducible rfl))
      try simp only [Act.put, List.getElem_toArray, List.getElem_cons_succ, List.getElem_cons_zero, List.setIfInBounds_toArray, List.set_cons_zero, List.set_cons_succ]
      refine wpAnyH_take (i := 2) (v := ?_) rfl (by kernel_rfl) (by kernel_rfl) (by kernel_rfl) (fun _ _ _ h => h) (Or.inl ⟨by rfl, ?_⟩) (by assumption) ?_
      rotate_left
      · (intro w hSw; (try dsimp only at hSw); (try simp only [List.getElem_toArray, List.getElem_cons_succ, List.getElem_cons_zero]); first | (go_simp; done) | (go_simp; with_reducible rfl))
      try simp only [Act.put, List.getElem_toArray, List.getElem_cons_succ, List.getElem_cons_zero, List.setIfInBounds_toArray, List.set_cons_zero, List.set_cons_succ]
      refine wpAnyH_take (i := 3) (v := ?_) rfl (by kernel_rfl) (by kernel_rfl) (by kernel_rfl) (fun _ _ _ h => h) (Or.inl ⟨by rfl, ?_⟩) (by assumption) ?_
      rotate_left
      · (intro w hSw; (try dsimp only at hSw); (try simp only [List.getElem_toArray, List.getElem_cons_succ, List.getElem_cons_zero]); first | (go_simp; done) | (go_simp; with_reducible rfl))
      try simp only [Act.put, List.getElem_toArray, List.getElem_cons_succ, List.getElem_cons_zero, List.setIfInBounds_toArray, List.set_cons_zero, List.set_cons_succ]
      refine wpAnyH_take (i := 5) (v := ?_) rfl (by kernel_rfl) (by kernel_rfl) (by kernel_rfl) (fun _ _ _ h => h) (Or.inl ⟨by rfl, ?_⟩) (by assumption) ?_
      rotate_left
      · (intro w hSw; (try dsimp only at hSw); (try simp only [List.getElem_toArray, List.getElem_cons_succ, List.getElem_cons_zero]); first | (go_simp; done) | (go_simp; with_reducible rfl))
      try simp only [Act.put, List.getElem_toArray, List.getElem_cons_succ, List.getElem_cons_zero, List.setIfInBounds_toArray, List.set_cons_zero, List.set_cons_succ]
      refine wpAnyH_take (i := 8) (v := ?_) rfl (by kernel_rfl) (by kernel_rfl) (by kernel_rfl) (fun _ _ _ h => h) (Or.inl ⟨by rfl, ?_⟩) (by assumption) ?_
      rotate_left
      · (intro w hSw; (try dsimp only at hSw); (try simp only [List.getElem_toArray, List.getElem_cons_succ, List.getElem_cons_zero]); first | (go_simp; done) | (go_simp; with_reducible rfl))
      try simp only [Act.put, List.getElem_toArray, List.getElem_cons_succ, List.getElem_cons_zero, List.setIfInBounds_toArray, List.set_cons_zero, List.set_cons_succ]
      refine wpAnyH_take (i := 10) (v := ?_) rfl (by kernel_rfl) (by kernel_rfl) (by kernel_rfl) (fun _ _ _ h => h) (Or.inl ⟨by rfl, ?_⟩) (by assumption) ?_
      rotate_left
      · (intro w hSw; (try dsimp only at hSw); (try simp only [List.getElem_toArray, List.getElem_cons_succ, List.getElem_cons_zero]); first | (go_simp; done) | (go_simp; with_reducible rfl))
      try simp only [Act.put, List.getElem_toArray, List.getElem_cons_succ, List.getElem_cons_zero, List.setIfInBounds_toArray, List.set_cons_zero, List.set_cons_succ]
      refine wpAnyH_ready (rs := [4]) (by kernel_rfl) (by simp) ?_
      refine AllReadyH.cons rfl (fun K hK => ?_) AllReadyH.nil
      try simp only [List.getElem_toArray, List.getElem_cons_succ, List.getElem_cons_zero]
      go_simp
      go_at_call 39; (with_reducible refine (pickE g A l1 cap _ 12 (w2.drew) (HR2.out.keep (fun _ _ => rfl)) (by omega) (by decide)).mono ?_); rintro e3 w3 ⟨q3, rfl, hq30, hq31, hr3, hg3, -⟩; have HR3 := Lib.hid hr3; have hz3 : w2.heap.size ≤ w3.heap.size := hg3.size; have HC3 := Lib.hid (rc_grown (show RC w2.drew w2.drew.heap.size (some ⟨bc, 0, none⟩) ps from HC2.out) hg3 (by omega) (Nat.le_refl _)); have HB3 := Lib.hid (below_of_only HB2.out.drew hg3 (by omega)); have k3 := (⟨(World.cell?_of_block (w := w2.drew) (hg3.block bc (by show bc < w2.heap.size; omega) (by intro e; injection e; omega))).trans k2.1, (World.cell?_of_block (w := w2.drew) (hg3.block bc (by show bc < w2.heap.size; omega) (by intro e; injection e; omega))).trans k2.2⟩ : _ ∧ _); clear hq31 hr3 hg3
      refine hK.out _ _ ?_ (fun hHeld => ?_)
      · exact k3
      clear hK K
      try simp only [Act.put, List.getElem_toArray, List.getElem_cons_succ, List.getElem_cons_zero, List.setIfInBounds_toArray, List.set_cons_zero, List.set_cons_succ]
      refine wpAnyH_ready (rs := [6]) (by kernel_rfl) (by simp) ?_
      refine AllReadyH.cons rfl (fun K hK => ?_) AllReadyH.nil
      try simp only [List.getElem_toArray, List.getElem_cons_succ, List.getElem_cons_zero]
      go_simp
      go_at_call 39; (with_reducible refine (pickE g A l1 cap _ 12 (w3) HR3.out (by omega) (by decide)).mono ?_); rintro e4 w4 ⟨q4, rfl, hq40, hq41, hr4, hg4, -⟩; have HR4 := Lib.hid hr4; have hz4 : w3.heap.size ≤ w4.heap.size := hg4.size; have HC4 := Lib.hid (rc_grown HC3.out hg4 (by omega) (Nat.le_refl _)); have HB4 := Lib.hid (below_of_only HB3.out hg4 (by omega)); have k4 := (⟨(World.cell?_of_block (w := w3) (hg4.block bc (by show bc < w3.heap.size; omega) (by intro e; injection e; omega))).trans k3.1, (World.cell?_of_block (w := w3) (hg4.block bc (by show bc < w3.heap.size; omega) (by intro e; injection e; omega))).trans k3.2⟩ : _ ∧ _); clear hq41 hr4 hg4
      refine hK.out _ _ ?_ (fun hHeld => ?_)
      · exact k4
      clear hK K
      try simp only [Act.put, List.getElem_toArray, List.getElem_cons_succ, List.getElem_cons_zero, List.setIfInBounds_toArray, List.set_cons_zero, List.set_cons_succ]
      refine wpAnyH_take (i := 7) (v := ?_) rfl (by kernel_rfl) (by kernel_rfl) (by kernel_rfl) (fun _ _ _ h => h) (Or.inl ⟨by rfl, ?_⟩) (by assumption) ?_
      rotate_left
      · (intro w hSw; (try dsimp only at hSw); (try simp only [List.getElem_toArray, List.getElem_cons_succ, List.getElem_cons_zero]); first | (go_simp; done) | (go_simp; with_reducible rfl))
      try simp only [Act.put, List.getElem_toArray, List.getElem_cons_succ, List.getElem_cons_zero, List.setIfInBounds_toArray, List.set_cons_zero, List.set_cons_succ]
      refine wpAnyH_ready (rs := [9]) (by kernel_rfl) (by simp) ?_
      refine AllReadyH.cons rfl (fun K hK => ?_) AllReadyH.nil
      try simp only [List.getElem_toArray, List.getElem_cons_succ, List.getElem_cons_zero]
      go_simp
      go_at_call 39; (with_reducible refine (pickE g A l1 cap _ 12 (w4) HR4.out (by omega) (by decide)).mono ?_); rintro e5 w5 ⟨q5, rfl, hq50, hq51, hr5, hg5, -⟩; have HR5 := Lib.hid hr5; have hz5 : w4.heap.size ≤ w5.heap.size := hg5.size; have HC5 := Lib.hid (rc_grown HC4.out hg5 (by omega) (Nat.le_refl _)); have HB5 := Lib.hid (below_of_only HB4.out hg5 (by omega)); have k5 := (⟨(World.cell?_of_block (w := w4) (hg5.block bc (by show bc < w4.heap.size; omega) (by intro e; injection e; omega))).trans k4.1, (World.cell?_of_block (w := w4) (hg5.block bc (by show bc < w4.heap.size; omega) (by intro e; injection e; omega))).trans k4.2⟩ : _ ∧ _); clear hq51 hr5 hg5
      refine hK.out _ _ ?_ (fun hHeld => ?_)
      · exact k5
      clear hK K
      try simp only [Act.put, List.getElem_toArray, List.getElem_cons_succ, List.getElem_cons_zero, List.setIfInBounds_toArray, List.set_cons_zero, List.set_cons_succ]
      refine wpAnyH_ready (rs := [11]) (by kernel_rfl) (by simp) ?_
      refine AllReadyH.cons rfl (fun K hK => ?_) AllReadyH.nil
      try simp only [List.getElem_toArray, List.getElem_cons_succ, List.getElem_cons_zero]
      go_simp
      go_at_call 39; (with_reducible refine (pickE g A l1 cap _ 12 (w5) HR5.out (by omega) (by decide)).mono ?_); rintro e6 w6 ⟨q6, rfl, hq60, hq61, hr6, hg6, -⟩; have HR6 := Lib.hid hr6; have hz6 : w5.heap.size ≤ w6.heap.size := hg6.size; have HC6 := Lib.hid (rc_grown HC5.out hg6 (by omega) (Nat.le_refl _)); have HB6 := Lib.hid (below_of_only HB5.out hg6 (by omega)); have k6 := (⟨(World.cell?_of_block (w := w5) (hg6.block bc (by show bc < w5.heap.size; omega) (by intro e; injection e; omega))).trans k5.1, (World.cell?_of_block (w := w5) (hg6.block bc (by show bc < w5.heap.size; omega) (by intro e; injection e; omega))).trans k5.2⟩ : _ ∧ _); clear hq61 hr6 hg6
      refine hK.out _ _ ?_ (fun hHeld => ?_)
      · exact k6
      clear hK K
      try simp only [Act.put, List.getElem_toArray, List.getElem_cons_succ, List.getElem_cons_zero, List.setIfInBounds_toArray, List.set_cons_zero, List.set_cons_succ]
      refine wpAnyH_take (i := 12) (v := ?_) rfl (by kernel_rfl) (by kernel_rfl) (by kernel_rfl) (fun _ _ _ h => h) (Or.inl ⟨by rfl, ?_⟩) (by assumption) ?_
      rotate_left
      · (intro w hSw; (try dsimp only at hSw); (try simp only [List.getElem_toArray, List.getElem_cons_succ, List.getElem_cons_zero]); first | (go_simp; done) | (go_simp; with_reducible rfl))
      try simp only [Act.put, List.getElem_toArray, List.getElem_cons_succ, List.getElem_cons_zero, List.setIfInBounds_toArray, List.set_cons_zero, List.set_cons_succ]
      refine wpAnyH_ready (rs := [13]) (by kernel_rfl) (by simp) ?_
      refine AllReadyH.cons rfl (fun K hK => ?_) AllReadyH.nil
      try simp only [List.getElem_toArray, List.getElem_cons_succ, List.getElem_cons_zero]
      go_simp
      
      have hb9' : bc < w6.heap.size := by omega
      refine hK.out _ _ ?_ (fun hHeld => ?_)
      · exact ⟨(World.cell?_alloc_lt _ _ _ hb9').trans k6.1, (World.cell?_alloc_lt _ _ _ hb9').trans k6.2⟩
      clear hK K
      try simp only [Act.put, List.getElem_toArray, List.getElem_cons_succ, List.getElem_cons_zero, List.setIfInBounds_toArray, List.set_cons_zero, List.set_cons_succ]
      refine wpAnyH_take (i := 14) (v := ?_) rfl (by kernel_rfl) (by kernel_rfl) (by kernel_rfl) (fun _ _ _ h => h) (Or.inl ⟨by rfl, ?_⟩) (by assumption) ?_
      rotate_left
      · (intro w hSw; (try dsimp only at hSw); (try simp only [List.getElem_toArray, List.getElem_cons_succ, List.getElem_cons_zero]); first | (go_simp; done) | (go_simp; with_reducible rfl))
      try simp only [Act.put, List.getElem_toArray, List.getElem_cons_succ, List.getElem_cons_zero, List.setIfInBounds_toArray, List.set_cons_zero, List.set_cons_succ]
      refine wpAnyH_done (by kernel_rfl) ?_ _
      go_wp2_with fail
      go_ret
      refine ⟨w6.heap.size, 3, [(pa, pb), (q3, q4), (q5, q6)], rfl, ?_, by simp, by simp, HB6.out.alloc (by omega) _⟩
      intro i x hx
      have hnew := heap_alloc_new w6 (.cells #[.int .i64 pa, .int .i64 pb, .int .i64 q3, .int .i64 q4, .int .i64 q5, .int .i64 q6] 27)
      match i with
      | 0 => simp at hx; subst hx; exact ⟨w6.heap.size, 0, rfl, by simp, cell_of_row _ _ 0 _ _ (0, 0) hnew, cell_of_row _ _ 1 _ _ (0, 0) hnew⟩
      | 1 => simp at hx; subst hx; exact ⟨w6.heap.size, 0, rfl, by simp, cell_of_row _ _ 2 _ _ (0, 0) hnew, cell_of_row _ _ 3 _ _ (0, 0) hnew⟩
      | 2 => simp at hx; subst hx; exact ⟨w6.heap.size, 0, rfl, by simp, cell_of_row _ _ 4 _ _ (0, 0) hnew, cell_of_row _ _ 5 _ _ (0, 0) hnew⟩
      | i + 3 => simp at hx
    · have hli : ¬ (0 : Int) < (ps.length : Int) := by omega
      go_wp2_with fail
      go_ret
      exact ⟨bc, cc, ps, rfl, HC2.out, hl12, hcc, HB2.out⟩
  · go_wp2_with fail
    go_ret
    exact ⟨bc, cc, ps, rfl, HC2.out, hl12, hcc, HB2.out⟩
set_option maxRecDepth 100000 in
set_option maxHeartbeats 4000000 in
theorem DrawMeetCost_any (A : Option Addr) (len cap : Nat) (w : World) (hr : RB w w.heap.size A len) (hc : len ≤ cap) (hl : len ≤ 1048576) :
    Calls Try.prog 28 #[.slice A len cap] w (DrawnPoP w) := by
  have HR := Lib.hid hr
  clear hr
  go_enter Try.func28, Try.ntmps28
  go_wp2_with fail
  refine (openE A len cap _ (fun i hi => ?_) hc hl).mono ?_
  · obtain ⟨b, o, v, ha, hB, h0, h1, h2⟩ := HR.out i hi
    exact ⟨b, o, v, ha, by simp; omega, h0, h1, (World.cell?_alloc_lt w _ _ hB).trans h2⟩
  rintro e wo ⟨l1, rfl, hr1, hb1⟩
  simp only [World.size_alloc] at hr1
  have hzo : w.heap.size + 1 < wo.heap.size := by have := hr1.lt; omega
  have HB1 := Lib.hid (bstep (B := w.heap.size) (W := w) (by go_grown) (by go_size) hb1)
  have HBL := Lib.hid (hb1.block w.heap.size (by simp))
  obtain ⟨g, hg⟩ : ∃ g, w.heap.size + 1 = g := ⟨_, rfl⟩
  rw [hg] at hr1
  have hgw : w.heap.size < g := by omega
  have hgo : g < wo.heap.size := by omega
  clear hb1
  go_wp2_with fail
  refine (l20Points_any g A l1 cap 0 12 _ hr1 (by omega) (by omega) (by omega)).mono ?_
  rintro e w1 ⟨bc, cc, ps, rfl, hrc, hbc, hl12, hcc, hr2, hg2⟩
  have hs1 : wo.heap.size ≤ w1.heap.size := hg2.size
  have HRES : Hid (w1.heap[w.heap.size]? = some (.cells #[.int .i64 0, .int .i64 0] 27 (0, 0))) := by
    show _ = _
    rw [hg2.block _ (by omega) (by intro e; injection e; omega), HBL.out]
    exact heap_alloc_new w _
  have HBD := Lib.hid (below_of_only HB1.out hg2 (by omega))
  have HRC := Lib.hid hrc
  have HR1 := Lib.hid hr2
  clear hr1 hg2 hrc hr2
  go_wp2_with fail
  refine (pickE g A l1 cap _ (12) _ HR1.out (by omega) (by omega)).mono ?_; rintro e2 w2 ⟨q2, rfl, hq20, hq21, hr2, hg2, -⟩
  have hq22 := hq21 (by omega)
  have HS2 : Hid (w2.heap[w.heap.size]? = _) := (hg2.block w.heap.size (by omega) (by intro e; injection e; omega)).trans HRES.out
  have hz2 : w1.heap.size ≤ w2.heap.size := hg2.size
  have HR2 := Lib.hid hr2
  have HC2 := Lib.hid (rc_grown HRC.out hg2 (by omega) (Nat.le_refl _))
  have HB2 := Lib.hid (below_of_only HBD.out hg2 (by omega))
  clear hq21 hr2 hg2
  go_wp2_with fail
  refine (pickE g A l1 cap _ (40) _ HR2.out (by omega) (by omega)).mono ?_; rintro e3 w3 ⟨q3, rfl, hq30, hq31, hr3, hg3, -⟩
  have hq32 := hq31 (by omega)
  have HS3 : Hid (w3.heap[w.heap.size]? = _) := (hg3.block w.heap.size (by omega) (by intro e; injection e; omega)).trans HS2.out
  have hz3 : w2.heap.size ≤ w3.heap.size := hg3.size
  have HR3 := Lib.hid hr3
  have HC3 := Lib.hid (rc_grown HC2.out hg3 (by omega) (Nat.le_refl _))
  have HB3 := Lib.hid (below_of_only HB2.out hg3 (by omega))
  clear hq31 hr3 hg3
  obtain ⟨t3, ht3⟩ : ∃ t : Int, q3.tdiv 39 = t := ⟨_, rfl⟩
  have ht30 : 0 ≤ t3 ∧ t3 ≤ 1 := by rw [← ht3, Int.tdiv_eq_ediv_of_nonneg (by omega)]; omega
  have u3a : IntKind.i64.wrap (q3.tdiv 39) = t3 := by rw [ht3]; exact IntWalk.i64_in _ ⟨by omega, by omega⟩
  have u3b : wrap64 (q3.tdiv 39) = t3 := by rw [ht3]; exact IntWalk.wrap64_in _ ⟨by omega, by omega⟩
  have u3c : wrap64 (q3 / 39) = t3 := by rw [← Int.tdiv_eq_ediv_of_nonneg (by omega), ht3]; exact IntWalk.wrap64_in _ ⟨by omega, by omega⟩
  have u3d : IntKind.i64.wrap (t3 * 12) = t3 * 12 := IntWalk.i64_in _ ⟨by omega, by omega⟩
  have u3e : wrap64 (t3 * 12) = t3 * 12 := IntWalk.wrap64_in _ ⟨by omega, by omega⟩
  have v3a : IntKind.i64.wrap (q2 + t3 * 12) = q2 + t3 * 12 := IntWalk.i64_in _ ⟨by omega, by omega⟩
  have v3b : wrap64 (q2 + t3 * 12) = q2 + t3 * 12 := IntWalk.wrap64_in _ ⟨by omega, by omega⟩
  go_wp2_with fail
  refine (pickE g A l1 cap _ (12) _ HR3.out (by omega) (by omega)).mono ?_; rintro e4 w4 ⟨q4, rfl, hq40, hq41, hr4, hg4, -⟩
  have hq42 := hq41 (by omega)
  have HS4 : Hid (w4.heap[w.heap.size]? = _) := (hg4.block w.heap.size (by omega) (by intro e; injection e; omega)).trans HS3.out
  have hz4 : w3.heap.size ≤ w4.heap.size := hg4.size
  have HR4 := Lib.hid hr4
  have HC4 := Lib.hid (rc_grown HC3.out hg4 (by omega) (Nat.le_refl _))
  have HB4 := Lib.hid (below_of_only HB3.out hg4 (by omega))
  clear hq41 hr4 hg4
  go_wp2_with fail
  refine (pickE g A l1 cap _ (40) _ HR4.out (by omega) (by omega)).mono ?_; rintro e5 w5 ⟨q5, rfl, hq50, hq51, hr5, hg5, -⟩
  have hq52 := hq51 (by omega)
  have HS5 : Hid (w5.heap[w.heap.size]? = _) := (hg5.block w.heap.size (by omega) (by intro e; injection e; omega)).trans HS4.out
  have hz5 : w4.heap.size ≤ w5.heap.size := hg5.size
  have HR5 := Lib.hid hr5
  have HC5 := Lib.hid (rc_grown HC4.out hg5 (by omega) (Nat.le_refl _))
  have HB5 := Lib.hid (below_of_only HB4.out hg5 (by omega))
  clear hq51 hr5 hg5
  obtain ⟨t5, ht5⟩ : ∃ t : Int, q5.tdiv 39 = t := ⟨_, rfl⟩
  have ht50 : 0 ≤ t5 ∧ t5 ≤ 1 := by rw [← ht5, Int.tdiv_eq_ediv_of_nonneg (by omega)]; omega
  have u5a : IntKind.i64.wrap (q5.tdiv 39) = t5 := by rw [ht5]; exact IntWalk.i64_in _ ⟨by omega, by omega⟩
  have u5b : wrap64 (q5.tdiv 39) = t5 := by rw [ht5]; exact IntWalk.wrap64_in _ ⟨by omega, by omega⟩
  have u5c : wrap64 (q5 / 39) = t5 := by rw [← Int.tdiv_eq_ediv_of_nonneg (by omega), ht5]; exact IntWalk.wrap64_in _ ⟨by omega, by omega⟩
  have u5d : IntKind.i64.wrap (t5 * 12) = t5 * 12 := IntWalk.i64_in _ ⟨by omega, by omega⟩
  have u5e : wrap64 (t5 * 12) = t5 * 12 := IntWalk.wrap64_in _ ⟨by omega, by omega⟩
  have v5a : IntKind.i64.wrap (q4 - t5 * 12) = q4 - t5 * 12 := IntWalk.i64_in _ ⟨by omega, by omega⟩
  have v5b : wrap64 (q4 - t5 * 12) = q4 - t5 * 12 := IntWalk.wrap64_in _ ⟨by omega, by omega⟩
  have z0 : w5.cell? ⟨w.heap.size, 0, none⟩ = some (.int .i64 0) := cell_of_row _ _ 0 _ _ (0, 0) HS5.out
  have z1 : w5.cell? ⟨w.heap.size, 1, none⟩ = some (.int .i64 0) := cell_of_row _ _ 1 _ _ (0, 0) HS5.out
  have z2 : w5.frozen? ⟨w.heap.size, 0, none⟩ = false := by have := HS5.out; simp [World.frozen?, this]
  have z3 : w5.frozen? ⟨w.heap.size, 1, none⟩ = false := by have := HS5.out; simp [World.frozen?, this]
  have TT := Lib.hid (two_cells (v0 := .int .i64 (q2 + t3 * 12)) (v1 := .int .i64 (q4 - t5 * 12)) HS5.out)
  go_wp2_with fail
  obtain ⟨t0, t1⟩ := TT.out
  refine bodyPost_ret (v := .tuple #[.slice (some ⟨bc, 0, none⟩) ps.length cc, .agg #[.int .i64 (q2 + t3 * 12), .int .i64 (q4 - t5 * 12)]]) (by simp [results, Try.results28, go_sem, t0, t1]) rfl ?_
  refine ⟨bc, cc, ps, q2 + t3 * 12, q4 - t5 * 12, rfl, ?_, hl12, hcc, by omega, by omega, by omega, by omega, (HB5.out.setCell (p := ⟨w.heap.size, 0, none⟩) (Nat.le_refl _) _).setCell (p := ⟨w.heap.size, 1, none⟩) (Nat.le_refl _) _⟩
  intro i x hx
  obtain ⟨b9, o9, e9, hb9, c0, c1⟩ := HC5.out i x hx
  injection e9 with e9; injection e9 with e91 e92; subst e91; subst e92
  have hne : bc ≠ w.heap.size := by omega
  have hk : ((w5.setCell ⟨w.heap.size, 0, none⟩ (.int .i64 (q2 + t3 * 12))).setCell ⟨w.heap.size, 1, none⟩ (.int .i64 (q4 - t5 * 12))).heap[bc]? = w5.heap[bc]? := (Below.heap_setCell _ _ _ _ hne).trans (Below.heap_setCell _ _ _ _ hne)
  exact ⟨bc, 0, rfl, by simpa [World.setCell] using hb9, (World.cell?_of_block (w := w5) hk).trans c0, (World.cell?_of_block (w := w5) hk).trans c1⟩
end Go.Proofs.Ytgnjjiljipgbnaa
