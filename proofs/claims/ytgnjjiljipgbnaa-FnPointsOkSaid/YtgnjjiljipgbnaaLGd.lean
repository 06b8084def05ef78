/- The law of PointsOk: one point is enough. -/
import Derived.Test.YtgnjjiljipgbnaaPoI
import Derived.Test.YtgnjjiljipgbnaaPoD
import Derived.Test.YtgnjjiljipgbnaaWC
import Derived.Test.YtgnjjiljipgbnaaWSb
import Derived.Test.YtgnjjiljipgbnaaCuA
set_option linter.unusedSimpArgs false
set_option linter.unusedVariables false
attribute [local go_sem ↓] Go.wp_at_zero Go.wp_at_succ
namespace Go.Proofs.Ytgnjjiljipgbnaa
open Go.ChangeShapes Go.WideShapes Go.ChangeAt Go.RowKit

theorem rc_zero (W : World) : RC (W.alloc (.cells #[.int .i64 0, .int .i64 0] 27)) (W.alloc (.cells #[.int .i64 0, .int .i64 0] 27)).heap.size (some ⟨W.heap.size, 0, none⟩) [((0 : Int), (0 : Int))] := by
  intro i x hx
  match i with
  | 0 =>
    have hx' : ((0 : Int), (0 : Int)) = x := by simpa using hx
    subst hx'
    exact ⟨W.heap.size, 0, rfl, by simp, cell_of_row _ _ 0 _ _ (0, 0) (heap_alloc_new W _), cell_of_row _ _ 1 _ _ (0, 0) (heap_alloc_new W _)⟩
  | i + 1 => simp at hx
set_option maxRecDepth 100000 in
set_option maxHeartbeats 4000000 in
theorem FnPointsOk_walk (A : Option Addr) (len cap : Nat) (w : World) (hr : RB w w.heap.size A len) (hc : len ≤ cap) (hlen : len ≤ 9223372036854775807) :
    Calls Try.prog 3 #[.slice A len cap] w fun e w' => e = .returned (.bool true) ∧ Below w.heap.size w w' := by
  have HR := Lib.hid hr
  clear hr
  by_cases hm : 1048576 < len
  · go_enter Try.func3, Try.ntmps3
    go_wp2_with fail
    go_ret
    exact ⟨rfl, Below.refl _ _⟩
  · go_enter Try.func3, Try.ntmps3
    go_wp2_with fail
    refine (DrawPointsOk_any A len cap _ HR.out hc (by omega)).mono ?_
    rintro e wd ⟨bc, cc, ps, rfl, hri, hl12, hcc, hbd⟩
    have HRI := Lib.hid hri
    have HBD := Lib.hid hbd
    have hzd : w.heap.size ≤ wd.heap.size := hbd.size
    have hpm : ps.length ≤ 1073741824 := by omega
    clear hri hbd
    obtain ⟨Z, hZ⟩ : ∃ Z, pointsOk ps = Z := ⟨_, rfl⟩
    have HZ := Lib.hid hZ
    have HPT : Hid (∀ (W : World) (Ap : Option Addr) (cp : Nat), RC W W.heap.size Ap (ps.map Prod.swap) → Calls Try.prog 15 #[.slice Ap ps.length cp] W fun e w' => e = .returned (.bool Z) ∧ Below W.heap.size W w') := fun W Ap cp h2 => by
      have h9 := PointsOk_any Ap cp (ps.map Prod.swap) W h2 (by rw [List.length_map]; omega)
      rw [points_turned, hZ, List.length_map] at h9
      exact h9
    have HPE : Hid (∀ (W : World) (Ap : Option Addr) (cp : Nat), Calls Try.prog 15 #[.slice Ap 0 cp] W fun e w' => e = .returned (.bool false) ∧ Below W.heap.size W w') := fun W Ap cp => by
      have h9 := PointsOk_any Ap cp [] W (RC.nil_ _ _) (by simp)
      rw [show pointsOk [] = false from by decide] at h9
      exact h9
    have HP1 : Hid (∀ (W : World) (Ap : Option Addr) (cp : Nat), RC W W.heap.size Ap [((0 : Int), (0 : Int))] → Calls Try.prog 15 #[.slice Ap 1 cp] W fun e w' => e = .returned (.bool true) ∧ Below W.heap.size W w') := fun W Ap cp h2 => by
      have h9 := PointsOk_any Ap cp [((0 : Int), (0 : Int))] W h2 (by simp)
      rw [show pointsOk [((0 : Int), (0 : Int))] = true from by decide] at h9
      exact h9
    clear hZ
    obtain ⟨i0, hi0, hz0, hz1', hz2⟩ := info_parts infoPointD
    have hbs := noPoints
    go_wp2_with fail
    refine (PointsOk_any _ _ _ _ (HRI.out.later (by go_grown)) hpm).mono ?_; rintro e w1 ⟨rfl, hb1⟩
    rw [HZ.out]
    obtain ⟨hc1, hf1⟩ := bcell hb1
    have HK1 := Lib.hid hb1
    have HB1 := Lib.hid (bstep (B := wd.heap.size) (W := wd) (by (try have hp := HB0.out); go_grown) (by go_size) hb1); clear hb1
    have hs1 : wd.heap.size ≤ w1.heap.size := HB1.out.size
    go_wp2_with fail
    refine (sPointsOk_any _ _ _ _ (HRI.out.later (by have := HB1.out; go_grown)) hpm).mono ?_; rintro e w2 ⟨rfl, hb2⟩
    rw [HZ.out]
    obtain ⟨hc2, hf2⟩ := bcell hb2
    have HK2 := Lib.hid hb2
    have HB2 := Lib.hid (bstep (B := wd.heap.size) (W := wd) (by have hp := HB1.out; go_grown) (by go_size) hb2); clear hb2
    have hs2 : wd.heap.size ≤ w2.heap.size := HB2.out.size
    clear hc1 hf1 hc2 hf2 HB1 HK1 HK2
    obtain ⟨B, hB⟩ : ∃ B, w2.heap.size = B := ⟨_, rfl⟩
    have hwB : wd.heap.size ≤ B := by omega
    have HB3 := Lib.hid (HB2.out.alloc hs2 (.cells #[] 27))
    have HO3 : Hid ((w2.alloc (.cells #[] 27)).ownsRow B 27 2 (.slice (some ⟨B, 0, none⟩) 0 0) 0 []) := by
      rw [← hB]
      exact ⟨rfl, .inr ⟨w2.heap.size, 0, #[], rfl, Nat.le_refl _, heap_alloc_new _ _, Nat.le_refl _, Nat.zero_le _, rfl, rfl⟩⟩
    have hz3 : B + 1 ≤ (w2.alloc (.cells #[] 27)).heap.size := by simp; omega
    have hbcB : bc < B ∨ ps.length = 0 := by
      by_cases h : ps.length = 0
      · exact .inr h
      · obtain ⟨b, o, e9, hB9, -, -⟩ := HRI.out 0 _ (List.getElem?_eq_getElem (by omega))
        injection e9 with e9; injection e9 with e91 e92; subst e91
        exact .inl (by omega)
    go_wp2_with fail
    go_loopw [5, 6] (fun v i wr => ∃ k : Nat, k ≤ ps.length ∧ i = .int .i64 k ∧ (∃ g1 c1, v = .slice (some ⟨g1, 0, none⟩) k c1) ∧ wr.ownsRow B 27 2 v k (ctCells ((ps.take k).map Prod.swap)) ∧ Below wd.heap.size wd wr ∧ B < wr.heap.size) (fun _ i _ => ps.length - (intOf i).toNat)
    case atStart => exact ⟨0, Nat.zero_le _, rfl, ⟨B, 0, by rw [← hB]⟩, by first | exact HO3.out | (rw [hB]; exact HO3.out), HB3.out, by omega⟩
    case round =>
      clear HB3 HO3 hz3 HB2 hs1 hs2 hB hbs
      obtain ⟨k, hk, rfl, ⟨g1, c1, hv⟩, how, hb, hzB⟩ := hrel
      (try injection hv with hv1 hv2 hv3)
      (try subst hv)
      (try subst hv1)
      (try subst hv3)
      have HB0 := Lib.hid hb
      have HOW := Lib.hid how
      clear hb how
      by_cases hlk : k < ps.length
      · obtain ⟨⟨pa, pb⟩, hx⟩ : ∃ x, ps[k]? = some x := ⟨_, List.getElem?_eq_getElem hlk⟩
        obtain ⟨b, o, e9, hB9, c0, c1'⟩ := (HRI.out.below HB0.out) _ _ hx
        injection e9 with e9; injection e9 with e91 e92; subst e91; subst e92
        simp only [Nat.zero_add] at c0 c1'
        have hbB : bc < B := by omega
        have hbw : bc < wr.heap.size := by omega
        have k0 : (0 : Int) ≤ (k : Int) := by omega
        have k1 : (k : Int) < (ps.length : Int) := by omega
        have HCT : Hid (ctCells ((ps.take (k + 1)).map Prod.swap) = ctCells ((ps.take k).map Prod.swap) ++ [.int .i64 pb, .int .i64 pa]) := by
          show _ = _
          rw [List.take_add_one, hx, List.map_append]
          exact ctCells_snoc _ _
        clear hx
        go_wp2_with fail
        refine wp_region_held_drew (S := (fun w' => w'.cell? ⟨bc, k * 2, none⟩ = some (.int .i64 pa) ∧ w'.cell? ⟨bc, k * 2 + 1, none⟩ = some (.int .i64 pb))) (by kernel_rfl) ?_ (fun hHeld => ?_)
        · exact ⟨c0, c1'⟩
        refine wpAnyH_take (i := 0) (v := ?_) rfl (by kernel_rfl) (by kernel_rfl) (by kernel_rfl) (fun _ _ _ h => h) (Or.inl ⟨by rfl, ?_⟩) (by assumption) ?_
        rotate_left
        · (intro w hSw; (try dsimp only at hSw); (try simp only [List.getElem_toArray, List.getElem_cons_succ, List.getElem_cons_zero]); first | (go_simp; done) | (go_simp; with_reducible rfl))
        try simp only [Act.put, List.getElem_toArray, List.getElem_cons_succ, List.getElem_cons_zero, List.setIfInBounds_toArray, List.set_cons_zero, List.set_cons_succ]
        refine wpAnyH_take (i := 1) (v := ?_) rfl (by kernel_rfl) (by kernel_rfl) (by kernel_rfl) (fun _ _ _ h => h) (Or.inl ⟨by rfl, ?_⟩) (by assumption) ?_
        rotate_left
        · (intro w hSw; (try dsimp only at hSw); (try simp only [List.getElem_toArray, List.getElem_cons_succ, List.getElem_cons_zero]); first | (go_simp; done) | (go_simp; with_reducible rfl))
        try simp only [Act.put, List.getElem_toArray, List.getElem_cons_succ, List.getElem_cons_zero, List.setIfInBounds_toArray, List.set_cons_zero, List.set_cons_succ]
        refine wpAnyH_take (i := 2) (v := ?_) rfl (by kernel_rfl) (by kernel_rfl) (by kernel_rfl) (fun _ _ _ h => h) (Or.inl ⟨by rfl, ?_⟩) (by assumption) ?_
        rotate_left
        · (intro w hSw; (try dsimp only at hSw); (try simp only [List.getElem_toArray, List.getElem_cons_succ, List.getElem_cons_zero]); first | (go_simp; done) | (go_simp; with_reducible rfl))
        try simp only [Act.put, List.getElem_toArray, List.getElem_cons_succ, List.getElem_cons_zero, List.setIfInBounds_toArray, List.set_cons_zero, List.set_cons_succ]
        refine wpAnyH_take (i := 3) (v := ?_) rfl (by kernel_rfl) (by kernel_rfl) (by kernel_rfl) (fun _ _ _ h => h) (Or.inl ⟨by rfl, ?_⟩) (by assumption) ?_
        rotate_left
        · (intro w hSw; (try dsimp only at hSw); (try simp only [List.getElem_toArray, List.getElem_cons_succ, List.getElem_cons_zero]); first | (go_simp; done) | (go_simp; with_reducible rfl))
        try simp only [Act.put, List.getElem_toArray, List.getElem_cons_succ, List.getElem_cons_zero, List.setIfInBounds_toArray, List.set_cons_zero, List.set_cons_succ]
        refine wpAnyH_take (i := 4) (v := ?_) rfl (by kernel_rfl) (by kernel_rfl) (by kernel_rfl) (fun _ _ _ h => h) (Or.inl ⟨by rfl, ?_⟩) (by assumption) ?_
        rotate_left
        · (intro w hSw; (try dsimp only at hSw); (try simp only [List.getElem_toArray, List.getElem_cons_succ, List.getElem_cons_zero]); first | (go_simp; done) | (go_simp; with_reducible rfl))
        try simp only [Act.put, List.getElem_toArray, List.getElem_cons_succ, List.getElem_cons_zero, List.setIfInBounds_toArray, List.set_cons_zero, List.set_cons_succ]
        refine wpAnyH_take (i := 5) (v := ?_) rfl (by kernel_rfl) (by kernel_rfl) (by kernel_rfl) (fun _ _ _ h => h) (Or.inl ⟨by rfl, ?_⟩) (by assumption) ?_
        rotate_left
        · (intro w hSw; (try dsimp only at hSw); (try simp only [List.getElem_toArray, List.getElem_cons_succ, List.getElem_cons_zero]); first | (go_simp; done) | (go_simp; with_reducible rfl))
        try simp only [Act.put, List.getElem_toArray, List.getElem_cons_succ, List.getElem_cons_zero, List.setIfInBounds_toArray, List.set_cons_zero, List.set_cons_succ]
        refine wpAnyH_take (i := 6) (v := ?_) rfl (by kernel_rfl) (by kernel_rfl) (by kernel_rfl) (fun _ _ _ h => h) (Or.inl ⟨by rfl, ?_⟩) (by assumption) ?_
        rotate_left
        · (intro w hSw; (try dsimp only at hSw); (try simp only [List.getElem_toArray, List.getElem_cons_succ, List.getElem_cons_zero]); first | (go_simp; done) | (go_simp; with_reducible rfl))
        try simp only [Act.put, List.getElem_toArray, List.getElem_cons_succ, List.getElem_cons_zero, List.setIfInBounds_toArray, List.set_cons_zero, List.set_cons_succ]
        refine wpAnyH_take (i := 7) (v := ?_) rfl (by kernel_rfl) (by kernel_rfl) (by kernel_rfl) (fun _ _ _ h => h) (Or.inl ⟨by rfl, ?_⟩) (by assumption) ?_
        rotate_left
        · (intro w hSw; (try dsimp only at hSw); (try simp only [List.getElem_toArray, List.getElem_cons_succ, List.getElem_cons_zero]); first | (go_simp; done) | (go_simp; with_reducible rfl))
        try simp only [Act.put, List.getElem_toArray, List.getElem_cons_succ, List.getElem_cons_zero, List.setIfInBounds_toArray, List.set_cons_zero, List.set_cons_succ]
        refine wpAnyH_take (i := 8) (v := ?_) rfl (by kernel_rfl) (by kernel_rfl) (by kernel_rfl) (fun _ _ _ h => h) (Or.inl ⟨by rfl, ?_⟩) (by assumption) ?_
        rotate_left
        · (intro w hSw; (try dsimp only at hSw); (try simp only [List.getElem_toArray, List.getElem_cons_succ, List.getElem_cons_zero]); first | (go_simp; done) | (go_simp; with_reducible rfl))
        try simp only [Act.put, List.getElem_toArray, List.getElem_cons_succ, List.getElem_cons_zero, List.setIfInBounds_toArray, List.set_cons_zero, List.set_cons_succ]
        refine wpAnyH_take (i := 9) (v := ?_) rfl (by kernel_rfl) (by kernel_rfl) (by kernel_rfl) (fun _ _ _ h => h) (Or.inl ⟨by rfl, ?_⟩) (by assumption) ?_
        rotate_left
        · (intro w hSw; (try dsimp only at hSw); (try simp only [List.getElem_toArray, List.getElem_cons_succ, List.getElem_cons_zero]); first | (go_simp; done) | (go_simp; with_reducible rfl))
        try simp only [Act.put, List.getElem_toArray, List.getElem_cons_succ, List.getElem_cons_zero, List.setIfInBounds_toArray, List.set_cons_zero, List.set_cons_succ]
        refine wpAnyH_take (i := 10) (v := ?_) rfl (by kernel_rfl) (by kernel_rfl) (by kernel_rfl) (fun _ _ _ h => h) (Or.inl ⟨by rfl, ?_⟩) (by assumption) ?_
        rotate_left
        · (intro w hSw; (try dsimp only at hSw); (try simp only [List.getElem_toArray, List.getElem_cons_succ, List.getElem_cons_zero]); first | (go_simp; done) | (go_simp; with_reducible rfl))
        try simp only [Act.put, List.getElem_toArray, List.getElem_cons_succ, List.getElem_cons_zero, List.setIfInBounds_toArray, List.set_cons_zero, List.set_cons_succ]
        refine wpAnyH_take (i := 11) (v := ?_) rfl (by kernel_rfl) (by kernel_rfl) (by kernel_rfl) (fun _ _ _ h => h) (Or.inl ⟨by rfl, ?_⟩) (by assumption) ?_
        rotate_left
        · (intro w hSw; (try dsimp only at hSw); (try simp only [List.getElem_toArray, List.getElem_cons_succ, List.getElem_cons_zero]); first | (go_simp; done) | (go_simp; with_reducible rfl))
        try simp only [Act.put, List.getElem_toArray, List.getElem_cons_succ, List.getElem_cons_zero, List.setIfInBounds_toArray, List.set_cons_zero, List.set_cons_succ]
        refine wpAnyH_ready (rs := [12]) (by kernel_rfl) (by simp) ?_
        refine AllReadyH.cons rfl (fun K hK => ?_) AllReadyH.nil
        try simp only [List.getElem_toArray, List.getElem_cons_succ, List.getElem_cons_zero]
        go_simp

        refine hK.out _ _ ?_ (fun hHeld => ?_)
        · exact ⟨(World.cell?_alloc_lt _ _ _ hbw).trans c0, (World.cell?_alloc_lt _ _ _ hbw).trans c1'⟩
        clear hK K
        try simp only [Act.put, List.getElem_toArray, List.getElem_cons_succ, List.getElem_cons_zero, List.setIfInBounds_toArray, List.set_cons_zero, List.set_cons_succ]
        refine wpAnyH_ready (rs := [13]) (by kernel_rfl) (by simp) ?_
        refine AllReadyH.cons rfl (fun K hK => ?_) AllReadyH.nil
        refine step_append_lies _ (by rfl) _ _ _ (by rfl) B 27 i0 _ 2 16 Try.underlying23 hi0 hz0 hz1' hz2 rfl (by decide) (.slice (some ⟨g1, 0, none⟩) k c1) k (ctCells ((ps.take k).map Prod.swap)) (by rfl) (World.ownsRow.alloc HOW.out _) ⟨wr.heap.size, 0, none⟩ 1 1 [.int .i64 pb, .int .i64 pa] (by rfl) (by rfl) (World.news_of_block (cs := #[.int .i64 pb, .int .i64 pa]) (t := 27) (fr := (0, 0)) (heap_alloc_new wr.drew _)) (by simp [Value.oneCell']) (by omega) (by unfold maxLen; omega) (by omega) (by show B ≤ _; simp; omega) (wr.heap.size + 1) (by simp) ?_; intro gg cg w9 hown9 hgrow9 hat9 hlt9
        have hlo9 := HOW.out.lt
        have hblk9 : ∀ i, i < B → w9.heap[i]? = wr.heap[i]? := fun i hi => (hgrow9.block i (by simp; omega) (fun e => by have := (hlo9 i e.symm).1; omega)).trans (Below.heap_alloc _ _ _ (by show i < wr.heap.size; omega))
        have hs9 : wr.heap.size + 1 ≤ w9.heap.size := by have := hgrow9.size; simpa using this
        have HB9 : Hid (Below wd.heap.size wd w9) := by
          have h9 := HB0.out
          exact ⟨hgrow9.os.trans h9.os, hgrow9.tape.trans h9.tape, hgrow9.output.trans h9.output, by have := h9.size; omega, fun i hi => (hblk9 i (by omega)).trans (h9.block i hi)⟩
        have HOW9 := Lib.hid hown9
        have y90 := (World.cell?_of_block (w := wr) (hblk9 bc hbB)).trans c0
        have y91 := (World.cell?_of_block (w := wr) (hblk9 bc hbB)).trans c1'
        clear hown9 hgrow9 hat9 hlt9 hlo9 hblk9
        refine hK.out _ _ ?_ (fun hHeld => ?_)
        · exact ⟨y90, y91⟩
        clear hK K
        try simp only [Act.put, List.getElem_toArray, List.getElem_cons_succ, List.getElem_cons_zero, List.setIfInBounds_toArray, List.set_cons_zero, List.set_cons_succ]
        refine wpAnyH_take (i := 14) (v := ?_) rfl (by kernel_rfl) (by kernel_rfl) (by kernel_rfl) (fun _ _ _ h => h) (Or.inl ⟨by rfl, ?_⟩) (by assumption) ?_
        rotate_left
        · (intro w hSw; (try dsimp only at hSw); (try simp only [List.getElem_toArray, List.getElem_cons_succ, List.getElem_cons_zero]); first | (go_simp; done) | (go_simp; with_reducible rfl))
        try simp only [Act.put, List.getElem_toArray, List.getElem_cons_succ, List.getElem_cons_zero, List.setIfInBounds_toArray, List.set_cons_zero, List.set_cons_succ]
        refine wpAnyH_done (by kernel_rfl) ?_ _
        go_wp2_with fail
        go_roundw
        case rel => exact ⟨k + 1, by omega, by go_num, ⟨gg, cg, rfl⟩, by rw [HCT.out]; exact HOW9.out, HB9.out, by omega⟩
        case measure => (simp [intOf]) <;> omega
      · obtain rfl : k = ps.length := by omega
        rw [List.take_length] at HOW
        have hro : RC wr wr.heap.size (some ⟨g1, 0, none⟩) (ps.map Prod.swap) := by
          have h9 := HOW.out
          have h8 : wr.ownsRow B 27 2 (.slice (some ⟨g1, 0, none⟩) (ps.map Prod.swap).length c1) (ps.map Prod.swap).length (ctCells (ps.map Prod.swap)) := by rw [List.length_map]; exact h9
          exact rc_of_own h8
        have HIR := Lib.hid hro
        have hbs := noPoints
        have hsr : wd.heap.size ≤ wr.heap.size := by omega
        have HR1 := Lib.hid (rc_zero wr)
        have HBA := Lib.hid (HB0.out.alloc hsr (.cells #[.int .i64 0, .int .i64 0] 27))
        have HIA := Lib.hid (HIR.out.later ((Below.refl _ _).alloc (Nat.le_refl _) (.cells #[.int .i64 0, .int .i64 0] 27)))
        have hsa : wd.heap.size ≤ (wr.alloc (.cells #[.int .i64 0, .int .i64 0] 27)).heap.size := by simp; omega
        clear hro HOW
        go_wp2_with fail
        refine (HP1.out _ _ _ HR1.out).mono ?_; rintro e w4 ⟨rfl, hb4⟩
        have HB4 := Lib.hid (bstep (B := wd.heap.size) (W := wd) HBA.out hsa hb4)
        have HI4 := Lib.hid (HIA.out.later hb4)
        have hs4 : wd.heap.size ≤ w4.heap.size := HB4.out.size
        have HB5 := Lib.hid (HB4.out.alloc hs4 (.cells #[] 27))
        have HI5 := Lib.hid (HI4.out.later ((Below.refl _ _).alloc (Nat.le_refl _) (.cells #[] 27)))
        have hs5 : wd.heap.size ≤ (w4.alloc (.cells #[] 27)).heap.size := by simp; omega
        clear hb4
        go_wp2_with fail
        refine (HPE.out _ _ _).mono ?_; rintro e w6 ⟨rfl, hb6⟩
        have HB6 := Lib.hid (bstep (B := wd.heap.size) (W := wd) HB5.out hs5 hb6)
        have HI6 := Lib.hid (HI5.out.later hb6)
        have hs6 : wd.heap.size ≤ w6.heap.size := HB6.out.size
        clear hb6
        go_wp2_with fail
        refine (HPT.out _ _ _ HI6.out).mono ?_; rintro e w7 ⟨rfl, hb7⟩
        have HB7 := Lib.hid (bstep (B := wd.heap.size) (W := wd) HB6.out hs6 hb7)
        clear hb7
        cases Z <;>
        · go_wp2_with fail
          go_ret
          exact ⟨rfl, bstep HBD.out hzd HB7.out⟩
end Go.Proofs.Ytgnjjiljipgbnaa
