/- Lists of pairs compared; the walk of FnTreeOfCode. -/
import Derived.Test.YtimccjmphdkbjaaDoorPcV
import Derived.Test.YtimccjmphdkbjaaDoorPdB
import Derived.Test.YtimccjmphdkbjaaDoorWLab
set_option linter.unusedSimpArgs false
set_option linter.unusedVariables false
attribute [local go_sem ↓] Go.wp_at_zero Go.wp_at_succ
namespace Go.Proofs.YtimccjmphdkbjaaDoor
open Go.ChangeShapes Go.WideShapes Go.ChangeAt Go.RowKit

set_option maxRecDepth 100000 in
set_option maxHeartbeats 4000000 in
theorem sameLinks_any (A B : Option Addr) (cap cap' : Nat) (cs : List (Int × Int)) (w : World) (hr : RC w w.heap.size A cs) (hr' : RC w w.heap.size B cs) (hm : cs.length ≤ 1048576) :
    Calls Tryd.prog 19 #[.slice A cs.length cap, .slice B cs.length cap'] w fun e w' => e = .returned (.bool true) ∧ Below w.heap.size w w' := by
  have HR := Lib.hid hr
  have HR' := Lib.hid hr'
  clear hr hr'
  go_enter Tryd.func19, Tryd.ntmps19
  go_wp2_with fail
  go_loopw [5] (fun i wr => ∃ k : Nat, k ≤ cs.length ∧ i = .int .i64 (k : Int) ∧ Below w.heap.size w wr) (fun i _ => cs.length - (intOf i).toNat)
  case atStart => exact ⟨0, Nat.zero_le _, rfl, Below.refl _ _⟩
  case round =>
    obtain ⟨k, hk, rfl, hb⟩ := hrel
    have HB := Lib.hid hb
    have hk0 : (0 : Int) ≤ (k : Int) := by omega
    by_cases hlt : k < cs.length
    · have hk1 : (k : Int) < (cs.length : Int) := by omega
      obtain ⟨⟨pa, pb⟩, hx⟩ : ∃ x, cs[k]? = some x := ⟨_, List.getElem?_eq_getElem hlt⟩
      obtain ⟨ba, oa, rfl, hBa, c0, c1⟩ := (HR.out.below hb) k _ hx
      obtain ⟨bb, ob, rfl, hBb, d0, d1⟩ := (HR'.out.below hb) k _ hx
      simp only at c0 c1 d0 d1
      clear hx hb
      go_wp2_with fail
      refine wp_region_held_drew (S := (fun w' => w'.cell? ⟨ba, oa + k * 2, none⟩ = some (.int .i64 pa) ∧ w'.cell? ⟨ba, oa + k * 2 + 1, none⟩ = some (.int .i64 pb) ∧ w'.cell? ⟨bb, ob + k * 2, none⟩ = some (.int .i64 pa) ∧ w'.cell? ⟨bb, ob + k * 2 + 1, none⟩ = some (.int .i64 pb))) (by kernel_rfl) ?_ (fun hHeld => ?_)
      · exact ⟨c0, c1, d0, d1⟩
      refine wpAnyH_take (i := 0) (v := ?_) rfl (by kernel_rfl) (by kernel_rfl) (by kernel_rfl) (fun _ _ _ h => h) (Or.inl ⟨by rfl, ?_⟩) (by assumption) ?_
      rotate_left
      · (intro w hSw; (try dsimp only at hSw); (try simp only [List.getElem_toArray, List.getElem_cons_succ, List.getElem_cons_zero]); first | (go_simp; done) | (go_simp; with_reducible rfl))
      try simp only [Act.put, List.getElem_toArray, List.getElem_cons_succ, List.getElem_cons_zero, List.setIfInBounds_toArray, List.set_cons_zero, List.set_cons_succ]
      refine wpAnyH_take (i := 1) (v := ?_) rfl (by kernel_rfl) (by kernel_rfl) (by kernel_rfl) (fun _ _ _ h => h) (Or.inl ⟨by rfl, ?_⟩) (by assumption) ?_
      rotate_left
      · (intro w hSw; (try dsimp only at hSw); (try simp only [List.getElem_toArray, List.getElem_cons_succ, List.getElem_cons_zero]); first | (go_simp; done) | (go_simp; with_reducible rfl))
      try simp only [Act.put, List.getElem_toArray, List.getElem_cons_succ, List.getElem_cons_zero, List.setIfInBounds_toArray, List.set_cons_zero, List.set_cons_succ]
      refine wpAnyH_take (i := 2) (v := ?_) rfl (by kernel_rfl) (by kernel_rfl) (by kernel_rfl) (fun _ _ _ h => h) (Or.inl ⟨by rfl, ?_⟩) (by assumption) ?_
      rotate_left
      · (intro w hSw; (try dsimp only at hSw); (try simp only [List.getElem_toArray, List.getElem_cons_succ, List.getElem_cons_zero]); first | (go_simp; done) | (go_simp; with_reducible rfl))
      try simp only [Act.put, List.getElem_toArray, List.getElem_cons_succ, List.getElem_cons_zero, List.setIfInBounds_toArray, List.set_cons_zero, List.set_cons_succ]
      refine wpAnyH_take (i := 3) (v := ?_) rfl (by kernel_rfl) (by kernel_rfl) (by kernel_rfl) (fun _ _ _ h => h) (Or.inl ⟨by rfl, ?_⟩) (by assumption) ?_
      rotate_left
      · (intro w hSw; (try dsimp only at hSw); (try simp only [List.getElem_toArray, List.getElem_cons_succ, List.getElem_cons_zero]); first | (go_simp; done) | (go_simp; with_reducible rfl))
      try simp only [Act.put, List.getElem_toArray, List.getElem_cons_succ, List.getElem_cons_zero, List.setIfInBounds_toArray, List.set_cons_zero, List.set_cons_succ]
      refine wpAnyH_take (i := 4) (v := ?_) rfl (by kernel_rfl) (by kernel_rfl) (by kernel_rfl) (fun _ _ _ h => h) (Or.inl ⟨by rfl, ?_⟩) (by assumption) ?_
      rotate_left
      · (intro w hSw; (try dsimp only at hSw); (try simp only [List.getElem_toArray, List.getElem_cons_succ, List.getElem_cons_zero]); first | (go_simp; done) | (go_simp; with_reducible rfl))
      try simp only [Act.put, List.getElem_toArray, List.getElem_cons_succ, List.getElem_cons_zero, List.setIfInBounds_toArray, List.set_cons_zero, List.set_cons_succ]
      refine wpAnyH_take (i := 5) (v := ?_) rfl (by kernel_rfl) (by kernel_rfl) (by kernel_rfl) (fun _ _ _ h => h) (Or.inl ⟨by rfl, ?_⟩) (by assumption) ?_
      rotate_left
      · (intro w hSw; (try dsimp only at hSw); (try simp only [List.getElem_toArray, List.getElem_cons_succ, List.getElem_cons_zero]); first | (go_simp; done) | (go_simp; with_reducible rfl))
      try simp only [Act.put, List.getElem_toArray, List.getElem_cons_succ, List.getElem_cons_zero, List.setIfInBounds_toArray, List.set_cons_zero, List.set_cons_succ]
      refine wpAnyH_take (i := 6) (v := ?_) rfl (by kernel_rfl) (by kernel_rfl) (by kernel_rfl) (fun _ _ _ h => h) (Or.inl ⟨by rfl, ?_⟩) (by assumption) ?_
      rotate_left
      · (intro w hSw; (try dsimp only at hSw); (try simp only [List.getElem_toArray, List.getElem_cons_succ, List.getElem_cons_zero]); first | (go_simp; done) | (go_simp; with_reducible rfl))
      try simp only [Act.put, List.getElem_toArray, List.getElem_cons_succ, List.getElem_cons_zero, List.setIfInBounds_toArray, List.set_cons_zero, List.set_cons_succ]
      refine wpAnyH_take (i := 7) (v := ?_) rfl (by kernel_rfl) (by kernel_rfl) (by kernel_rfl) (fun _ _ _ h => h) (Or.inl ⟨by rfl, ?_⟩) (by assumption) ?_
      rotate_left
      · (intro w hSw; (try dsimp only at hSw); (try simp only [List.getElem_toArray, List.getElem_cons_succ, List.getElem_cons_zero]); first | (go_simp; done) | (go_simp; with_reducible rfl))
      try simp only [Act.put, List.getElem_toArray, List.getElem_cons_succ, List.getElem_cons_zero, List.setIfInBounds_toArray, List.set_cons_zero, List.set_cons_succ]
      refine wpAnyH_take (i := 8) (v := ?_) rfl (by kernel_rfl) (by kernel_rfl) (by kernel_rfl) (fun _ _ _ h => h) (Or.inl ⟨by rfl, ?_⟩) (by assumption) ?_
      rotate_left
      · (intro w hSw; (try dsimp only at hSw); (try simp only [List.getElem_toArray, List.getElem_cons_succ, List.getElem_cons_zero]); first | (go_simp; done) | (go_simp; with_reducible rfl))
      try simp only [Act.put, List.getElem_toArray, List.getElem_cons_succ, List.getElem_cons_zero, List.setIfInBounds_toArray, List.set_cons_zero, List.set_cons_succ]
      refine wpAnyH_done (by kernel_rfl) ?_ _
      go_wp2_with fail
      go_roundw
      case rel => exact ⟨k + 1, by omega, by go_num, by have h9 := HB.out; first | exact h9 | exact h9.drew | exact below_drewN h9 _⟩
      case measure => (simp [intOf]) <;> omega
    · obtain rfl : k = cs.length := by omega
      clear hb
      go_wp2_with fail
      go_ret
      exact ⟨rfl, HB.out⟩
set_option maxHeartbeats 1000000 in
theorem sameIntsR_any (A A' : Option Addr) (cap cap' m : Nat) (cs : List Int) (hml : cs.length = m) (w : World) (h : RI w w.heap.size A cs) (h' : RI w w.heap.size A' cs) (hm : m ≤ 1048576) :
    Calls Tryd.prog 15 #[.slice A m cap, .slice A' m cap'] w fun e w' => e = .returned (.bool true) ∧ Below w.heap.size w w' := by
  have HF := Lib.hid h
  have HG := Lib.hid h'
  have HML := Lib.hid hml
  clear h h' hml
  go_enter Tryd.func15, Tryd.ntmps15
  go_wp2_with fail
  go_loopw [5] (fun i wr => ∃ k : Nat, k ≤ m ∧ i = .int .i64 k ∧ Below w.heap.size w wr) (fun i _ => m - (intOf i).toNat)
  case atStart => exact ⟨0, Nat.zero_le _, rfl, by go_grown⟩
  case round =>
    obtain ⟨k, hk, rfl, hb⟩ := hrel
    have HB := Lib.hid hb
    have HF1 := HF.out.below hb
    have HG1 := HG.out.below hb
    clear hb
    by_cases hlt : k < m
    · obtain ⟨b, o, rfl, _, c0⟩ := HF1.at_ (j := k) (by rw [HML.out]; exact hlt)
      obtain ⟨b', o', rfl, _, c1⟩ := HG1.at_ (j := k) (by rw [HML.out]; exact hlt)
      obtain ⟨x, hx⟩ : ∃ x, cs.getD k 0 = x := ⟨_, rfl⟩
      rw [hx] at c0 c1
      have hk0 : (0 : Int) ≤ (k : Int) := by omega
      have hk1 : (k : Int) < (m : Int) := by omega
      clear HF1 HG1 hx
      go_wp2_with fail
      go_quiet (fail)
      go_wp2_with fail
      go_roundw
      case rel => exact ⟨k + 1, by omega, by go_num, ⟨HB.out.os, HB.out.tape, HB.out.output, HB.out.size, HB.out.block⟩⟩
      case measure => simp [intOf]; omega
    · go_wp2_with fail
      go_ret
      exact ⟨rfl, HB.out⟩
set_option maxRecDepth 100000 in
set_option maxHeartbeats 4000000 in
theorem FnTreeOfCode_walk (A : Option Addr) (len cap : Nat) (w : World) (hr : RB w w.heap.size A len) (hc : len ≤ cap) (hlen : len ≤ 9223372036854775807) (hT : Tab w) :
    Calls Tryd.prog 5 #[.slice A len cap] w fun e w' => e = .returned (.bool true) ∧ Below w.heap.size w w' := by
  have HR := Lib.hid hr
  have HT := Lib.hid hT
  clear hr hT
  by_cases hm : 1048576 < len
  · go_enter Tryd.func5, Tryd.ntmps5
    go_wp2_with fail
    go_ret
    exact ⟨rfl, Below.refl _ _⟩
  · go_enter Tryd.func5, Tryd.ntmps5
    go_wp2_with fail
    refine (DrawTreeOfCode_any A len cap _ HR.out hc (by omega)).mono ?_
    rintro e wd ⟨P, bc, cc, cs, rfl, hri, h5, p1, p7, -, -, hbd⟩
    have HRI := Lib.hid hri
    have HBD := Lib.hid hbd
    clear hri hbd hm
    cases hok : codeOk P cs
    · have HOK := Lib.hid hok
      have htn := treeOf_none hok
      go_wp2_with fail
      refine (TreeOfCode_any P _ cc cs _ HRI.out (by omega)).mono ?_
      intro e1 w1 h1
      rw [htn] at h1
      obtain ⟨A1, c1, rfl, hb1⟩ := h1
      have HB1 := Lib.hid (bstep (B := w.heap.size) (W := w) HBD.out HBD.out.size hb1)
      have HR1 := Lib.hid (HRI.out.later hb1)
      clear hb1
      go_wp2_with fail
      refine (sTreeOfCode_any P _ cc cs _ HR1.out (by omega)).mono ?_
      intro e2 w2 h2
      rw [htn] at h2
      obtain ⟨A2, c2, rfl, hb2⟩ := h2
      have HB2 := Lib.hid (bstep (B := w.heap.size) (W := w) HB1.out HB1.out.size hb2)
      have HR2 := Lib.hid (HR1.out.later hb2)
      have HSL := Lib.hid (sameLinks_any A1 A2 c1 c2 [] w2 (RC.nil_ _ _) (RC.nil_ _ _) (by simp))
      clear hb2 htn hok
      go_wp2_with fail
      refine (HSL.out).mono ?_; rintro e3 w3 ⟨rfl, hb3⟩
      have HB3 := Lib.hid (bstep (B := w.heap.size) (W := w) HB2.out HB2.out.size hb3)
      have HR3 := Lib.hid (HR2.out.later hb3)
      clear hb3
      go_wp2_with fail
      refine (CodeOk_any P _ cc cs _ HR3.out (by omega)).mono ?_; rintro e4 w4 ⟨rfl, hb4⟩; rw [HOK.out]
      have HB4 := Lib.hid (bstep (B := w.heap.size) (W := w) HB3.out HB3.out.size hb4)
      clear hb4
      go_wp2_with fail
      refine (alive_any _).mono ?_; rintro e5 w5 ⟨rfl, hb5⟩
      have HB5 := Lib.hid (bstep (B := w.heap.size) (W := w) HB4.out HB4.out.size hb5)
      clear hb5
      go_wp2_with fail
      go_ret
      exact ⟨rfl, HB5.out⟩
    · obtain ⟨m, rfl, h2, h6, _⟩ := codeOk_t hok
      obtain ⟨L, hL, _, hlo, hco, _⟩ := tree_of_code hok
      have hl5 := tree_len hL
      have HLO := Lib.hid hlo
      have HCO := Lib.hid hco
      clear hlo hco hok
      go_wp2_with fail
      refine (TreeOfCode_any (m : Int) _ cc cs _ HRI.out (by omega)).mono ?_
      intro e1 w1 h1
      rw [hL] at h1
      obtain ⟨A1, c1, lo1, hi1, rfl, hrf1, -, hb1⟩ := h1
      have HB1 := Lib.hid (bstep (B := w.heap.size) (W := w) HBD.out HBD.out.size hb1)
      have HR1 := Lib.hid (HRI.out.later hb1)
      have HA1 := Lib.hid hrf1.rc
      clear hb1 hrf1
      go_wp2_with fail
      refine (sTreeOfCode_any (m : Int) _ cc cs _ HR1.out (by omega)).mono ?_
      intro e2 w2 h2'
      rw [hL] at h2'
      obtain ⟨A2, c2, lo2, hi2, rfl, hrf2, -, hb2⟩ := h2'
      have HB2 := Lib.hid (bstep (B := w.heap.size) (W := w) HB1.out HB1.out.size hb2)
      have HR2 := Lib.hid (HR1.out.later hb2)
      have HA2 := Lib.hid (HA1.out.later hb2)
      have HX2 := Lib.hid hrf2.rc
      clear hb2 hrf2 hL
      go_wp2_with fail
      refine (sameLinks_any A1 A2 c1 c2 L w2 HA2.out HX2.out (by omega)).mono ?_; rintro e3 w3 ⟨rfl, hb3⟩
      have HB3 := Lib.hid (bstep (B := w.heap.size) (W := w) HB2.out HB2.out.size hb3)
      have HR3 := Lib.hid (HR2.out.later hb3)
      have HA3 := Lib.hid (HA2.out.later hb3)
      clear hb3
      go_wp2_with fail
      refine (CodeOf_any (m : Int) A1 c1 L _ (HT.out.later HB3.out) HA3.out (by omega)).mono ?_
      intro e4 w4 h4
      rw [HCO.out] at h4
      obtain ⟨A4, c4, lo4, hi4, rfl, hrf4, hlo4, hb4⟩ := h4
      have HB4 := Lib.hid (bstep (B := w.heap.size) (W := w) HB3.out HB3.out.size hb4)
      have HR4 := Lib.hid (HR3.out.later hb4)
      have HA4 := Lib.hid (HA3.out.later hb4)
      have HC4 := Lib.hid hrf4.ri
      clear hb4 hrf4
      go_wp2_with fail
      refine (LinksOk_any (m : Int) A1 c1 L _ (HT.out.later HB4.out) HA4.out (by omega)).mono ?_; rintro e5 w5 ⟨rfl, hb5⟩; rw [HLO.out]
      have HB5 := Lib.hid (bstep (B := w.heap.size) (W := w) HB4.out HB4.out.size hb5)
      have HR5 := Lib.hid (HR4.out.later hb5)
      have HC5 := Lib.hid (HC4.out.later hb5)
      clear hb5
      go_wp2_with fail
      refine (sameIntsR_any A4 (some ⟨bc, 0, none⟩) c4 cc cs.length cs rfl w5 HC5.out HR5.out (by omega)).mono ?_; rintro e6 w6 ⟨rfl, hb6⟩
      have HB6 := Lib.hid (bstep (B := w.heap.size) (W := w) HB5.out HB5.out.size hb6)
      clear hb6
      go_wp2_with fail
      go_ret
      exact ⟨rfl, HB6.out⟩
end Go.Proofs.YtimccjmphdkbjaaDoor
