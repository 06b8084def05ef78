/- The model's centre. -/
import Derived.Test.YthadehgpeafniabDoorNxH
import Derived.Test.YthadehgpeafniabDoorSR
set_option linter.unusedSimpArgs false
set_option linter.unusedVariables false
attribute [local go_sem ↓] Go.wp_at_zero Go.wp_at_succ
namespace Go.Proofs.YthadehgpeafniabDoor
open Go.ChangeShapes Go.WideShapes Go.ChangeAt Go.RowKit

set_option maxRecDepth 100000 in
set_option maxHeartbeats 4000000 in
theorem sCentreOf_any (n : Int) (A : Option Addr) (cap : Nat) (ws : List Wy) (w : World) (hr : RW w w.heap.size A ws) (hm : ws.length ≤ 1073741824) :
    Calls Tryd.prog 5 #[.agg #[.int .i64 n, .slice A ws.length cap]] w fun e w' => e = .returned (.int .i64 (centreOf n ws)) ∧ Below w.heap.size w w' := by
  have HR := Lib.hid hr
  clear hr
  unfold centreOf
  cases hok : netOk n ws && joins ws (span ws (allPl n)) (allPl n)
  · have HSP : Hid (spanTreeOf n ws = -1) := by
      show _ = _
      unfold spanTreeOf
      cases h1 : netOk n ws
      · rfl
      · rw [h1, Bool.true_and] at hok
        rw [if_pos rfl, hok]; rfl
    rw [if_neg (by simp)]
    clear hok
    go_enter Tryd.func5, Tryd.ntmps5
    go_wp2_with fail
    refine (sSpanTree_any _ _ _ _ _ (HR.out.later (by go_grown)) hm).mono ?_; rintro e w1 ⟨rfl, hb1⟩
    rw [HSP.out]
    obtain ⟨hc1, hf1⟩ := bcell hb1
    have hz1_0 : w.heap.size < w1.heap.size := by have hq := hb1.size; (try simp at hq); omega
    have HK1 := Lib.hid hb1
    have HB1 := Lib.hid (bstep (B := w.heap.size) (W := w) (by (try have hp := HB0.out); go_grown) (by go_size) hb1); clear hb1
    go_wp2_with fail
    go_ret
    exact ⟨rfl, HB1.out⟩
  · obtain ⟨hno, hj⟩ : netOk n ws = true ∧ joins ws (span ws (allPl n)) (allPl n) = true := by simpa using hok
    have hni := netOk_t hno
    have h2 := hni.lo
    have h6 := hni.hi
    obtain ⟨m, rfl⟩ := Int.eq_ofNat_of_zero_le (show 0 ≤ n by omega)
    have HSP : Hid (spanTreeOf (m : Int) ws = span ws (allPl (m : Int))) := by
      show _ = _
      unfold spanTreeOf
      rw [hno, hj]; rfl
    have hsp0 : ¬ span ws (allPl (m : Int)) < 0 := by have := (span_bd ws (allPl (m : Int))).1; omega
    obtain ⟨SPN, hSPN⟩ : ∃ s, span ws (allPl (m : Int)) = s := ⟨_, rfl⟩
    rw [hSPN] at HSP hsp0
    rw [if_pos rfl, Int.toNat_natCast]
    obtain ⟨F, hF⟩ : ∃ F, farF ws m = F := ⟨_, rfl⟩
    have HFR : Hid (farthestRow (m : Int) ws = (List.range m).map (fun a => fhTo F a m)) := by show _ = _; unfold farthestRow; rw [hno, if_pos rfl, Int.toNat_natCast, hF]
    obtain ⟨L, hL⟩ : ∃ L, (List.range m).map (fun a => fhTo F a m) = L := ⟨_, rfl⟩
    have hLl : L.length = m := by rw [← hL]; exact rangeM_len
    have HLL := Lib.hid hLl
    have HLA : Hid (∀ a, a < m → L.getD a 0 = fhTo F a m) := fun a ha => by rw [← hL]; exact rangeM_at ha
    rw [hL] at HFR
    have hm2 : 2 ≤ m := by omega
    have hm6 : m ≤ 6 := by omega
    rw [hF]
    clear hok hno hj hni hSPN hL hLl hF
    go_enter Tryd.func5, Tryd.ntmps5
    go_wp2_with fail
    refine (sSpanTree_any _ _ _ _ _ (HR.out.later (by go_grown)) hm).mono ?_; rintro e w1 ⟨rfl, hb1⟩
    rw [HSP.out]
    obtain ⟨hc1, hf1⟩ := bcell hb1
    have hz1_0 : w.heap.size < w1.heap.size := by have hq := hb1.size; (try simp at hq); omega
    have HK1 := Lib.hid hb1
    have HB1 := Lib.hid (bstep (B := w.heap.size) (W := w) (by (try have hp := HB0.out); go_grown) (by go_size) hb1); clear hb1
    have k10 : w1.cell? ⟨w.heap.size, 0, none⟩ = some (.int .i64 (m : Int)) := by go_simp
    have k11 : w1.cell? ⟨w.heap.size, 1, none⟩ = some (.slice A ws.length cap) := by go_simp
    clear hc1 hf1 HK1
    go_wp2_with fail
    refine (sFarthestRow_any _ _ _ _ _ (HR.out.later (by have := HB1.out; go_grown)) hm).mono ?_
    rw [HFR.out]
    rintro e2 w2 ⟨A1, c1, rfl, hrow, hb2⟩
    rw [HLL.out] at hrow ⊢
    have HROW : Hid (RowF w2 _ _ A1 m (fun j => fhTo F j m)) := hrow.congr (fun j hj => HLA.out j hj)
    have HB2 := Lib.hid (bstep (B := w.heap.size) (W := w) (by have := HB1.out; go_grown) (by first | exact HB1.out.size | go_size) hb2)
    clear hb2 hrow k10 k11 hz1_0
    go_wp2_with fail
    go_loopw [4, 5] (fun c i wr => ∃ k : Nat, 1 ≤ k ∧ k ≤ m ∧ i = .int .i64 k ∧ c = .int .i64 (ceTo (fun a => fhTo F a m) k) ∧ Below w2.heap.size w2 wr) (fun _ i _ => m - (intOf i).toNat)
    case atStart => exact ⟨1, Nat.le_refl _, by omega, rfl, by rw [show ceTo (fun a => fhTo F a m) 1 = 0 from by rw [ceTo]; split <;> rfl], Below.refl _ _⟩
    case round =>
      obtain ⟨k, hk1', hk, rfl, rfl, hb⟩ := hrel
      have HB3 := Lib.hid hb
      have hk0 : (0 : Int) ≤ (k : Int) := by omega
      obtain ⟨hc0, hc1, -, -⟩ := ceTo_ok (fun a => fhTo F a m) k
      have HS : Hid (ceTo (fun a => fhTo F a m) (k + 1) = if fhTo F k m < fhTo F (ceTo (fun a => fhTo F a m) k).toNat m then (k : Int) else ceTo (fun a => fhTo F a m) k) := rfl
      obtain ⟨c, hc⟩ : ∃ c : Nat, ceTo (fun a => fhTo F a m) k = c := ⟨_, (Int.toNat_of_nonneg hc0).symm⟩
      have HCC := Lib.hid hc
      rw [hc] at HS hc1 ⊢
      rw [Int.toNat_natCast] at HS
      have hcm : c < m := by omega
      have hci : (c : Int) < (m : Int) := by omega
      have hc0' : (0 : Int) ≤ (c : Int) := by omega
      clear hc hc0 hc1 hb
      by_cases hlt : k < m
      · have hk1 : (k : Int) < (m : Int) := by omega
        obtain ⟨b', o', hA1, -, -, x0, -⟩ := (HROW.out.below HB3.out).at_ k hlt
        subst hA1
        obtain ⟨b9, o9, e9, -, -, x1, -⟩ := (HROW.out.below HB3.out).at_ c hcm
        injection e9 with e9; injection e9 with e91 e92; subst e91; subst e92
        (try simp only at x0 x1)
        obtain ⟨X, hX⟩ : ∃ X, fhTo F k m = X := ⟨_, rfl⟩
        obtain ⟨Y, hY⟩ : ∃ Y, fhTo F c m = Y := ⟨_, rfl⟩
        rw [hX] at x0 HS
        rw [hY] at x1 HS
        clear hX hY
        by_cases hxy : X < Y
        · have HY : Hid (ceTo (fun a => fhTo F a m) (k + 1) = (k : Int)) := by show _ = _; rw [HS.out, if_pos hxy]
          clear HS
          go_wp2_with fail
          refine wp_region_held_drew (S := (fun w' => w'.cell? ⟨b', o' + k, none⟩ = some (.int .i64 X) ∧ w'.cell? ⟨b', o' + c, none⟩ = some (.int .i64 Y))) (by kernel_rfl) ?_ (fun hHeld => ?_)
          · exact ⟨x0, x1⟩
          refine wpAnyH_take (i := 0) (v := ?_) rfl (by kernel_rfl) (by kernel_rfl) (by kernel_rfl) (fun _ _ _ h => h) (Or.inl ⟨by rfl, ?_⟩) (by assumption) ?_
          rotate_left
          · (intro w hSw; (try dsimp only at hSw); (try simp only [List.getElem_toArray, List.getElem_cons_succ, List.getElem_cons_zero]); first | (go_simp; done) | (go_simp; with_reducible rfl))
          try simp only [Act.put, List.getElem_toArray, List.getElem_cons_succ, List.getElem_cons_zero, List.setIfInBounds_toArray, List.set_cons_zero, List.set_cons_succ]
          refine wpAnyH_take (i := 1) (v := ?_) rfl (by kernel_rfl) (by kernel_rfl) (by kernel_rfl) (fun _ _ _ h => h) (Or.inl ⟨by rfl, ?_⟩) (by assumption) ?_
          rotate_left
          · (intro w hSw; (try dsimp only at hSw); (try simp only [List.getElem_toArray, List.getElem_cons_succ, List.getElem_cons_zero]); first | (go_simp; done) | (go_simp; with_reducible rfl))
          try simp only [Act.put, List.getElem_toArray, List.getElem_cons_succ, List.getElem_cons_zero, List.setIfInBounds_toArray, List.set_cons_zero, List.set_cons_succ]
          refine wpAnyH_take (i := 2) (v := ?_) rfl (by kernel_rfl) (by kernel_rfl) (by kernel_rfl) (fun _ _ _ h => h) (Or.inl ⟨by rfl, ?_⟩) (by assumption) ?_
          rotate_left
          · (intro w hSw; (try dsimp only at hSw); (try simp only [List.getElem_toArray, List.getElem_cons_succ, List.getElem_cons_zero]); first | (go_simp; done) | (go_simp; with_reducible rfl))
          try simp only [Act.put, List.getElem_toArray, List.getElem_cons_succ, List.getElem_cons_zero, List.setIfInBounds_toArray, List.set_cons_zero, List.set_cons_succ]
          refine wpAnyH_take (i := 3) (v := ?_) rfl (by kernel_rfl) (by kernel_rfl) (by kernel_rfl) (fun _ _ _ h => h) (Or.inl ⟨by rfl, ?_⟩) (by assumption) ?_
          rotate_left
          · (intro w hSw; (try dsimp only at hSw); (try simp only [List.getElem_toArray, List.getElem_cons_succ, List.getElem_cons_zero]); first | (go_simp; done) | (go_simp; with_reducible rfl))
          try simp only [Act.put, List.getElem_toArray, List.getElem_cons_succ, List.getElem_cons_zero, List.setIfInBounds_toArray, List.set_cons_zero, List.set_cons_succ]
          refine wpAnyH_take (i := 4) (v := ?_) rfl (by kernel_rfl) (by kernel_rfl) (by kernel_rfl) (fun _ _ _ h => h) (Or.inl ⟨by rfl, ?_⟩) (by assumption) ?_
          rotate_left
          · (intro w hSw; (try dsimp only at hSw); (try simp only [List.getElem_toArray, List.getElem_cons_succ, List.getElem_cons_zero]); first | (go_simp; done) | (go_simp; with_reducible rfl))
          try simp only [Act.put, List.getElem_toArray, List.getElem_cons_succ, List.getElem_cons_zero, List.setIfInBounds_toArray, List.set_cons_zero, List.set_cons_succ]
          refine wpAnyH_take (i := 5) (v := ?_) rfl (by kernel_rfl) (by kernel_rfl) (by kernel_rfl) (fun _ _ _ h => h) (Or.inl ⟨by rfl, ?_⟩) (by assumption) ?_
          rotate_left
          · (intro w hSw; (try dsimp only at hSw); (try simp only [List.getElem_toArray, List.getElem_cons_succ, List.getElem_cons_zero]); first | (go_simp; done) | (go_simp; with_reducible rfl))
          try simp only [Act.put, List.getElem_toArray, List.getElem_cons_succ, List.getElem_cons_zero, List.setIfInBounds_toArray, List.set_cons_zero, List.set_cons_succ]
          refine wpAnyH_take (i := 6) (v := ?_) rfl (by kernel_rfl) (by kernel_rfl) (by kernel_rfl) (fun _ _ _ h => h) (Or.inl ⟨by rfl, ?_⟩) (by assumption) ?_
          rotate_left
          · (intro w hSw; (try dsimp only at hSw); (try simp only [List.getElem_toArray, List.getElem_cons_succ, List.getElem_cons_zero]); first | (go_simp; done) | (go_simp; with_reducible rfl))
          try simp only [Act.put, List.getElem_toArray, List.getElem_cons_succ, List.getElem_cons_zero, List.setIfInBounds_toArray, List.set_cons_zero, List.set_cons_succ]
          refine wpAnyH_take (i := 7) (v := ?_) rfl (by kernel_rfl) (by kernel_rfl) (by kernel_rfl) (fun _ _ _ h => h) (Or.inl ⟨by rfl, ?_⟩) (by assumption) ?_
          rotate_left
          · (intro w hSw; (try dsimp only at hSw); (try simp only [List.getElem_toArray, List.getElem_cons_succ, List.getElem_cons_zero]); first | (go_simp; done) | (go_simp; with_reducible rfl))
          try simp only [Act.put, List.getElem_toArray, List.getElem_cons_succ, List.getElem_cons_zero, List.setIfInBounds_toArray, List.set_cons_zero, List.set_cons_succ]
          refine wpAnyH_take (i := 8) (v := ?_) rfl (by kernel_rfl) (by kernel_rfl) (by kernel_rfl) (fun _ _ _ h => h) (Or.inl ⟨by rfl, ?_⟩) (by assumption) ?_
          rotate_left
          · (intro w hSw; (try dsimp only at hSw); (try simp only [List.getElem_toArray, List.getElem_cons_succ, List.getElem_cons_zero]); first | (go_simp; done) | (go_simp; with_reducible rfl))
          try simp only [Act.put, List.getElem_toArray, List.getElem_cons_succ, List.getElem_cons_zero, List.setIfInBounds_toArray, List.set_cons_zero, List.set_cons_succ]
          refine wpAnyH_done (by kernel_rfl) ?_ _
          go_wp2_with fail
          go_roundw
          case rel => exact ⟨k + 1, by omega, by omega, by go_num, by rw [HY.out], ⟨HB3.out.os, HB3.out.tape, HB3.out.output, HB3.out.size, HB3.out.block⟩⟩
          case measure => (simp [intOf]) <;> omega
        · have HY : Hid (ceTo (fun a => fhTo F a m) (k + 1) = (c : Int)) := by show _ = _; rw [HS.out, if_neg hxy]
          clear HS
          go_wp2_with fail
          refine wp_region_held_drew (S := (fun w' => w'.cell? ⟨b', o' + k, none⟩ = some (.int .i64 X) ∧ w'.cell? ⟨b', o' + c, none⟩ = some (.int .i64 Y))) (by kernel_rfl) ?_ (fun hHeld => ?_)
          · exact ⟨x0, x1⟩
          refine wpAnyH_take (i := 0) (v := ?_) rfl (by kernel_rfl) (by kernel_rfl) (by kernel_rfl) (fun _ _ _ h => h) (Or.inl ⟨by rfl, ?_⟩) (by assumption) ?_
          rotate_left
          · (intro w hSw; (try dsimp only at hSw); (try simp only [List.getElem_toArray, List.getElem_cons_succ, List.getElem_cons_zero]); first | (go_simp; done) | (go_simp; with_reducible rfl))
          try simp only [Act.put, List.getElem_toArray, List.getElem_cons_succ, List.getElem_cons_zero, List.setIfInBounds_toArray, List.set_cons_zero, List.set_cons_succ]
          refine wpAnyH_take (i := 1) (v := ?_) rfl (by kernel_rfl) (by kernel_rfl) (by kernel_rfl) (fun _ _ _ h => h) (Or.inl ⟨by rfl, ?_⟩) (by assumption) ?_
          rotate_left
          · (intro w hSw; (try dsimp only at hSw); (try simp only [List.getElem_toArray, List.getElem_cons_succ, List.getElem_cons_zero]); first | (go_simp; done) | (go_simp; with_reducible rfl))
          try simp only [Act.put, List.getElem_toArray, List.getElem_cons_succ, List.getElem_cons_zero, List.setIfInBounds_toArray, List.set_cons_zero, List.set_cons_succ]
          refine wpAnyH_take (i := 2) (v := ?_) rfl (by kernel_rfl) (by kernel_rfl) (by kernel_rfl) (fun _ _ _ h => h) (Or.inl ⟨by rfl, ?_⟩) (by assumption) ?_
          rotate_left
          · (intro w hSw; (try dsimp only at hSw); (try simp only [List.getElem_toArray, List.getElem_cons_succ, List.getElem_cons_zero]); first | (go_simp; done) | (go_simp; with_reducible rfl))
          try simp only [Act.put, List.getElem_toArray, List.getElem_cons_succ, List.getElem_cons_zero, List.setIfInBounds_toArray, List.set_cons_zero, List.set_cons_succ]
          refine wpAnyH_take (i := 3) (v := ?_) rfl (by kernel_rfl) (by kernel_rfl) (by kernel_rfl) (fun _ _ _ h => h) (Or.inl ⟨by rfl, ?_⟩) (by assumption) ?_
          rotate_left
          · (intro w hSw; (try dsimp only at hSw); (try simp only [List.getElem_toArray, List.getElem_cons_succ, List.getElem_cons_zero]); first | (go_simp; done) | (go_simp; with_reducible rfl))
          try simp only [Act.put, List.getElem_toArray, List.getElem_cons_succ, List.getElem_cons_zero, List.setIfInBounds_toArray, List.set_cons_zero, List.set_cons_succ]
          refine wpAnyH_take (i := 4) (v := ?_) rfl (by kernel_rfl) (by kernel_rfl) (by kernel_rfl) (fun _ _ _ h => h) (Or.inl ⟨by rfl, ?_⟩) (by assumption) ?_
          rotate_left
          · (intro w hSw; (try dsimp only at hSw); (try simp only [List.getElem_toArray, List.getElem_cons_succ, List.getElem_cons_zero]); first | (go_simp; done) | (go_simp; with_reducible rfl))
          try simp only [Act.put, List.getElem_toArray, List.getElem_cons_succ, List.getElem_cons_zero, List.setIfInBounds_toArray, List.set_cons_zero, List.set_cons_succ]
          refine wpAnyH_take (i := 5) (v := ?_) rfl (by kernel_rfl) (by kernel_rfl) (by kernel_rfl) (fun _ _ _ h => h) (Or.inl ⟨by rfl, ?_⟩) (by assumption) ?_
          rotate_left
          · (intro w hSw; (try dsimp only at hSw); (try simp only [List.getElem_toArray, List.getElem_cons_succ, List.getElem_cons_zero]); first | (go_simp; done) | (go_simp; with_reducible rfl))
          try simp only [Act.put, List.getElem_toArray, List.getElem_cons_succ, List.getElem_cons_zero, List.setIfInBounds_toArray, List.set_cons_zero, List.set_cons_succ]
          refine wpAnyH_take (i := 6) (v := ?_) rfl (by kernel_rfl) (by kernel_rfl) (by kernel_rfl) (fun _ _ _ h => h) (Or.inl ⟨by rfl, ?_⟩) (by assumption) ?_
          rotate_left
          · (intro w hSw; (try dsimp only at hSw); (try simp only [List.getElem_toArray, List.getElem_cons_succ, List.getElem_cons_zero]); first | (go_simp; done) | (go_simp; with_reducible rfl))
          try simp only [Act.put, List.getElem_toArray, List.getElem_cons_succ, List.getElem_cons_zero, List.setIfInBounds_toArray, List.set_cons_zero, List.set_cons_succ]
          refine wpAnyH_take (i := 7) (v := ?_) rfl (by kernel_rfl) (by kernel_rfl) (by kernel_rfl) (fun _ _ _ h => h) (Or.inl ⟨by rfl, ?_⟩) (by assumption) ?_
          rotate_left
          · (intro w hSw; (try dsimp only at hSw); (try simp only [List.getElem_toArray, List.getElem_cons_succ, List.getElem_cons_zero]); first | (go_simp; done) | (go_simp; with_reducible rfl))
          try simp only [Act.put, List.getElem_toArray, List.getElem_cons_succ, List.getElem_cons_zero, List.setIfInBounds_toArray, List.set_cons_zero, List.set_cons_succ]
          refine wpAnyH_take (i := 8) (v := ?_) rfl (by kernel_rfl) (by kernel_rfl) (by kernel_rfl) (fun _ _ _ h => h) (Or.inl ⟨by rfl, ?_⟩) (by assumption) ?_
          rotate_left
          · (intro w hSw; (try dsimp only at hSw); (try simp only [List.getElem_toArray, List.getElem_cons_succ, List.getElem_cons_zero]); first | (go_simp; done) | (go_simp; with_reducible rfl))
          try simp only [Act.put, List.getElem_toArray, List.getElem_cons_succ, List.getElem_cons_zero, List.setIfInBounds_toArray, List.set_cons_zero, List.set_cons_succ]
          refine wpAnyH_done (by kernel_rfl) ?_ _
          go_wp2_with fail
          go_roundw
          case rel => exact ⟨k + 1, by omega, by omega, by go_num, by rw [HY.out], ⟨HB3.out.os, HB3.out.tape, HB3.out.output, HB3.out.size, HB3.out.block⟩⟩
          case measure => (simp [intOf]) <;> omega
      · obtain rfl : k = m := by omega
        have HV : Hid (ceTo (fun a => fhTo F a k) k = (c : Int)) := HCC.out
        go_wp2_with fail
        go_ret
        exact ⟨ret_int HV.out.symm, bstep (B := w.heap.size) (W := w) HB2.out HB2.out.size HB3.out⟩
end Go.Proofs.YthadehgpeafniabDoor
