/- The program's centre. -/
import Derived.Test.YthadehgpeafniabDoorNxI
import Derived.Test.YthadehgpeafniabDoorST
set_option linter.unusedSimpArgs false
set_option linter.unusedVariables false
attribute [local go_sem ↓] Go.wp_at_zero Go.wp_at_succ
namespace Go.Proofs.YthadehgpeafniabDoor
open Go.ChangeShapes Go.WideShapes Go.ChangeAt Go.RowKit

set_option maxRecDepth 100000 in
set_option maxHeartbeats 4000000 in
theorem CentreOf_any (n : Int) (A : Option Addr) (cap : Nat) (ws : List Wy) (w : World) (hr : RW w w.heap.size A ws) (hT : Tab w) :
    Calls Tryd.prog 7 #[.agg #[.int .i64 n, .slice A ws.length cap]] w fun e w' => e = .returned (.int .i64 (centreOf n ws)) ∧ Below w.heap.size w w' := by
  have HR := Lib.hid hr
  have HT := Lib.hid hT
  clear hr hT
  unfold centreOf
  cases hok : netOk n ws && joins ws (span ws (allPl n)) (allPl n)
  · have HSP : Hid (spanTreeOf n ws = -1) := by
      show _ = _
      unfold spanTreeOf
      cases h1 : netOk n ws
      · rfl
      · rw [h1, Bool.true_and] at hok
        rw [if_pos rfl, hok]; rfl
    rw [if_neg (by simp)]
    clear hok
    go_enter Tryd.func7, Tryd.ntmps7
    go_wp2_with fail
    refine (SpanTree_any _ _ _ _ _ (HR.out.later (by go_grown)) (HT.out.later (by go_grown))).mono ?_; rintro e w1 ⟨rfl, hb1⟩
    rw [HSP.out]
    obtain ⟨hc1, hf1⟩ := bcell hb1
    have hz1_0 : w.heap.size < w1.heap.size := by have hq := hb1.size; (try simp at hq); omega
    have HK1 := Lib.hid hb1
    have HB1 := Lib.hid (bstep (B := w.heap.size) (W := w) (by (try have hp := HB0.out); go_grown) (by go_size) hb1); clear hb1
    go_wp2_with fail
    go_ret
    exact ⟨rfl, HB1.out⟩
  · obtain ⟨hno, hj⟩ : netOk n ws = true ∧ joins ws (span ws (allPl n)) (allPl n) = true := by simpa using hok
    have hn := netOk_t hno
    obtain ⟨m, rfl⟩ := Int.eq_ofNat_of_zero_le (show 0 ≤ n by have := hn.lo; omega)
    rw [if_pos rfl, Int.toNat_natCast]
    have hn6 := hn.hi
    have hn2 := hn.lo
    have hm6 : m ≤ 6 := by omega
    have hm0 : 0 < m := by omega
    obtain ⟨t, ht⟩ : ∃ t, spanTreeOf (m : Int) ws = t := ⟨_, rfl⟩
    have hsp : 0 ≤ t := by
      rw [← ht]
      unfold spanTreeOf
      rw [hno, if_pos rfl, hj, if_pos rfl]
      exact (span_bd ws (allPl (m : Int))).1
    have HSP := Lib.hid ht
    have HFR : Hid (farthestRow (m : Int) ws = (List.range m).map (fun a => fhTo (farF ws m) a m)) := by
      show _ = _
      unfold farthestRow
      rw [hno, if_pos rfl, Int.toNat_natCast]
    have HLE : Hid ((farthestRow (m : Int) ws).length = m) := by show _ = _; rw [HFR.out, List.length_map, List.length_range]
    have HLA : Hid (∀ j, j < m → (farthestRow (m : Int) ws).getD j 0 = fhTo (farF ws m) j m) := fun j hj => by rw [HFR.out]; simp [List.getD, hj]
    obtain ⟨L, hL⟩ : ∃ L, farthestRow (m : Int) ws = L := ⟨_, rfl⟩
    have HL := Lib.hid hL
    rw [hL] at HLE HLA
    obtain ⟨f, hf⟩ : ∃ f : Nat → Int, (fun a => fhTo (farF ws m) a m) = f := ⟨_, rfl⟩
    have HF : Hid (∀ j, fhTo (farF ws m) j m = f j) := fun j => by rw [← hf]
    rw [hf]
    obtain ⟨c, hce, hcm, hmn, hbe⟩ := mnR_ce (f := f) hm0
    have HCE := Lib.hid hce
    have HMN := Lib.hid hmn
    have HBE := Lib.hid hbe
    clear hok hno hn hj hL hf hce hmn hbe HFR ht
    go_enter Tryd.func7, Tryd.ntmps7
    go_wp2_with fail
    refine (SpanTree_any _ _ _ _ _ (HR.out.later (by go_grown)) (HT.out.later (by go_grown))).mono ?_; rintro e w1 ⟨rfl, hb1⟩
    rw [HSP.out]
    obtain ⟨hc1, hf1⟩ := bcell hb1
    have hz1_0 : w.heap.size < w1.heap.size := by have hq := hb1.size; (try simp at hq); omega
    have HK1 := Lib.hid hb1
    have HB1 := Lib.hid (bstep (B := w.heap.size) (W := w) (by (try have hp := HB0.out); go_grown) (by go_size) hb1); clear hb1
    have b0 : w1.cell? ⟨w.heap.size, 0, none⟩ = some (.int .i64 m) := by go_simp
    have b1 : w1.cell? ⟨w.heap.size, 1, none⟩ = some (.slice A ws.length cap) := by go_simp
    clear hc1 hf1 HK1
    go_wp2_with fail
    refine (FarthestRow_any (m : Int) A cap ws _ (HR.out.later HB1.out)).mono ?_; rintro en2 w2 ⟨A2, c2, rfl, hrow, hb2⟩
    rw [HL.out, HLE.out] at hrow ⊢
    obtain ⟨bq, oq, rfl, _, _, x0, x1⟩ := hrow.at_ 0 hm0
    have HCL : Hid (∀ j : Nat, j < m → w2.cell? ⟨bq, oq + j, none⟩ = some (.int .i64 (f j))) := fun j hj => by
      obtain ⟨b', o', e9, _, _, y0, _⟩ := hrow.at_ j hj
      injection e9 with e9; injection e9 with e91 e92; subst e91; subst e92
      rw [← HF.out j, ← HLA.out j hj]; exact y0
    have HB2 := Lib.hid (bstep (B := w.heap.size) (W := w) HB1.out (Nat.le_of_lt hz1_0) hb2)
    clear hrow hb2 b0 b1 x0 x1
    go_wp2_with fail
    refine (rowMin_any bq oq m c2 f w2 HCL.out hm0 hm6).mono ?_; rintro en3 w3 ⟨rfl, rfl⟩
    go_wp2_with fail
    refine (rowIndex_any bq oq m c2 c (mnR f (m - 1)) f w2 HCL.out hm6 hcm HBE.out HMN.out.symm).mono ?_; rintro en4 w4 ⟨rfl, rfl⟩
    go_wp2_with fail
    go_ret
    exact ⟨ret_int HCE.out.symm, HB2.out⟩
end Go.Proofs.YthadehgpeafniabDoor
