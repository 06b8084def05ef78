/- BestChoice of the program. -/
import Derived.Test.YtnbihejoglgdhaaDoorChIa
import Derived.Test.YtnbihejoglgdhaaDoorChIb
import Derived.Test.YtnbihejoglgdhaaDoorChB
import Derived.Test.YtnbihejoglgdhaaDoorMK
import Derived.Test.YtnbihejoglgdhaaDoorMJ
set_option linter.unusedSimpArgs false
set_option linter.unusedVariables false
namespace Go.Proofs.YtnbihejoglgdhaaDoor
open Go.ChangeShapes Go.WideShapes Go.ChangeAt Go.RowKit

set_option maxRecDepth 100000 in
set_option maxHeartbeats 4000000 in
theorem BestChoice_any (n e : Int) (A : Option Addr) (cap : Nat) (ws : List Wy) (w : World) (hr : RW w w.heap.size A ws) (hT : Tab w) :
    Calls Tryd.prog 24 #[.agg #[.int .i64 n, .slice A ws.length cap], .int .i64 e] w fun en w' => en = .returned (.int .i64 (bestChoice n ws e)) ∧ Below w.heap.size w w' := by
  have HR := Lib.hid hr
  have HT := Lib.hid hT
  clear hr hT
  unfold bestChoice
  obtain ⟨C, hC⟩ : ∃ C, rootCost n ws e = C := ⟨_, rfl⟩
  rw [hC]
  have HC := Lib.hid hC
  by_cases hneg : C < 0
  · rw [if_pos hneg]
    clear hC
    go_enter Tryd.func24, Tryd.ntmps24
    go_wp2_with fail
    refine (RootCost_any _ _ _ _ _ _ (HR.out.later (by go_grown)) (HT.out.later (by go_grown))).mono ?_; rintro e w1 ⟨rfl, hb1⟩
    rw [HC.out]
    obtain ⟨hc1, hf1⟩ := bcell hb1
    have hz1_0 : w.heap.size < w1.heap.size := by have hq := hb1.size; (try simp at hq); omega
    have HK1 := Lib.hid hb1
    have HB1 := Lib.hid (bstep (B := w.heap.size) (W := w) (by (try have hp := HB0.out); go_grown) (by go_size) hb1); clear hb1
    go_wp2_with fail
    go_ret
    exact ⟨rfl, HB1.out⟩
  · rw [if_neg hneg]
    obtain ⟨hno, hpo, hrc⟩ := rc_told2 (n := n) (ws := ws) (e := e) (by rw [hC]; exact hneg)
    rw [hC] at hrc
    have hni := netOk_t hno
    have hn2 := hni.lo
    obtain ⟨m, rfl⟩ := Int.eq_ofNat_of_zero_le (show 0 ≤ n by omega)
    have hm2 : 2 ≤ m := by omega
    have hm6 : m ≤ 6 := by have := hni.hi; omega
    obtain ⟨he0, he1⟩ := plOk_t hpo
    obtain ⟨N, hN⟩ : ∃ N, 2 ^ m = N := ⟨_, rfl⟩
    have hN64 : N ≤ 64 := by rw [← hN]; exact Nat.pow_le_pow_right (n := 2) (by omega) hm6
    have hNI : ((2 : Int) ^ m) = (N : Int) := by rw [← hN]; simp
    have he64 : e < N := by rw [Int.toNat_natCast, hNI] at he1; exact he1
    have HNO := Lib.hid hno
    have HPO := Lib.hid hpo
    have HRC := Lib.hid hrc
    have HNI := Lib.hid hNI
    have hbcd : bc (m : Int) ws e = bcTo ws e N := by unfold bc; rw [Int.toNat_natCast, hN]
    rw [hbcd]
    have HFI := Lib.hid (fun i => bc_first (m := m) hm6 (ws := ws) (e := e) (i := i))
    have HNE := Lib.hid (bc_never (m := m) hm6 (ws := ws) (e := e))
    have HAT := Lib.hid (fun i => smTo_at (2 ^ m) (m + 1) (i := i))
    have HSM := Lib.hid (fun W => smallestFirst_any m (.slice A ws.length cap) W hm2 hm6)
    have hLle := smTo_le (2 ^ m) (m + 1)
    rw [hN] at HFI HNE HAT HSM hLle
    generalize smTo N (m + 1) = L at HFI HNE HAT HSM hLle
    have hge : 0 ≤ C := by omega
    have HIE : InI e := inI (by omega) (by omega)
    clear hC hno hpo hni he1 hN hNI hrc hbcd
    go_enter Tryd.func24, Tryd.ntmps24
    go_wp2_with fail
    refine (RootCost_any _ _ _ _ _ _ (HR.out.later (by go_grown)) (HT.out.later (by go_grown))).mono ?_; rintro e w1 ⟨rfl, hb1⟩
    rw [HC.out]
    obtain ⟨hc1, hf1⟩ := bcell hb1
    have hz1_0 : w.heap.size < w1.heap.size := by have hq := hb1.size; (try simp at hq); omega
    have HK1 := Lib.hid hb1
    have HB1 := Lib.hid (bstep (B := w.heap.size) (W := w) (by (try have hp := HB0.out); go_grown) (by go_size) hb1); clear hb1
    have k1 : w1.cell? ⟨w.heap.size, 0, none⟩ = some (.int .i64 m) ∧ w1.cell? ⟨w.heap.size, 1, none⟩ = some (.slice A ws.length cap) := ⟨by go_simp, by go_simp⟩
    clear hc1 hf1
    obtain ⟨k10, k11⟩ := k1
    go_wp2_with fail
    refine (HSM.out _).mono ?_; rintro e2 w2 ⟨A1, c1, rfl, hrow, hb2⟩
    have k2 := keep2 hb2 ⟨k10, k11⟩ hz1_0
    have z2 := Nat.lt_of_lt_of_le hz1_0 hb2.size
    have HB2 := Lib.hid (bstep (B := w.heap.size) (W := w) HB1.out (Nat.le_of_lt hz1_0) hb2)
    have HRO := Lib.hid hrow
    clear hb2 hrow
    go_wp2_with fail
    go_loopw [16] (fun i wr => ∃ k : Nat, k ≤ L.length ∧ i = .int .i64 k ∧ (∀ j, j < k → okC ws e (L.getD j 0) = false) ∧ wr.cell? ⟨w.heap.size, 0, none⟩ = some (.int .i64 m) ∧ wr.cell? ⟨w.heap.size, 1, none⟩ = some (.slice A ws.length cap) ∧ Below w.heap.size w wr ∧ w.heap.size < wr.heap.size ∧ RowF wr w1.heap.size w2.heap.size A1 L.length (fun j => L.getD j 0)) (fun i _ => L.length - (intOf i).toNat)
    case atStart => exact ⟨0, Nat.zero_le _, rfl, fun j hj => absurd hj (Nat.not_lt_zero _), k2.1, k2.2, HB2.out, z2, HRO.out⟩
    case round =>
      clear k2
      obtain ⟨k, hk, rfl, hno, b0, b1, hb, hz, hrow⟩ := hrel
      have HB0 := Lib.hid hb
      have HROW := Lib.hid hrow
      have HNO1 := Lib.hid hno
      clear hb hrow hno
      by_cases hlt : k < L.length
      · have hkI : (k : Int) < (L.length : Int) := by omega
        have hk0 : (0 : Int) ≤ (k : Int) := by omega
        obtain ⟨bq, oq, rfl, hq1, hq2, x0, x1⟩ := HROW.out.at_ k hlt
        (try dsimp only at x0)
        obtain ⟨y0, y1⟩ := HAT.out k hlt
        have HFK := Lib.hid (fun h => HFI.out k HNO1.out hlt h)
        have HSTEP : Hid (okC ws e (L.getD k 0) = false → ∀ j, j < k + 1 → okC ws e (L.getD j 0) = false) := fun h j hj => by
          by_cases e : j = k
          · subst e; exact h
          · exact HNO1.out j (by omega)
        generalize L.getD k 0 = y at x0 y0 y1 HFK HSTEP
        have hpc : plOk (m : Int) y = true := plOk_mk y0 (by rw [Int.toNat_natCast, HNI.out]; exact y1)
        have hcc : chosenCost (m : Int) ws e y = so ws (ior e y) := by unfold chosenCost; rw [HNO.out, HPO.out, hpc]; rfl
        have hand : bits .and .i64 y e = iand y e := bits_and _ _ (by omega) (by omega) (by omega) (by omega)
        have HIY : InI y := inI (by omega) (by omega)
        obtain ⟨Q, hQ⟩ : ∃ Q, so ws (ior e y) = Q := ⟨_, rfl⟩
        rw [hQ] at hcc
        have HCC := Lib.hid hcc
        have HQ := Lib.hid hQ
        clear hpc hcc hQ
        by_cases hI : iand y e = 0
        · rw [hI] at hand
          have HI := Lib.hid hI
          clear hI
          by_cases hQC : Q = C
          · have HY := Lib.hid (HFK.out (okC_yes HI.out (by rw [HQ.out, ← HRC.out]; exact hQC)))
            subst hQC
            go_wp2_with fail
            refine (ChosenCost_any m e y A cap ws _ (HR.out.later (by have := HB0.out; go_grown)) (HT.out.later (by have := HB0.out; go_grown)) HIE HIY).mono ?_; rintro e3 w3 ⟨rfl, hb3⟩; rw [HCC.out]
            have HB3 := Lib.hid (bstep (B := w.heap.size) (W := w) HB0.out (Nat.le_of_lt hz) hb3)
            clear hb3
            go_wp2_with fail
            go_ret
            exact ⟨ret_int HY.out.symm, HB3.out⟩
          · have HY := Lib.hid (HSTEP.out (okC_no2 (by rw [HQ.out, ← HRC.out]; exact hQC)))
            go_wp2_with fail
            refine (ChosenCost_any m e y A cap ws _ (HR.out.later (by have := HB0.out; go_grown)) (HT.out.later (by have := HB0.out; go_grown)) HIE HIY).mono ?_; rintro e3 w3 ⟨rfl, hb3⟩; rw [HCC.out]
            have k3 := keep2 hb3 ⟨b0, b1⟩ hz
            have z3 := Nat.lt_of_lt_of_le hz hb3.size
            have HB3 := Lib.hid (bstep (B := w.heap.size) (W := w) HB0.out (Nat.le_of_lt hz) hb3)
            have HRO3 := Lib.hid (HROW.out.below hb3)
            clear hb3
            go_wp2_with fail
            go_roundw
            case rel => exact ⟨k + 1, by omega, by go_num, HY.out, k3.1, k3.2, HB3.out, z3, HRO3.out⟩
            case measure => (simp [intOf]) <;> omega
        · have HY := Lib.hid (HSTEP.out (okC_no1 hI))
          go_wp2_with fail
          go_roundw
          case rel => exact ⟨k + 1, by omega, by go_num, HY.out, b0, b1, HB0.out, hz, HROW.out⟩
          case measure => (simp [intOf]) <;> omega
      · have hkL : k = L.length := by omega
        subst hkL
        have HY := Lib.hid (HNE.out HNO1.out)
        have hkI : ¬ (L.length : Int) < (L.length : Int) := by omega
        go_wp2_with fail
        go_ret
        exact ⟨ret_int HY.out.symm, HB0.out⟩
end Go.Proofs.YtnbihejoglgdhaaDoor
