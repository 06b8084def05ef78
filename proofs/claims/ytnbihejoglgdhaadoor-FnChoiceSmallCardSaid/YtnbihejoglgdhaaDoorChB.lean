/- BestChoice of the model. -/
import Derived.Test.YtnbihejoglgdhaaDoorChA
set_option linter.unusedSimpArgs false
set_option linter.unusedVariables false
attribute [local go_sem ↓] Go.wp_at_zero Go.wp_at_succ
namespace Go.Proofs.YtnbihejoglgdhaaDoor
open Go.ChangeShapes Go.WideShapes Go.ChangeAt Go.RowKit

noncomputable def bestChoice (n : Int) (ws : List Wy) (e : Int) : Int := if rootCost n ws e < 0 then -1 else bc n ws e
theorem rc_told2 {n : Int} {ws : List Wy} {e : Int} (h : ¬ rootCost n ws e < 0) : netOk n ws = true ∧ plOk n e = true ∧ rootCost n ws e = rc ws e := by
  cases hk : netOk n ws && plOk n e
  · rw [rootCost_not hk] at h; omega
  · rw [Bool.and_eq_true] at hk
    exact ⟨hk.1, hk.2, rootCost_rc hk.1 hk.2⟩
theorem okC_no1 {ws : List Wy} {e k : Int} (h : iand k e ≠ 0) : okC ws e k = false := by unfold okC; simp [h]
theorem okC_no2 {ws : List Wy} {e k : Int} (h : so ws (ior e k) ≠ rc ws e) : okC ws e k = false := by unfold okC; simp [h]
theorem okC_yes {ws : List Wy} {e k : Int} (h1 : iand k e = 0) (h2 : so ws (ior e k) = rc ws e) : okC ws e k = true := by unfold okC; simp [h1, h2]
theorem bcTo_off {ws : List Wy} {e : Int} {k : Nat} (h : okC ws e k = false) : bcTo ws e (k + 1) = bcTo ws e k := by rw [bcTo, if_neg (by rw [h]; simp)]
theorem bcTo_yes {ws : List Wy} {e : Int} {k : Nat} (h : okC ws e k = true) (h' : bcTo ws e k < 0 ∨ pop k < pop (bcTo ws e k)) : bcTo ws e (k + 1) = k := by rw [bcTo, if_pos ⟨h, h'⟩]
theorem bcTo_no {ws : List Wy} {e : Int} {k : Nat} (h' : ¬ (bcTo ws e k < 0 ∨ pop k < pop (bcTo ws e k))) : bcTo ws e (k + 1) = bcTo ws e k := by rw [bcTo, if_neg (fun h => h' h.2)]
set_option maxRecDepth 100000 in
set_option maxHeartbeats 16000000 in
theorem sBestChoice_any (n e : Int) (A : Option Addr) (cap : Nat) (ws : List Wy) (w : World) (hr : RW w w.heap.size A ws) (hm : ws.length ≤ 1073741824) :
    Calls Tryd.prog 25 #[.agg #[.int .i64 n, .slice A ws.length cap], .int .i64 e] w fun en w' => en = .returned (.int .i64 (bestChoice n ws e)) ∧ Below w.heap.size w w' := by
  have HR := Lib.hid hr
  clear hr
  unfold bestChoice
  obtain ⟨C, hC⟩ : ∃ C, rootCost n ws e = C := ⟨_, rfl⟩
  rw [hC]
  have HC := Lib.hid hC
  by_cases hneg : C < 0
  · rw [if_pos hneg]
    have hlt0 : ¬ 0 ≤ C := by omega
    clear hC
    go_enter Tryd.func25, Tryd.ntmps25
    go_wp2_with fail
    refine (sRootCost_any _ _ _ _ _ _ (HR.out.later (by go_grown)) hm).mono ?_; rintro e1 w1 ⟨rfl, hb1⟩; rw [HC.out]
    have HB1 := Lib.hid (bstep (B := w.heap.size) (W := w) (by go_grown) (by go_size) hb1)
    clear hb1
    go_wp2_with fail
    refine wp_loop_rounds 1 ?_
    rw [rounds_succ]
    go_wp2_with fail
    go_ret
    exact ⟨rfl, HB1.out⟩
  · rw [if_neg hneg]
    obtain ⟨hno, hpo, hrc⟩ := rc_told2 (n := n) (ws := ws) (e := e) (by rw [hC]; exact hneg)
    rw [hC] at hrc
    have hni := netOk_t hno
    obtain ⟨m, rfl⟩ := Int.eq_ofNat_of_zero_le (show 0 ≤ n by have := hni.lo; omega)
    have hm6 : m ≤ 6 := by have := hni.hi; omega
    obtain ⟨he0, he1⟩ := plOk_t hpo
    obtain ⟨N, hN⟩ : ∃ N, 2 ^ m = N := ⟨_, rfl⟩
    have hN64 : N ≤ 64 := by rw [← hN]; exact Nat.pow_le_pow_right (n := 2) (by omega) hm6
    have hNI : ((2 : Int) ^ m) = (N : Int) := by rw [← hN]; simp
    have HWN : Hid (IntKind.i64.wrap ((2 : Int) ^ m) = (N : Int)) := by rw [hNI]; exact IntWalk.i64_in _ ⟨by omega, by omega⟩
    have HWN2 : Hid (wrap64 ((2 : Int) ^ m) = (N : Int)) := by rw [hNI]; exact IntWalk.wrap64_in _ ⟨by omega, by omega⟩
    have he64 : e < N := by rw [Int.toNat_natCast, hNI] at he1; exact he1
    have HNO := Lib.hid hno
    have HPO := Lib.hid hpo
    have HRC := Lib.hid hrc
    have HNI := Lib.hid hNI
    have hbcd : bc (m : Int) ws e = bcTo ws e N := by unfold bc; rw [Int.toNat_natCast, hN]
    rw [hbcd]
    have hge : 0 ≤ C := by omega
    clear hC hno hpo hni he1 hN hNI hrc hbcd
    go_enter Tryd.func25, Tryd.ntmps25
    go_wp2_with fail
    refine (sRootCost_any _ _ _ _ _ _ (HR.out.later (by go_grown)) hm).mono ?_; rintro e1 w1 ⟨rfl, hb1⟩; rw [HC.out]
    have hz1_0 : w.heap.size < w1.heap.size := by have hq := hb1.size; (try simp at hq); omega
    have k1 : w1.cell? ⟨w.heap.size, 0, none⟩ = some (.int .i64 m) ∧ w1.cell? ⟨w.heap.size, 1, none⟩ = some (.slice A ws.length cap) := by
      obtain ⟨hc1, hf1⟩ := bcell hb1
      exact ⟨by go_simp, by go_simp⟩
    have HB1 := Lib.hid (bstep (B := w.heap.size) (W := w) (by go_grown) (by go_size) hb1)
    clear hb1
    go_wp2_with fail
    go_loopw [6, 7] (fun c i wr => ∃ (k : Nat) (b : Int), k ≤ N ∧ c = .int .i64 b ∧ b = bcTo ws e k ∧ i = .int .i64 k ∧ wr.cell? ⟨w.heap.size, 0, none⟩ = some (.int .i64 m) ∧ wr.cell? ⟨w.heap.size, 1, none⟩ = some (.slice A ws.length cap) ∧ Below w.heap.size w wr ∧ w.heap.size < wr.heap.size) (fun _ i _ => N - (intOf i).toNat)
    case atStart => exact ⟨0, -1, Nat.zero_le _, rfl, rfl, rfl, k1.1, k1.2, HB1.out, hz1_0⟩
    case round =>
      clear k1
      obtain ⟨k, b, hk, rfl, hbk, rfl, b0, b1, hb, hz⟩ := hrel
      have HB0 := Lib.hid hb
      have HBK := Lib.hid hbk
      have hbb := bcTo_bd ws e k
      rw [← hbk] at hbb
      clear hb hbk
      by_cases hlt : k < N
      · have hkN : (k : Int) < (N : Int) := by omega
        have hk0 : (0 : Int) ≤ (k : Int) := by omega
        have hpc : plOk (m : Int) (k : Int) = true := plOk_mk hk0 (by rw [Int.toNat_natCast, HNI.out]; exact hkN)
        have HPC := Lib.hid hpc
        have hcc : chosenCost (m : Int) ws e k = so ws (ior e k) := by unfold chosenCost; rw [HNO.out, HPO.out, hpc]; rfl
        have hand : bits .and .i64 (k : Int) e = iand k e := bits_and _ _ (by omega) (by omega) (by omega) (by omega)
        obtain ⟨Q, hQ⟩ : ∃ Q, so ws (ior e k) = Q := ⟨_, rfl⟩
        rw [hQ] at hcc
        have HCC := Lib.hid hcc
        have HQ := Lib.hid hQ
        clear hpc hcc hQ
        have hwn := HWN.out
        have hwn2 := HWN2.out
        by_cases hI : iand (k : Int) e = 0
        · rw [hI] at hand
          have HI := Lib.hid hI
          clear hI
          by_cases hQC : Q = C
          · have hok : okC ws e k = true := okC_yes HI.out (by rw [HQ.out, ← HRC.out]; exact hQC)
            have HOK := Lib.hid hok
            clear hok
            subst hQC
            go_wp2_with fail
            clear hand hwn hwn2
            refine (sChosenCost_any m e k A cap ws _ (HR.out.later (by have := HB0.out; go_grown)) hm).mono ?_; rintro e3 w3 ⟨rfl, hb3⟩; rw [HCC.out]
            obtain ⟨l0, l1⟩ := keep2 hb3 ⟨b0, b1⟩ hz
            have z3 := Nat.lt_of_lt_of_le hz hb3.size
            have HB3 := Lib.hid (bstep (B := w.heap.size) (W := w) HB0.out (Nat.le_of_lt hz) hb3)
            clear hb3
            by_cases hbn : b < 0
            · have HY := Lib.hid (bcTo_yes (ws := ws) (e := e) (k := k) HOK.out (.inl (by rw [← HBK.out]; exact hbn)))
              go_wp2_with fail
              go_roundw
              case rel => exact ⟨k + 1, k, by omega, rfl, HY.out.symm, by go_num, l0, l1, HB3.out, z3⟩
              case measure => (simp [intOf]) <;> omega
            · have hbn0 : 0 ≤ b := by omega
              have hb64 : b < 512 := by omega
              have hk64 : (k : Int) < 512 := by omega
              have hk1N : k + 1 ≤ N := by omega
              obtain ⟨pk, hpk⟩ : ∃ pk, pop (k : Int) = pk := ⟨_, rfl⟩
              obtain ⟨pb, hpb⟩ : ∃ pb, pop b = pb := ⟨_, rfl⟩
              have HPK := Lib.hid hpk
              have HPB := Lib.hid hpb
              clear hpk hpb hm hbb hN64 he64 hneg hge he0 HPC
              go_wp2_with fail
              refine (l1Size_any k hk0 hk64 _).mono ?_; rintro e4 w4 ⟨rfl, rfl⟩; rw [HPK.out]
              go_wp2_with fail
              refine (l1Size_any b hbn0 hb64 _).mono ?_; rintro e5 w5 ⟨rfl, rfl⟩; rw [HPB.out]
              by_cases hps : pk < pb
              · have HY := Lib.hid (bcTo_yes (ws := ws) (e := e) (k := k) HOK.out (.inr (by rw [← HBK.out, HPK.out, HPB.out]; exact hps)))
                go_wp2_with fail
                go_roundw
                case rel => exact ⟨k + 1, k, hk1N, rfl, HY.out.symm, by go_num, l0, l1, HB3.out, z3⟩
                case measure => (simp [intOf]) <;> omega
              · have HY := Lib.hid (bcTo_no (ws := ws) (e := e) (k := k) (by rw [← HBK.out, HPK.out, HPB.out]; omega))
                go_wp2_with fail
                go_roundw
                case rel => exact ⟨k + 1, b, hk1N, rfl, by rw [HY.out]; exact HBK.out, by go_num, l0, l1, HB3.out, z3⟩
                case measure => (simp [intOf]) <;> omega
          · have HY := Lib.hid (bcTo_off (ws := ws) (e := e) (k := k) (okC_no2 (by rw [HQ.out, ← HRC.out]; exact hQC)))
            go_wp2_with fail
            clear hand hwn hwn2
            refine (sChosenCost_any m e k A cap ws _ (HR.out.later (by have := HB0.out; go_grown)) hm).mono ?_; rintro e3 w3 ⟨rfl, hb3⟩; rw [HCC.out]
            obtain ⟨l0, l1⟩ := keep2 hb3 ⟨b0, b1⟩ hz
            have z3 := Nat.lt_of_lt_of_le hz hb3.size
            have HB3 := Lib.hid (bstep (B := w.heap.size) (W := w) HB0.out (Nat.le_of_lt hz) hb3)
            clear hb3
            go_wp2_with fail
            go_roundw
            case rel => exact ⟨k + 1, b, by omega, rfl, by rw [HY.out]; exact HBK.out, by go_num, l0, l1, HB3.out, z3⟩
            case measure => (simp [intOf]) <;> omega
        · have HY := Lib.hid (bcTo_off (ws := ws) (e := e) (k := k) (okC_no1 hI))
          obtain ⟨I, hII⟩ : ∃ I, iand (k : Int) e = I := ⟨_, rfl⟩
          rw [hII] at hand hI
          clear hII
          have hkw : IntKind.i64.wrap ((k : Int) + 1) = (k : Int) + 1 := IntWalk.i64_in _ ⟨by clear hwn hwn2; omega, by clear hwn hwn2; omega⟩
          have hkw2 : wrap64 ((k : Int) + 1) = (k : Int) + 1 := IntWalk.wrap64_in _ ⟨by clear hwn hwn2 hkw; omega, by clear hwn hwn2 hkw; omega⟩
          go_wp2_with fail
          clear hand hwn hwn2 hkw hkw2
          go_roundw
          case rel => exact ⟨k + 1, b, by omega, rfl, by rw [HY.out]; exact HBK.out, by go_num, b0, b1, HB0.out, hz⟩
          case measure => (simp [intOf]) <;> omega
      · have hkN : ¬ (k : Int) < (N : Int) := by omega
        have hkk : k = N := by omega
        subst hkk
        have hwn := HWN.out
        have hwn2 := HWN2.out
        go_wp2_with fail
        clear hwn hwn2
        go_ret
        exact ⟨ret_int HBK.out, HB0.out⟩
end Go.Proofs.YtnbihejoglgdhaaDoor
