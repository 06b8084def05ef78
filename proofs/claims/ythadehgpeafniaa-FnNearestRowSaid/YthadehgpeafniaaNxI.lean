/- The program's least dearest way, what ends cover, the fewest ends, the centre. -/
import Derived.Test.YthadehgpeafniaaNxIc
import Derived.Test.YthadehgpeafniaaNxD
set_option linter.unusedSimpArgs false
set_option linter.unusedVariables false
attribute [local go_sem ↓] Go.wp_at_zero Go.wp_at_succ
namespace Go.Proofs.Ythadehgpeafniaa
open Go.ChangeShapes Go.WideShapes Go.ChangeAt Go.RowKit

theorem cv_bad {F : Nat → Nat → Int} {m : Nat} {e : Int} {k : Nat} (hk : k < m) (h : nrTo F e k m < 0) : cv F m e = -1 := by
  unfold cv
  rw [if_neg]
  rw [allNr_iff]
  intro h9
  have := h9 k hk
  omega
theorem cv_told {F : Nat → Nat → Int} {m : Nat} (hm : 0 < m) {e : Int} (h : ∀ j, j < m → 0 ≤ nrTo F e j m) : cv F m e = max 0 (cvTo F m e m) := by
  unfold cv
  rw [if_pos (allNr_iff.2 h)]
  have h1 := (cvTo_le (F := F) (m := m) (e := e) (c := cvTo F m e m) (cvTo_ge F m e m) m).1 (Int.le_refl _) 0 hm
  obtain ⟨_, h2, _⟩ := (nrTo_ok F e 0 m).some (h 0 hm)
  omega
set_option maxRecDepth 100000 in
set_option maxHeartbeats 4000000 in
theorem CoverCost_any (n e : Int) (A : Option Addr) (cap : Nat) (ws : List Wy) (w : World) (hr : RW w w.heap.size A ws) :
    Calls Try.prog 21 #[.agg #[.int .i64 n, .slice A ws.length cap], .int .i64 e] w fun en w' => en = .returned (.int .i64 (coverCost n ws e)) ∧ Below w.heap.size w w' := by
  have HR := Lib.hid hr
  clear hr
  unfold coverCost
  cases hok : netOk n ws && plOk n e
  · have HOK := Lib.hid hok
    rw [if_neg (by simp)]
    clear hok
    go_enter Try.func21, Try.ntmps21
    go_wp2_with fail
    refine (endsOk_any _ _ _ _ _ _ (HR.out.later (by go_grown))).mono ?_; rintro e w1 ⟨rfl, hb1⟩
    rw [HOK.out]
    obtain ⟨hc1, hf1⟩ := bcell hb1
    have hz1_0 : w.heap.size < w1.heap.size := by have hq := hb1.size; (try simp at hq); omega
    have HK1 := Lib.hid hb1
    have HB1 := Lib.hid (bstep (B := w.heap.size) (W := w) (by (try have hp := HB0.out); go_grown) (by go_size) hb1); clear hb1
    go_wp2_with fail
    go_ret
    exact ⟨rfl, HB1.out⟩
  · have HOK := Lib.hid hok
    obtain ⟨hno, hpe⟩ : netOk n ws = true ∧ plOk n e = true := by simpa using hok
    have hn := netOk_t hno
    have HNO := Lib.hid hno
    obtain ⟨m, rfl⟩ := Int.eq_ofNat_of_zero_le (show 0 ≤ n by have := hn.lo; omega)
    rw [if_pos rfl, Int.toNat_natCast]
    have hn6 := hn.hi
    have hn2 := hn.lo
    have hm6 : m ≤ 6 := by omega
    have hm0 : 0 < m := by omega
    have HBD : Hid (∀ a b, a < m → b < m → farF ws m a b ≤ 1000) := fun a b ha hb => farF_bd hn ha hb
    have HNR : Hid (nearestRow (m : Int) ws e = (List.range m).map (fun a => nrTo (farF ws m) e a m)) := by
      show _ = _
      unfold nearestRow
      rw [hok, if_pos rfl, Int.toNat_natCast]
    obtain ⟨F, hF⟩ : ∃ F, farF ws m = F := ⟨_, rfl⟩
    have HF := Lib.hid hF
    rw [hF] at HBD HNR ⊢
    have HLE : Hid ((nearestRow (m : Int) ws e).length = m) := by show _ = _; rw [HNR.out, List.length_map, List.length_range]
    have HLA : Hid (∀ j, j < m → (nearestRow (m : Int) ws e).getD j 0 = nrTo F e j m) := fun j hj => by rw [HNR.out]; simp [List.getD, hj]
    obtain ⟨L, hL⟩ : ∃ L, nearestRow (m : Int) ws e = L := ⟨_, rfl⟩
    have HL := Lib.hid hL
    rw [hL] at HLE HLA
    clear hok hno hpe hn hF hL HNR
    go_enter Try.func21, Try.ntmps21
    go_wp2_with fail
    refine (endsOk_any _ _ _ _ _ _ (HR.out.later (by go_grown))).mono ?_; rintro e w1 ⟨rfl, hb1⟩
    rw [HOK.out]
    obtain ⟨hc1, hf1⟩ := bcell hb1
    have hz1_0 : w.heap.size < w1.heap.size := by have hq := hb1.size; (try simp at hq); omega
    have HK1 := Lib.hid hb1
    have HB1 := Lib.hid (bstep (B := w.heap.size) (W := w) (by (try have hp := HB0.out); go_grown) (by go_size) hb1); clear hb1
    have b0 : w1.cell? ⟨w.heap.size, 0, none⟩ = some (.int .i64 m) := by go_simp
    have b1 : w1.cell? ⟨w.heap.size, 1, none⟩ = some (.slice A ws.length cap) := by go_simp
    clear hc1 hf1 HK1
    go_wp2_with fail
    refine (FarTable_any m A cap ws _ (HR.out.later HB1.out) HNO.out).mono ?_; rintro en2 w2 ⟨Tt, hTt, rfl, htab, hb2⟩
    rw [HF.out] at htab
    have k2 := keep2 hb2 ⟨b0, b1⟩ hz1_0
    obtain ⟨c0', c1'⟩ := k2
    have hz2 := Nat.lt_of_lt_of_le hz1_0 hb2.size
    have HB2 := Lib.hid (bstep (B := w.heap.size) (W := w) HB1.out (Nat.le_of_lt hz1_0) hb2)
    have HTAB2 := Lib.hid htab
    clear hTt htab hb2 b0 b1
    go_wp2_with fail
    refine (NearestRow_any (m : Int) e A cap ws _ (HR.out.later HB2.out)).mono ?_; rintro en3 w3 ⟨A3, c3, rfl, hrow, hb3⟩
    rw [HL.out, HLE.out] at hrow ⊢
    have HROW := Lib.hid hrow
    have htab3 := HTAB2.out.below hb3
    have HTAB := Lib.hid htab3
    have HB3 := Lib.hid (bstep (B := w.heap.size) (W := w) HB2.out (Nat.le_of_lt hz2) hb3)
    clear hrow htab3 hb3 c0' c1' HTAB2
    go_wp2_with fail
    go_loopw [6, 19] (fun c i wr => ∃ k : Nat, k ≤ m ∧ i = .int .i64 k ∧ c = .int .i64 (max 0 (cvTo F m e k)) ∧ Hid (∀ j, j < k → 0 ≤ nrTo F e j m) ∧ w3 = wr) (fun _ i _ => m - (intOf i).toNat)
    case atStart => exact ⟨0, Nat.zero_le _, rfl, rfl, Lib.hid (fun j hj => absurd hj (Nat.not_lt_zero j)), rfl⟩
    case round =>
      obtain ⟨k, hk, rfl, rfl, HALL, rfl⟩ := hrel
      have k0 : (0 : Int) ≤ (k : Int) := by omega
      by_cases hlk : k < m
      · have k1 : (k : Int) < (m : Int) := by omega
        obtain ⟨bq, oq, rfl, _, _, x0, x1⟩ := HROW.out.at_ k hlk
        (try dsimp only at x0)
        have tp := HTAB.out.top k hlk
        (try dsimp only at tp)
        have hok := nrTo_ok F e k m
        have hhi := hok.hi
        rw [HLA.out k hlk] at x0
        obtain ⟨X, hX⟩ : ∃ X, max 0 (cvTo F m e k) = X := ⟨_, rfl⟩
        have HST : Hid (max 0 (cvTo F m e (k + 1)) = max X (F k (nrTo F e k m).toNat)) := by show _ = _; rw [cvTo, ← hX]; omega
        rw [hX]
        obtain ⟨E, hE⟩ : ∃ E, nrTo F e k m = E := ⟨_, rfl⟩
        have HE := Lib.hid hE
        rw [hE] at x0 hhi HST
        clear hok hE hX
        by_cases hE0 : E < 0
        · have HV : Hid (cv F m e = -1) := cv_bad hlk (by rw [HE.out]; exact hE0)
          go_wp2_with fail
          go_ret
          exact ⟨ret_int HV.out.symm, HB3.out⟩
        · obtain ⟨x, hx⟩ : ∃ x : Nat, E = x := ⟨E.toNat, by omega⟩
          subst hx
          have xm : x < m := by omega
          have x00 : (0 : Int) ≤ (x : Int) := by omega
          have xm1 : (x : Int) < (m : Int) := by omega
          have cx := (HTAB.out.row k x hlk xm).1
          (try dsimp only at cx)
          rw [Int.toNat_natCast] at HST
          obtain ⟨D, hD⟩ : ∃ D, F k x = D := ⟨_, rfl⟩
          rw [hD] at cx HST
          obtain ⟨M, hM⟩ : ∃ M, max X D = M := ⟨_, rfl⟩
          rw [hM] at HST
          obtain ⟨m1, m2, m3, m4⟩ := nxmax hM
          clear hD
          go_wp2_with fail
          go_roundw
          case rel =>
            refine ⟨k + 1, by omega, by go_num, by rw [HST.out] <;> (first | rfl | trivial), Lib.hid (fun j hj => ?_), by first | rfl | trivial⟩
            by_cases e9 : j = k
            · subst e9; rw [HE.out]; omega
            · exact HALL.out j (by omega)
          case measure => (simp [intOf]) <;> omega
      · obtain rfl : k = m := by omega
        have HV : Hid (cv F k e = max 0 (cvTo F k e k)) := cv_told hm0 HALL.out
        go_wp2_with fail
        go_ret
        exact ⟨ret_int HV.out.symm, HB3.out⟩
theorem nxFe_yes {F : Nat → Nat → Int} {m : Nat} {c : Int} {k : Nat} (h0 : 0 ≤ cv F m k) (h1 : cv F m k ≤ c) : feTo F m c (k + 1) = min (feTo F m c k) (pop k) := by
  rw [feTo, if_pos]; rw [decide_eq_true h0, decide_eq_true h1]; rfl
theorem nxFe_no {F : Nat → Nat → Int} {m : Nat} {c : Int} {k : Nat} (h : ¬ (0 ≤ cv F m k ∧ cv F m k ≤ c)) : feTo F m c (k + 1) = feTo F m c k := by
  rw [feTo, if_neg]; simpa using h
theorem fe_but {F : Nat → Nat → Int} {m N : Nat} {c : Int} (hm6 : m ≤ 6) (hN : allPl m = (N : Int)) : fe F m c = feTo F m c N := by
  have h1 : 2 ^ m = N + 1 := by
    have h2 : ((2 ^ m : Nat) : Int) = N + 1 := by
      rw [← hN]; unfold allPl; rw [Int.toNat_natCast]; simp
    omega
  unfold fe
  rw [h1]
  by_cases h : 0 ≤ cv F m N ∧ cv F m N ≤ c
  · rw [nxFe_yes h.1 h.2]
    have h3 := pop_allPl (n := (m : Int)) (by omega) (by omega)
    rw [hN] at h3
    have h4 := (feTo_ok F m c N).1
    rw [h3]; omega
  · rw [nxFe_no h]
set_option maxRecDepth 100000 in
set_option maxHeartbeats 4000000 in
theorem FewestEnds_any (n c : Int) (A : Option Addr) (cap : Nat) (ws : List Wy) (w : World) (hr : RW w w.heap.size A ws) :
    Calls Try.prog 24 #[.agg #[.int .i64 n, .slice A ws.length cap], .int .i64 c] w fun en w' => en = .returned (.int .i64 (fewestEnds n ws c)) ∧ Below w.heap.size w w' := by
  have HR := Lib.hid hr
  clear hr
  unfold fewestEnds
  cases hno : netOk n ws
  · have HNO := Lib.hid hno
    rw [if_neg (by simp)]
    clear hno
    go_enter Try.func24, Try.ntmps24
    go_wp2_with fail
    refine (NetOk_any _ _ _ _ _ (HR.out.later (by go_grown))).mono ?_; rintro e w1 ⟨rfl, hb1⟩
    rw [HNO.out]
    obtain ⟨hc1, hf1⟩ := bcell hb1
    have hz1_0 : w.heap.size < w1.heap.size := by have hq := hb1.size; (try simp at hq); omega
    have HK1 := Lib.hid hb1
    have HB1 := Lib.hid (bstep (B := w.heap.size) (W := w) (by (try have hp := HB0.out); go_grown) (by go_size) hb1); clear hb1
    go_wp2_with fail
    go_ret
    exact ⟨rfl, HB1.out⟩
  · have HNO := Lib.hid hno
    by_cases hc : 0 ≤ c
    · have hn := netOk_t hno
      obtain ⟨m, rfl⟩ := Int.eq_ofNat_of_zero_le (show 0 ≤ n by have := hn.lo; omega)
      rw [if_pos (by rw [decide_eq_true hc]; rfl), Int.toNat_natCast]
      have hn6 := hn.hi
      have hn2 := hn.lo
      have hm6 : m ≤ 6 := by omega
      have hm0 : 0 < m := by omega
      have hp6 := pow_bd (m : Int) 6 (by omega)
      rw [Int.toNat_natCast] at hp6
      have hap : allPl (m : Int) = 2 ^ m - 1 := by unfold allPl; rw [Int.toNat_natCast]
      obtain ⟨N, hN⟩ := Int.eq_ofNat_of_zero_le (show 0 ≤ allPl (m : Int) by omega)
      have hN63 : N ≤ 63 := by omega
      have HCV : Hid (∀ k : Nat, k < N → coverCost (m : Int) ws k = cv (farF ws m) m k) := fun k hk => by
        have h1 : plOk (m : Int) (k : Int) = true := by
          unfold plOk
          rw [decide_eq_true (show (0 : Int) ≤ (k : Int) by omega), decide_eq_true (show (k : Int) < 2 ^ (m : Int).toNat by rw [Int.toNat_natCast]; omega)]; rfl
        unfold coverCost
        rw [hno, h1, if_pos (by rfl), Int.toNat_natCast]
      have HAP := Lib.hid hN
      obtain ⟨F, hF⟩ : ∃ F, farF ws m = F := ⟨_, rfl⟩
      rw [hF] at HCV ⊢
      have HFE : Hid (fe F m c = feTo F m c N) := fe_but hm6 hN
      have HFB : Hid (∀ k, feTo F m c k ≤ m) := fun k => (feTo_ok F m c k).1
      clear hno hn hp6 hap hN hF
      go_enter Try.func24, Try.ntmps24
      go_wp2_with fail
      refine (NetOk_any _ _ _ _ _ (HR.out.later (by go_grown))).mono ?_; rintro e w1 ⟨rfl, hb1⟩
      rw [HNO.out]
      obtain ⟨hc1, hf1⟩ := bcell hb1
      have hz1_0 : w.heap.size < w1.heap.size := by have hq := hb1.size; (try simp at hq); omega
      have HK1 := Lib.hid hb1
      have HB1 := Lib.hid (bstep (B := w.heap.size) (W := w) (by (try have hp := HB0.out); go_grown) (by go_size) hb1); clear hb1
      have b0 : w1.cell? ⟨w.heap.size, 0, none⟩ = some (.int .i64 m) := by go_simp
      have b1 : w1.cell? ⟨w.heap.size, 1, none⟩ = some (.slice A ws.length cap) := by go_simp
      clear hc1 hf1 HK1
      go_wp2_with fail
      refine (allPlaces_any (m : Int) _ (by omega) (by omega) _).mono ?_; rintro en2 w2 ⟨rfl, hb2⟩
      rw [HAP.out]
      have k2 := keep2 hb2 ⟨b0, b1⟩ hz1_0
      have hz2 := Nat.lt_of_lt_of_le hz1_0 hb2.size
      have HB2 := Lib.hid (bstep (B := w.heap.size) (W := w) HB1.out (Nat.le_of_lt hz1_0) hb2)
      clear hb2 b0 b1
      go_wp2_with fail
      go_loopw [5, 19] (fun o i wr => ∃ k : Nat, k ≤ N ∧ i = .int .i64 k ∧ o = .int .i64 (feTo F m c k) ∧ wr.cell? ⟨w.heap.size, 0, none⟩ = some (.int .i64 m) ∧ wr.cell? ⟨w.heap.size, 1, none⟩ = some (.slice A ws.length cap) ∧ Below w.heap.size w wr ∧ w.heap.size < wr.heap.size) (fun _ i _ => N - (intOf i).toNat)
      case atStart => exact ⟨0, Nat.zero_le _, rfl, rfl, k2.1, k2.2, HB2.out, hz2⟩
      case round =>
        clear k2 HB1 HB2 hz2 hz1_0
        obtain ⟨k, hk, rfl, rfl, b0, b1, hb, hz⟩ := hrel
        have HB0 := Lib.hid hb
        have hk0 : (0 : Int) ≤ (k : Int) := by omega
        clear hb
        by_cases hlt : k < N
        · have hk1 : (k : Int) < (N : Int) := by omega
          have hcv := HCV.out k hlt
          have HY := Lib.hid (nxFe_yes (F := F) (m := m) (c := c) (k := k))
          have HNN := Lib.hid (nxFe_no (F := F) (m := m) (c := c) (k := k))
          obtain ⟨X, hX⟩ : ∃ X, feTo F m c k = X := ⟨_, rfl⟩
          obtain ⟨D, hD⟩ : ∃ D, cv F m k = D := ⟨_, rfl⟩
          rw [hX] at HY HNN ⊢
          rw [hD] at HY HNN hcv
          have HC := Lib.hid hcv
          clear hX hD hcv
          by_cases hd0 : 0 ≤ D
          · by_cases hd1 : D ≤ c
            · have HS := Lib.hid (HY.out hd0 hd1)
              obtain ⟨P, hP⟩ : ∃ P, pop (k : Int) = P := ⟨_, rfl⟩
              have HP := Lib.hid hP
              rw [hP] at HS
              obtain ⟨M, hM⟩ : ∃ M, min X P = M := ⟨_, rfl⟩
              rw [hM] at HS
              obtain ⟨m1, m2, m3, m4⟩ := nxmin hM
              clear hP HY HNN
              go_wp2_with fail
              refine (CoverCost_any (m : Int) k A cap ws _ (HR.out.later HB0.out)).mono ?_; rintro en3 w3 ⟨rfl, hb3⟩; rw [HC.out]
              have k3 := keep2 hb3 ⟨b0, b1⟩ hz
              have z3 := Nat.lt_of_lt_of_le hz hb3.size
              have HB3 := Lib.hid (bstep (B := w.heap.size) (W := w) HB0.out (Nat.le_of_lt hz) hb3)
              clear hb3
              go_wp2_with fail
              refine (sizeOf_any (k : Int) (by omega) (by omega) _).mono ?_; rintro en4 w4 ⟨rfl, rfl⟩; rw [HP.out]
              go_wp2_with fail
              go_roundw
              case rel => exact ⟨k + 1, by omega, by go_num, by rw [HS.out] <;> (first | rfl | trivial), k3.1, k3.2, HB3.out, z3⟩
              case measure => (simp [intOf]) <;> omega
            · have HS := Lib.hid (HNN.out (fun h9 => hd1 h9.2))
              clear HY HNN
              go_wp2_with fail
              refine (CoverCost_any (m : Int) k A cap ws _ (HR.out.later HB0.out)).mono ?_; rintro en3 w3 ⟨rfl, hb3⟩; rw [HC.out]
              have k3 := keep2 hb3 ⟨b0, b1⟩ hz
              have z3 := Nat.lt_of_lt_of_le hz hb3.size
              have HB3 := Lib.hid (bstep (B := w.heap.size) (W := w) HB0.out (Nat.le_of_lt hz) hb3)
              clear hb3
              go_wp2_with fail
              go_roundw
              case rel => exact ⟨k + 1, by omega, by go_num, by rw [HS.out] <;> (first | rfl | trivial), k3.1, k3.2, HB3.out, z3⟩
              case measure => (simp [intOf]) <;> omega
          · have HS := Lib.hid (HNN.out (fun h9 => hd0 h9.1))
            clear HY HNN
            go_wp2_with fail
            refine (CoverCost_any (m : Int) k A cap ws _ (HR.out.later HB0.out)).mono ?_; rintro en3 w3 ⟨rfl, hb3⟩; rw [HC.out]
            have k3 := keep2 hb3 ⟨b0, b1⟩ hz
            have z3 := Nat.lt_of_lt_of_le hz hb3.size
            have HB3 := Lib.hid (bstep (B := w.heap.size) (W := w) HB0.out (Nat.le_of_lt hz) hb3)
            clear hb3
            go_wp2_with fail
            go_roundw
            case rel => exact ⟨k + 1, by omega, by go_num, by rw [HS.out] <;> (first | rfl | trivial), k3.1, k3.2, HB3.out, z3⟩
            case measure => (simp [intOf]) <;> omega
        · obtain rfl : k = N := by omega
          go_wp2_with fail
          go_ret
          exact ⟨ret_int HFE.out.symm, HB0.out⟩
    · rw [if_neg (by rw [decide_eq_false hc]; simp)]
      have hc1 : c < 0 := by omega
      clear hno
      go_enter Try.func24, Try.ntmps24
      go_wp2_with fail
      refine (NetOk_any _ _ _ _ _ (HR.out.later (by go_grown))).mono ?_; rintro e w1 ⟨rfl, hb1⟩
      rw [HNO.out]
      obtain ⟨hc1, hf1⟩ := bcell hb1
      have hz1_0 : w.heap.size < w1.heap.size := by have hq := hb1.size; (try simp at hq); omega
      have HK1 := Lib.hid hb1
      have HB1 := Lib.hid (bstep (B := w.heap.size) (W := w) (by (try have hp := HB0.out); go_grown) (by go_size) hb1); clear hb1
      go_wp2_with fail
      go_ret
      exact ⟨rfl, HB1.out⟩
end Go.Proofs.Ythadehgpeafniaa
