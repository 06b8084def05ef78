/- The model's SharesOk. -/
import Derived.Test.YtfpaalmbllhmaaaDoorUpE
import Derived.Test.YtfpaalmbllhmaaaDoorUpA
set_option linter.unusedSimpArgs false
set_option linter.unusedVariables false
attribute [local go_sem ↓] Go.wp_at_zero Go.wp_at_succ
namespace Go.Proofs.YtfpaalmbllhmaaaDoor
open Go.ChangeShapes Go.WideShapes Go.ChangeAt Go.RowKit

theorem shareIn_is (x : Int) : shareIn x = inB x 0 81 := rfl
theorem share_in {L : List Int} (h : L.all shareIn = true) (j : Nat) : 0 ≤ L.getD j 0 ∧ L.getD j 0 ≤ 81 := by
  by_cases hj : j < L.length
  · have hx : L[j]? = some L[j] := List.getElem?_eq_getElem hj
    rw [getD_at hx]
    have := List.all_eq_true.1 h L[j] (List.getElem_mem hj)
    unfold shareIn at this
    simpa using this
  · rw [List.getD_eq_getElem?_getD, List.getElem?_eq_none (by omega)]; simp
theorem payTo_bd {L : List Int} (h : L.all shareIn = true) (g : Int) : ∀ k : Nat, 0 ≤ payTo L g k ∧ payTo L g k ≤ 81 * k
  | 0 => by simp [payTo]
  | k + 1 => by
    have ih := payTo_bd h g k
    have := share_in h k
    rw [payTo]
    split <;> omega
theorem payTo_yes {L : List Int} {g : Int} {k : Nat} (h : bit g k = true) : payTo L g (k + 1) = payTo L g k + L.getD k 0 := by rw [payTo, if_pos h]
theorem payTo_no {L : List Int} {g : Int} {k : Nat} (h : bit g k = false) : payTo L g (k + 1) = payTo L g k := by rw [payTo, if_neg (by rw [h]; simp), Int.add_zero]
theorem shares_take {L : List Int} {k : Nat} (h : k < L.length) : (L.take (k + 1)).all shareIn = ((L.take k).all shareIn && shareIn (L.getD k 0)) := by
  have hx : L[k]? = some L[k] := List.getElem?_eq_getElem h
  rw [List.take_add_one, hx, getD_at hx, List.all_append]; simp
theorem shares_false {L : List Int} {k : Nat} (h : k < L.length) (hf : shareIn (L.getD k 0) = false) : L.all shareIn = false := by
  have hx : L[k]? = some L[k] := List.getElem?_eq_getElem h
  rw [getD_at hx] at hf
  rw [List.all_eq_false]
  exact ⟨_, List.getElem_mem h, by rw [hf]; simp⟩
theorem sharesOk_no0 {n : Int} {ws : List Wy} {L : List Int} (h : spanCostOf n ws < 0) : sharesOk n ws L = false := by unfold sharesOk; rw [decide_eq_false (by omega)]; simp
theorem sharesOk_no1 {n : Int} {ws : List Wy} {L : List Int} (h : (L.length : Int) ≠ n) : sharesOk n ws L = false := by unfold sharesOk; rw [decide_eq_false h]; simp
theorem sharesOk_no2 {n : Int} {ws : List Wy} {L : List Int} (h : L.getD 0 0 ≠ 0) : sharesOk n ws L = false := by unfold sharesOk; rw [decide_eq_false h]; simp
theorem sharesOk_no3 {n : Int} {ws : List Wy} {L : List Int} (h : L.all shareIn = false) : sharesOk n ws L = false := by unfold sharesOk; rw [h]; simp
theorem sharesOk_is {n : Int} {ws : List Wy} {L : List Int} (h0 : 0 ≤ spanCostOf n ws) (h1 : (L.length : Int) = n) (h2 : L.getD 0 0 = 0) (h3 : L.all shareIn = true) : sharesOk n ws L = grpTo n ws L (spanCostOf n ws) (2 ^ (n.toNat - 1)) := by
  unfold sharesOk; rw [decide_eq_true h0, decide_eq_true h1, decide_eq_true h2, h3]; rfl
theorem grpTo_false {n : Int} {ws : List Wy} {L : List Int} {all : Int} {j : Nat} (h : grpTo n ws L all j = false) : ∀ d, grpTo n ws L all (j + d) = false
  | 0 => h
  | d + 1 => by rw [Nat.add_succ, grpTo, grpTo_false h d]; rfl
theorem grpTo_no {n : Int} {ws : List Wy} {L : List Int} {all : Int} {j N : Nat} (h : grpOk n ws L all (2 * (j : Int)) = false) (hj : j < N) : grpTo n ws L all N = false := by
  have h1 : grpTo n ws L all (j + 1) = false := by rw [grpTo, h, Bool.and_false]
  have := grpTo_false h1 (N - (j + 1))
  rwa [show j + 1 + (N - (j + 1)) = N from by omega] at this
theorem grpOk_bad1 {n : Int} {ws : List Wy} {L : List Int} {all g c p : Int} (hc : groupCost n ws g = c) (hp : payTo L g L.length = p) (h0 : 0 ≤ c) (h1 : c < p) : grpOk n ws L all g = false := by
  unfold grpOk; rw [hc, hp, decide_eq_true h0, decide_eq_true h1]; rfl
theorem grpOk_bad2 {n : Int} {ws : List Wy} {L : List Int} {all g p : Int} (hp : payTo L g L.length = p) (h0 : g = 2 ^ n.toNat - 2) (h1 : p ≠ all) : grpOk n ws L all g = false := by
  unfold grpOk; rw [hp, decide_eq_true h0, decide_eq_true h1]; simp
theorem grpOk_good {n : Int} {ws : List Wy} {L : List Int} {all g c p : Int} (hc : groupCost n ws g = c) (hp : payTo L g L.length = p) (h0 : ¬ (0 ≤ c ∧ c < p)) (h1 : ¬ (g = 2 ^ n.toNat - 2 ∧ p ≠ all)) : grpOk n ws L all g = true := by
  unfold grpOk; rw [hc, hp]
  simp only [Bool.and_eq_true, Bool.not_eq_true', Bool.and_eq_false_iff, decide_eq_false_iff_not]
  constructor <;> omega
set_option maxRecDepth 100000 in
set_option maxHeartbeats 8000000 in
theorem sSharesOk_any (n : Int) (A : Option Addr) (cap : Nat) (ws : List Wy) (Ar : Option Addr) (cr : Nat) (L : List Int) (w : World) (hr : RW w w.heap.size A ws) (hm : ws.length ≤ 1073741824) (hi : RI w w.heap.size Ar L) (hlm : L.length ≤ 1073741824) :
    Calls Tryd.prog 29 #[.agg #[.int .i64 n, .slice A ws.length cap], .slice Ar L.length cr] w fun en w' => en = .returned (.bool (sharesOk n ws L)) ∧ Below w.heap.size w w' := by
  have HR := Lib.hid hr
  have HRI := Lib.hid hi
  clear hr hi
  obtain ⟨al, hal⟩ : ∃ al, spanCostOf n ws = al := ⟨_, rfl⟩
  have HAL := Lib.hid hal
  by_cases h0 : al < 0
  · rw [sharesOk_no0 (by rw [hal]; exact h0)]
    clear hal
    go_enter Tryd.func29, Tryd.ntmps29
    go_wp2_with fail
    refine (sSpanCost_any _ _ _ _ _ (HR.out.later (by go_grown)) hm).mono ?_; rintro e w1 ⟨rfl, hb1⟩
    rw [HAL.out]
    obtain ⟨hc1, hf1⟩ := bcell hb1
    have hz1_0 : w.heap.size < w1.heap.size := by have hq := hb1.size; (try simp at hq); omega
    have HK1 := Lib.hid hb1
    have HB1 := Lib.hid (bstep (B := w.heap.size) (W := w) (by (try have hp := HB0.out); go_grown) (by go_size) hb1); clear hb1
    go_wp2_with fail
    go_ret
    exact ⟨rfl, HB1.out⟩
  · by_cases h1 : (L.length : Int) = n
    · obtain ⟨hno, -, -, -⟩ := span_yes (n := n) (ws := ws) (by rw [hal]; omega)
      have hni := netOk_t hno
      have hn2 := hni.lo
      have hn6 := hni.hi
      obtain ⟨b, o, hAr, -, -⟩ := HRI.out.at_ (j := 0) (by omega)
      obtain ⟨m, hLm⟩ : ∃ m, L.length = m := ⟨_, rfl⟩
      have HLM := Lib.hid hLm
      rw [hLm] at h1 hlm ⊢
      subst h1
      subst hAr
      obtain ⟨r0, hr0⟩ : ∃ r, L.getD 0 0 = r := ⟨_, rfl⟩
      have HR0 := Lib.hid hr0
      by_cases h2 : r0 = 0
      · have hp6 := pow_bd (m : Int) 6 (by omega)
        rw [Int.toNat_natCast] at hp6
        have HW1 : Hid (IntKind.i64.wrap (2 ^ m) = 2 ^ m) := IntWalk.i64_in _ ⟨by omega, by omega⟩
        have HW2 : Hid (wrap64 (2 ^ m) = 2 ^ m) := IntWalk.wrap64_in _ ⟨by omega, by omega⟩
        have HW3 : Hid (IntKind.i64.wrap (2 ^ m - 2) = 2 ^ m - 2) := IntWalk.i64_in _ ⟨by omega, by omega⟩
        have HW4 : Hid (wrap64 (2 ^ m - 2) = 2 ^ m - 2) := IntWalk.wrap64_in _ ⟨by omega, by omega⟩
        have HM : Hid (2 ≤ m ∧ m ≤ 6) := ⟨by omega, by omega⟩
        have HSO : Hid (L.all shareIn = true → sharesOk (m : Int) ws L = grpTo (m : Int) ws L al (2 ^ (m - 1))) := fun h3 => by
          rw [sharesOk_is (by rw [hal]; omega) (by rw [hLm]) (by rw [hr0, h2]) h3, hal, Int.toNat_natCast]
        have HNO3 : Hid (L.all shareIn = false → sharesOk (m : Int) ws L = false) := sharesOk_no3
        obtain ⟨an, han⟩ : ∃ a, sharesOk (m : Int) ws L = a := ⟨_, rfl⟩
        rw [han] at HSO HNO3 ⊢
        clear hal hno hni hr0 hp6 han hLm
        go_enter Tryd.func29, Tryd.ntmps29
        go_wp2_with fail
        refine (sSpanCost_any _ _ _ _ _ (HR.out.later (by go_grown)) hm).mono ?_; rintro e w1 ⟨rfl, hb1⟩
        rw [HAL.out]
        obtain ⟨hc1, hf1⟩ := bcell hb1
        have hz1_0 : w.heap.size < w1.heap.size := by have hq := hb1.size; (try simp at hq); omega
        have HK1 := Lib.hid hb1
        have HB1 := Lib.hid (bstep (B := w.heap.size) (W := w) (by (try have hp := HB0.out); go_grown) (by go_size) hb1); clear hb1
        have k10 : w1.cell? ⟨w.heap.size, 0, none⟩ = some (.int .i64 m) := by go_simp
        have k11 : w1.cell? ⟨w.heap.size, 1, none⟩ = some (.slice A ws.length cap) := by go_simp
        have q0 : w1.cell? ⟨b, o, none⟩ = some (.int .i64 r0) := by
          have h9 := (HRI.out.later HB1.out).at_ (j := 0) (by have := HM.out; have := HLM.out; omega)
          obtain ⟨b', o', e9, -, c9⟩ := h9
          injection e9 with e9; injection e9 with e91 e92; subst e91; subst e92
          rw [HR0.out] at c9; simpa using c9
        clear hc1 hf1
        go_wp2_with fail
        clear q0
        go_loopw [6] (fun i wr => ∃ k : Nat, k ≤ m ∧ i = .int .i64 k ∧ (L.take k).all shareIn = true ∧ wr = w1) (fun i _ => m - (intOf i).toNat)
        case atStart => exact ⟨0, Nat.zero_le _, rfl, rfl, rfl⟩
        case round =>
          obtain ⟨k, hk, rfl, hall, rfl⟩ := hrel
          have hk0 : (0 : Int) ≤ (k : Int) := by omega
          by_cases hlk : k < m
          · have hkL : k < L.length := by have := HLM.out; omega
            have hk2 : (k : Int) < (m : Int) := by omega
            have qk : wr.cell? ⟨b, o + k, none⟩ = some (.int .i64 (L.getD k 0)) := by
              obtain ⟨b', o', e9, -, c9⟩ := (HRI.out.later HB1.out).at_ hkL
              injection e9 with e9; injection e9 with e91 e92; subst e91; subst e92
              exact c9
            have HTK := Lib.hid (shares_take hkL)
            have HFA : Hid (shareIn (L.getD k 0) = false → L.all shareIn = false) := shares_false hkL
            rw [hall, Bool.true_and] at HTK
            obtain ⟨x, hx⟩ : ∃ x, L.getD k 0 = x := ⟨_, rfl⟩
            rw [hx] at qk HTK HFA
            clear hx
            cases hin : inB x 0 81
            · have HIN := Lib.hid hin
              have HF : Hid (an = false) := HNO3.out (HFA.out hin)
              clear hin HTK HFA hall
              go_wp2_with fail
              refine (l1In_any x 0 81 _).mono ?_; rintro e2 w2 ⟨rfl, rfl⟩; rw [HIN.out]
              go_wp2_with fail
              go_ret
              exact ⟨ret_bool HF.out.symm, HB1.out⟩
            · have HIN := Lib.hid hin
              have HT1 : Hid ((L.take (k + 1)).all shareIn = true) := HTK.out.trans hin
              clear hin HTK HFA hall
              go_wp2_with fail
              refine (l1In_any x 0 81 _).mono ?_; rintro e2 w2 ⟨rfl, rfl⟩; rw [HIN.out]
              go_wp2_with fail
              go_roundw
              case rel => exact ⟨k + 1, by omega, by go_num, HT1.out, by first | rfl | trivial⟩
              case measure => (simp [intOf]) <;> omega
          · obtain rfl : m = k := by omega
            rw [show L.take m = L from by rw [← HLM.out, List.take_length]] at hall
            have HALL := Lib.hid hall
            have hso := HSO.out hall
            have h2N : (2 : Int) ^ m = 2 * ((2 ^ (m - 1) : Nat) : Int) := by
              have h9 := half_pow (n := (m : Int)) (by omega)
              rw [Int.toNat_natCast] at h9
              rw [h9]; simp
            have hN32 : 2 ^ (m - 1) ≤ 32 := by
              have h9 := Nat.pow_le_pow_right (n := 2) (by omega) (show m - 1 ≤ 5 by have := HM.out; omega)
              simpa using h9
            obtain ⟨N, hN⟩ : ∃ N, 2 ^ (m - 1) = N := ⟨_, rfl⟩
            rw [hN] at h2N hN32 hso
            have HAN := Lib.hid hso
            have H2N := Lib.hid h2N
            obtain ⟨M, hM⟩ : ∃ M : Int, 2 ^ m = M := ⟨_, rfl⟩
            have HMM := Lib.hid hM
            have HV1 : Hid (IntKind.i64.wrap (2 ^ m) = M) := HW1.out.trans hM
            have HV2 : Hid (wrap64 (2 ^ m) = M) := HW2.out.trans hM
            rw [hM] at HW3 HW4
            have hM2 : M = 2 * (N : Int) := by rw [← hM]; exact h2N
            have HM2 := Lib.hid hM2
            have HVM : Hid (IntKind.i64.wrap M = M) := IntWalk.i64_in _ ⟨by omega, by omega⟩
            have HVM2 : Hid (wrap64 M = M) := IntWalk.wrap64_in _ ⟨by omega, by omega⟩
            have hMb : 0 ≤ M ∧ M ≤ 64 := by omega
            clear hall HSO HNO3 h2N hN hM hso hM2
            have hw1 := HV1.out
            have hw2 := HV2.out
            have hm0 : (0 : Int) ≤ (m : Int) := by omega
            have hb1z := hz1_0
            go_wp2_with fail
            clear hw1 hw2
            go_loopw [7] (fun gv wr => ∃ j : Nat, j ≤ N ∧ gv = .int .i64 (2 * (j : Int)) ∧ grpTo (m : Int) ws L al j = true ∧ wr.cell? ⟨w.heap.size, 0, none⟩ = some (.int .i64 m) ∧ wr.cell? ⟨w.heap.size, 1, none⟩ = some (.slice A ws.length cap) ∧ Below w.heap.size w wr ∧ w.heap.size < wr.heap.size) (fun gv _ => (M - intOf gv).toNat)
            case atStart => exact ⟨0, Nat.zero_le _, rfl, rfl, k10, k11, HB1.out, hz1_0⟩
            case round =>
              clear k10 k11 HB1 HK1 hz1_0 hb1z
              obtain ⟨j, hj, rfl, hgt, b0, b1, hb, hz⟩ := hrel
              have HB0 := Lib.hid hb
              have HGT := Lib.hid hgt
              clear hb hgt
              by_cases hlj : j < N
              · have hj1 : 2 * (j : Int) < M := by have := HM2.out; omega
                have hj2 : (0 : Int) ≤ 2 * (j : Int) := by omega
                have HGO : Hid (grpOk (m : Int) ws L al (2 * (j : Int)) = false → an = false) := fun h => HAN.out.trans (grpTo_no h hlj)
                have HGS : Hid (grpTo (m : Int) ws L al (j + 1) = grpOk (m : Int) ws L al (2 * (j : Int))) := by show _ = _; rw [grpTo, HGT.out, Bool.true_and]
                obtain ⟨G, hG⟩ : ∃ G : Int, 2 * (j : Int) = G := ⟨_, rfl⟩
                have HG := Lib.hid hG
                rw [hG] at HGO HGS hj1 hj2 ⊢
                have HWG : Hid (IntKind.i64.wrap (G + 2) = G + 2) := IntWalk.i64_in _ ⟨by omega, by omega⟩
                have HWG2 : Hid (wrap64 (G + 2) = G + 2) := IntWalk.wrap64_in _ ⟨by omega, by omega⟩
                clear hG
                have hw1 := HV1.out
                have hw2 := HV2.out
                obtain ⟨wo, hwo⟩ : ∃ wo : World, wo = wr := ⟨_, rfl⟩
                subst hwo
                go_wp2_with fail
                clear hw1 hw2
                go_loopw [8, 9] (fun sv i wr => ∃ k : Nat, k ≤ m ∧ sv = .int .i64 (payTo L G k) ∧ i = .int .i64 k ∧ wo = wr) (fun _ i _ => m - (intOf i).toNat)
                case atStart => exact ⟨0, Nat.zero_le _, rfl, rfl, rfl⟩
                case round =>
                  obtain ⟨k, hk, rfl, rfl, rfl⟩ := hrel
                  have hk0 : (0 : Int) ≤ (k : Int) := by omega
                  have hpb := payTo_bd HALL.out G k
                  by_cases hlk : k < m
                  · have hkL : k < L.length := by have := HLM.out; omega
                    have hk2 : (k : Int) < (m : Int) := by omega
                    have hk60 : (k : Int) ≤ 60 := by omega
                    have qk : wo.cell? ⟨b, o + k, none⟩ = some (.int .i64 (L.getD k 0)) := by
                      obtain ⟨b', o', e9, -, c9⟩ := (HRI.out.later HB0.out).at_ hkL
                      injection e9 with e9; injection e9 with e91 e92; subst e91; subst e92
                      exact c9
                    have hq0 : 0 ≤ G / 2 ^ k := (div_pow_bd G k hj2).1
                    have hq1 : (G / 2 ^ k % 2 == 1) = bit G k := bit_mod_nat G k hj2
                    have hsi := share_in HALL.out k
                    have hyes := payTo_yes (L := L) (g := G) (k := k)
                    have hno := payTo_no (L := L) (g := G) (k := k)
                    obtain ⟨x, hx⟩ : ∃ x, L.getD k 0 = x := ⟨_, rfl⟩
                    obtain ⟨u, hu⟩ : ∃ u, payTo L G k = u := ⟨_, rfl⟩
                    rw [hx] at qk hsi hyes
                    rw [hu] at hpb hyes hno ⊢
                    clear hx hu
                    cases hbt : bit G k
                    · rw [hbt] at hq1
                      have HS1 := Lib.hid (hno hbt)
                      clear hyes hno hbt hsi hpb
                      go_wp2_with fail
                      go_roundw
                      case rel => exact ⟨k + 1, by omega, by rw [HS1.out], by go_num, by first | rfl | trivial⟩
                      case measure => (simp [intOf]) <;> omega
                    · rw [hbt] at hq1
                      have HS1 := Lib.hid (hyes hbt)
                      have wk : IntKind.i64.wrap (u + x) = u + x := IntWalk.i64_in _ ⟨by omega, by omega⟩
                      have wk2 : wrap64 (u + x) = u + x := IntWalk.wrap64_in _ ⟨by clear wk; omega, by clear wk; omega⟩
                      clear hyes hno hbt hsi hpb
                      go_wp2_with fail
                      clear wk wk2
                      go_roundw
                      case rel => exact ⟨k + 1, by omega, by rw [HS1.out], by go_num, by first | rfl | trivial⟩
                      case measure => (simp [intOf]) <;> omega
                  · obtain rfl : m = k := by omega
                    obtain ⟨p, hp⟩ : ∃ p, payTo L G m = p := ⟨_, rfl⟩
                    obtain ⟨c, hc⟩ : ∃ c, groupCost (m : Int) ws G = c := ⟨_, rfl⟩
                    have HP : Hid (payTo L G L.length = p) := by show _ = _; rw [HLM.out]; exact hp
                    have HC := Lib.hid hc
                    rw [hp]
                    have HGE : Hid (G = M - 2 ↔ G = 2 ^ (m : Int).toNat - 2) := by show _ ↔ _; rw [Int.toNat_natCast, HMM.out]
                    clear hp hc hpb
                    by_cases a1 : 0 ≤ c
                    · by_cases a2 : c < p
                      · have HGD := Lib.hid (HGO.out (grpOk_bad1 HC.out HP.out a1 a2))
                        have hw1 := HV1.out
                        have hw2 := HV2.out
                        have hw3 := HW3.out
                        have hw4 := HW4.out
                        go_wp2_with fail
                        refine (sGroupCost_any _ _ _ _ _ _ (HR.out.later HB0.out) hm).mono ?_; rintro e w1 ⟨rfl, hb1⟩
                        rw [HC.out]
                        obtain ⟨hc1, hf1⟩ := bcell hb1
                        have hz1_0 : w.heap.size < w1.heap.size := by have hq := hb1.size; (try simp at hq); omega
                        have HK1 := Lib.hid hb1
                        have HB1 := Lib.hid (bstep (B := w.heap.size) (W := w) (by (try have hp := HB0.out); go_grown) (by go_size) hb1); clear hb1
                        go_wp2_with fail
                        go_ret
                        exact ⟨ret_bool HGD.out.symm, HB1.out⟩
                      · by_cases a3 : G = M - 2
                        · by_cases a4 : p = al
                          · have HGD := Lib.hid (HGS.out.trans (grpOk_good HC.out HP.out (by omega) (by rw [← HGE.out]; omega)))
                            have a4' : (p != al) = false := by simpa using a4
                            subst a3
                            clear a4
                            have hw1 := HV1.out
                            have hw2 := HV2.out
                            have hw3 := HW3.out
                            have hw4 := HW4.out
                            have hwg := HWG.out
                            have hwg2 := HWG2.out
                            have hvm := HVM.out
                            have hvm2 := HVM2.out
                            go_wp2_with fail
                            refine (sGroupCost_any _ _ _ _ _ _ (HR.out.later HB0.out) hm).mono ?_; rintro e w1 ⟨rfl, hb1⟩
                            rw [HC.out]
                            obtain ⟨hc1, hf1⟩ := bcell hb1
                            have hz1_0 : w.heap.size < w1.heap.size := by have hq := hb1.size; (try simp at hq); omega
                            have HK1 := Lib.hid hb1
                            have HB1 := Lib.hid (bstep (B := w.heap.size) (W := w) (by (try have hp := HB0.out); go_grown) (by go_size) hb1); clear hb1
                            have y0 : w1.cell? ⟨w.heap.size, 0, none⟩ = some (.int .i64 m) := by go_simp
                            have y1 : w1.cell? ⟨w.heap.size, 1, none⟩ = some (.slice A ws.length cap) := by go_simp
                            go_wp2_with fail
                            clear hw1 hw2 hw3 hw4 hwg hwg2 hvm hvm2
                            go_roundw
                            case rel => exact ⟨j + 1, by omega, by have hh := HG.out; (show Value.int .i64 _ = Value.int .i64 _; congr 1; omega), HGD.out, y0, y1, HB1.out, hz1_0⟩
                            case measure => (simp [intOf]) <;> (have := HM2.out; omega)
                          · have HGD := Lib.hid (HGO.out (grpOk_bad2 HP.out (HGE.out.1 a3) a4))
                            have a4' : (p != al) = true := by simpa using a4
                            subst a3
                            clear a4
                            have hw1 := HV1.out
                            have hw2 := HV2.out
                            have hw3 := HW3.out
                            have hw4 := HW4.out
                            go_wp2_with fail
                            refine (sGroupCost_any _ _ _ _ _ _ (HR.out.later HB0.out) hm).mono ?_; rintro e w1 ⟨rfl, hb1⟩
                            rw [HC.out]
                            obtain ⟨hc1, hf1⟩ := bcell hb1
                            have hz1_0 : w.heap.size < w1.heap.size := by have hq := hb1.size; (try simp at hq); omega
                            have HK1 := Lib.hid hb1
                            have HB1 := Lib.hid (bstep (B := w.heap.size) (W := w) (by (try have hp := HB0.out); go_grown) (by go_size) hb1); clear hb1
                            go_wp2_with fail
                            go_ret
                            exact ⟨ret_bool HGD.out.symm, HB1.out⟩
                        · have HGD := Lib.hid (HGS.out.trans (grpOk_good HC.out HP.out (by omega) (by rw [← HGE.out]; omega)))
                          have a3' : (G == M - 2) = false := by simpa using a3
                          clear a3
                          have hw1 := HV1.out
                          have hw2 := HV2.out
                          have hw3 := HW3.out
                          have hw4 := HW4.out
                          have hwg := HWG.out
                          have hwg2 := HWG2.out
                          have hvm := HVM.out
                          have hvm2 := HVM2.out
                          go_wp2_with fail
                          refine (sGroupCost_any _ _ _ _ _ _ (HR.out.later HB0.out) hm).mono ?_; rintro e w1 ⟨rfl, hb1⟩
                          rw [HC.out]
                          obtain ⟨hc1, hf1⟩ := bcell hb1
                          have hz1_0 : w.heap.size < w1.heap.size := by have hq := hb1.size; (try simp at hq); omega
                          have HK1 := Lib.hid hb1
                          have HB1 := Lib.hid (bstep (B := w.heap.size) (W := w) (by (try have hp := HB0.out); go_grown) (by go_size) hb1); clear hb1
                          have y0 : w1.cell? ⟨w.heap.size, 0, none⟩ = some (.int .i64 m) := by go_simp
                          have y1 : w1.cell? ⟨w.heap.size, 1, none⟩ = some (.slice A ws.length cap) := by go_simp
                          go_wp2_with fail
                          clear hw1 hw2 hw3 hw4 hwg hwg2 hvm hvm2
                          go_roundw
                          case rel => exact ⟨j + 1, by omega, by have hh := HG.out; (show Value.int .i64 _ = Value.int .i64 _; congr 1; omega), HGD.out, y0, y1, HB1.out, hz1_0⟩
                          case measure => (simp [intOf]) <;> (have := HM2.out; omega)
                    · by_cases a3 : G = M - 2
                      · by_cases a4 : p = al
                        · have HGD := Lib.hid (HGS.out.trans (grpOk_good HC.out HP.out (by omega) (by rw [← HGE.out]; omega)))
                          have a4' : (p != al) = false := by simpa using a4
                          subst a3
                          clear a4
                          have hw1 := HV1.out
                          have hw2 := HV2.out
                          have hw3 := HW3.out
                          have hw4 := HW4.out
                          have hwg := HWG.out
                          have hwg2 := HWG2.out
                          have hvm := HVM.out
                          have hvm2 := HVM2.out
                          go_wp2_with fail
                          refine (sGroupCost_any _ _ _ _ _ _ (HR.out.later HB0.out) hm).mono ?_; rintro e w1 ⟨rfl, hb1⟩
                          rw [HC.out]
                          obtain ⟨hc1, hf1⟩ := bcell hb1
                          have hz1_0 : w.heap.size < w1.heap.size := by have hq := hb1.size; (try simp at hq); omega
                          have HK1 := Lib.hid hb1
                          have HB1 := Lib.hid (bstep (B := w.heap.size) (W := w) (by (try have hp := HB0.out); go_grown) (by go_size) hb1); clear hb1
                          have y0 : w1.cell? ⟨w.heap.size, 0, none⟩ = some (.int .i64 m) := by go_simp
                          have y1 : w1.cell? ⟨w.heap.size, 1, none⟩ = some (.slice A ws.length cap) := by go_simp
                          go_wp2_with fail
                          clear hw1 hw2 hw3 hw4 hwg hwg2 hvm hvm2
                          go_roundw
                          case rel => exact ⟨j + 1, by omega, by have hh := HG.out; (show Value.int .i64 _ = Value.int .i64 _; congr 1; omega), HGD.out, y0, y1, HB1.out, hz1_0⟩
                          case measure => (simp [intOf]) <;> (have := HM2.out; omega)
                        · have HGD := Lib.hid (HGO.out (grpOk_bad2 HP.out (HGE.out.1 a3) a4))
                          have a4' : (p != al) = true := by simpa using a4
                          subst a3
                          clear a4
                          have hw1 := HV1.out
                          have hw2 := HV2.out
                          have hw3 := HW3.out
                          have hw4 := HW4.out
                          go_wp2_with fail
                          refine (sGroupCost_any _ _ _ _ _ _ (HR.out.later HB0.out) hm).mono ?_; rintro e w1 ⟨rfl, hb1⟩
                          rw [HC.out]
                          obtain ⟨hc1, hf1⟩ := bcell hb1
                          have hz1_0 : w.heap.size < w1.heap.size := by have hq := hb1.size; (try simp at hq); omega
                          have HK1 := Lib.hid hb1
                          have HB1 := Lib.hid (bstep (B := w.heap.size) (W := w) (by (try have hp := HB0.out); go_grown) (by go_size) hb1); clear hb1
                          go_wp2_with fail
                          go_ret
                          exact ⟨ret_bool HGD.out.symm, HB1.out⟩
                      · have HGD := Lib.hid (HGS.out.trans (grpOk_good HC.out HP.out (by omega) (by rw [← HGE.out]; omega)))
                        have a3' : (G == M - 2) = false := by simpa using a3
                        clear a3
                        have hw1 := HV1.out
                        have hw2 := HV2.out
                        have hw3 := HW3.out
                        have hw4 := HW4.out
                        have hwg := HWG.out
                        have hwg2 := HWG2.out
                        have hvm := HVM.out
                        have hvm2 := HVM2.out
                        go_wp2_with fail
                        refine (sGroupCost_any _ _ _ _ _ _ (HR.out.later HB0.out) hm).mono ?_; rintro e w1 ⟨rfl, hb1⟩
                        rw [HC.out]
                        obtain ⟨hc1, hf1⟩ := bcell hb1
                        have hz1_0 : w.heap.size < w1.heap.size := by have hq := hb1.size; (try simp at hq); omega
                        have HK1 := Lib.hid hb1
                        have HB1 := Lib.hid (bstep (B := w.heap.size) (W := w) (by (try have hp := HB0.out); go_grown) (by go_size) hb1); clear hb1
                        have y0 : w1.cell? ⟨w.heap.size, 0, none⟩ = some (.int .i64 m) := by go_simp
                        have y1 : w1.cell? ⟨w.heap.size, 1, none⟩ = some (.slice A ws.length cap) := by go_simp
                        go_wp2_with fail
                        clear hw1 hw2 hw3 hw4 hwg hwg2 hvm hvm2
                        go_roundw
                        case rel => exact ⟨j + 1, by omega, by have hh := HG.out; (show Value.int .i64 _ = Value.int .i64 _; congr 1; omega), HGD.out, y0, y1, HB1.out, hz1_0⟩
                        case measure => (simp [intOf]) <;> (have := HM2.out; omega)
              · obtain rfl : j = N := by omega
                have hj1 : ¬ 2 * (j : Int) < M := by have := HM2.out; omega
                have hw1 := HV1.out
                have hw2 := HV2.out
                go_wp2_with fail
                go_ret
                exact ⟨ret_bool (HAN.out.trans HGT.out).symm, HB0.out⟩
      · rw [sharesOk_no2 (by rw [hr0]; exact h2)]
        clear hal hno hni hr0 hLm
        go_enter Tryd.func29, Tryd.ntmps29
        go_wp2_with fail
        refine (sSpanCost_any _ _ _ _ _ (HR.out.later (by go_grown)) hm).mono ?_; rintro e w1 ⟨rfl, hb1⟩
        rw [HAL.out]
        obtain ⟨hc1, hf1⟩ := bcell hb1
        have hz1_0 : w.heap.size < w1.heap.size := by have hq := hb1.size; (try simp at hq); omega
        have HK1 := Lib.hid hb1
        have HB1 := Lib.hid (bstep (B := w.heap.size) (W := w) (by (try have hp := HB0.out); go_grown) (by go_size) hb1); clear hb1
        have q0 : w1.cell? ⟨b, o, none⟩ = some (.int .i64 r0) := by
          have h9 := (HRI.out.later HB1.out).at_ (j := 0) (by have := HLM.out; omega)
          obtain ⟨b', o', e9, -, c9⟩ := h9
          injection e9 with e9; injection e9 with e91 e92; subst e91; subst e92
          rw [HR0.out] at c9; simpa using c9
        have h2' : (r0 != 0) = true := by simpa using h2
        go_wp2_with fail
        go_ret
        exact ⟨rfl, HB1.out⟩
    · rw [sharesOk_no1 h1]
      have hne : ((L.length : Int) != n) = true := by simpa using h1
      clear hal
      go_enter Tryd.func29, Tryd.ntmps29
      go_wp2_with fail
      refine (sSpanCost_any _ _ _ _ _ (HR.out.later (by go_grown)) hm).mono ?_; rintro e w1 ⟨rfl, hb1⟩
      rw [HAL.out]
      obtain ⟨hc1, hf1⟩ := bcell hb1
      have hz1_0 : w.heap.size < w1.heap.size := by have hq := hb1.size; (try simp at hq); omega
      have HK1 := Lib.hid hb1
      have HB1 := Lib.hid (bstep (B := w.heap.size) (W := w) (by (try have hp := HB0.out); go_grown) (by go_size) hb1); clear hb1
      go_wp2_with fail
      go_ret
      exact ⟨rfl, HB1.out⟩
end Go.Proofs.YtfpaalmbllhmaaaDoor
