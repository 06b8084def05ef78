/- The model's prizes: PrizesOk, l8Gain, GainOf, BestGain, BestWays, EndsGain. -/
import Derived.Test.YtoekaembfieigaaDoorPzM
import Derived.Test.YtoekaembfieigaaDoorUpA
import Derived.Test.YtoekaembfieigaaDoorMD
import Derived.Test.YtoekaembfieigaaDoorME
import Derived.Test.YtoekaembfieigaaDoorMG
import Derived.Test.YtoekaembfieigaaDoorWC
set_option linter.unusedSimpArgs false
set_option linter.unusedVariables false
attribute [local go_sem ↓] Go.wp_at_zero Go.wp_at_succ
namespace Go.Proofs.YtoekaembfieigaaDoor
open Go.ChangeShapes Go.WideShapes Go.ChangeAt Go.RowKit

theorem prizes_take {L : List Int} {k : Nat} (h : k < L.length) : (L.take (k + 1)).all prizeIn = ((L.take k).all prizeIn && prizeIn (L.getD k 0)) := by
  have hx : L[k]? = some L[k] := List.getElem?_eq_getElem h
  rw [List.take_add_one, hx, getD_at hx, List.all_append]; simp
theorem prizes_false {L : List Int} {k : Nat} (h : k < L.length) (hf : prizeIn (L.getD k 0) = false) : L.all prizeIn = false := by
  have hx : L[k]? = some L[k] := List.getElem?_eq_getElem h
  rw [getD_at hx] at hf
  rw [List.all_eq_false]
  exact ⟨_, List.getElem_mem h, by rw [hf]; simp⟩
/-- a number, if it is told -/
def opV : Option Int → Int
  | some x => x
  | none => 0
def opB : Option Int → Bool
  | some _ => true
  | none => false
set_option maxHeartbeats 2000000 in
theorem sPrizesOk_any (n : Int) (A : Option Addr) (cap : Nat) (ws : List Wy) (Ar : Option Addr) (cr : Nat) (pz : List Int) (w : World) (hr : RW w w.heap.size A ws) (hm : ws.length ≤ 1073741824) (hi : RI w w.heap.size Ar pz) (hlm : pz.length ≤ 1073741824) :
    Calls Tryd.prog 18 #[.agg #[.int .i64 n, .slice A ws.length cap], .slice Ar pz.length cr] w fun en w' => en = .returned (.bool (prizesOk n ws pz)) ∧ Below w.heap.size w w' := by
  have HR := Lib.hid hr
  have HI := Lib.hid hi
  obtain ⟨an, han⟩ : ∃ a, prizesOk n ws pz = a := ⟨_, rfl⟩
  have HF : Hid (pz.all prizeIn = false → an = false) := fun h => by rw [← han]; unfold prizesOk; rw [h]; simp
  have HT : Hid (pz.all prizeIn = true → an = (netOk n ws && decide ((pz.length : Int) = n))) := fun h => by rw [← han]; unfold prizesOk; rw [h, Bool.and_true]
  rw [han]
  clear hr hi han
  go_enter Tryd.func18, Tryd.ntmps18
  go_wp2_with fail
  go_loopw [5] (fun i wr => ∃ k : Nat, k ≤ pz.length ∧ i = .int .i64 k ∧ (pz.take k).all prizeIn = true ∧ wr = w.alloc (.cells #[.int .i64 n, .slice A ws.length cap] 25)) (fun i _ => pz.length - (intOf i).toNat)
  case atStart => exact ⟨0, Nat.zero_le _, rfl, rfl, rfl⟩
  case round =>
    obtain ⟨k, hk, rfl, hall, rfl⟩ := hrel
    have hk0 : (0 : Int) ≤ (k : Int) := by omega
    by_cases hlk : k < pz.length
    · have hk1 : (k : Int) < (pz.length : Int) := by omega
      obtain ⟨b, o, rfl, hb, qk⟩ := HI.out.at_ hlk
      have qk2 : (w.alloc (.cells #[.int .i64 n, .slice A ws.length cap] 25)).cell? ⟨b, o + k, none⟩ = some (.int .i64 (pz.getD k 0)) := (World.cell?_alloc_lt _ _ _ hb).trans qk
      have HTK := Lib.hid (prizes_take hlk)
      have HFA : Hid (prizeIn (pz.getD k 0) = false → pz.all prizeIn = false) := prizes_false hlk
      rw [hall, Bool.true_and] at HTK
      obtain ⟨x, hx⟩ : ∃ x, pz.getD k 0 = x := ⟨_, rfl⟩
      rw [hx] at qk2 HTK HFA
      clear hx qk
      cases hin : inB x 0 20
      · have HIN := Lib.hid hin
        have HFF : Hid (an = false) := HF.out (HFA.out hin)
        clear hin HTK HFA hall
        go_wp2_with fail
        refine (l1In_any x 0 20 _).mono ?_; rintro e2 w2 ⟨rfl, rfl⟩; rw [HIN.out]
        go_wp2_with fail
        go_ret
        exact ⟨ret_bool HFF.out.symm, by go_grown⟩
      · have HIN := Lib.hid hin
        have HT1 : Hid ((pz.take (k + 1)).all prizeIn = true) := HTK.out.trans hin
        clear hin HTK HFA hall
        go_wp2_with fail
        refine (l1In_any x 0 20 _).mono ?_; rintro e2 w2 ⟨rfl, rfl⟩; rw [HIN.out]
        go_wp2_with fail
        go_roundw
        case rel => exact ⟨k + 1, by omega, by go_num, HT1.out, by first | rfl | trivial⟩
        case measure => (simp [intOf]) <;> omega
    · obtain rfl : k = pz.length := by omega
      rw [List.take_length] at hall
      have hat := HT.out hall
      obtain ⟨u, hu⟩ : ∃ u : Int, (pz.length : Int) = u := ⟨_, rfl⟩
      cases hno : netOk n ws
      · have HNO := Lib.hid hno
        have HAN : Hid (an = false) := by show _ = _; rw [hat, hno]; rfl
        clear hat hno hall hu
        go_wp2_with fail
        refine (sNetOk_any _ _ _ _ _ (HR.out.later (by go_grown)) hm).mono ?_; rintro e w1 ⟨rfl, hb1⟩
        rw [HNO.out]
        obtain ⟨hc1, hf1⟩ := bcell hb1
        have hz1_0 : w.heap.size < w1.heap.size := by have hq := hb1.size; (try simp at hq); omega
        have HK1 := Lib.hid hb1
        have HB1 := Lib.hid (bstep (B := w.heap.size) (W := w) (by (try have hp := HB0.out); go_grown) (by go_size) hb1); clear hb1
        go_wp2_with fail
        go_ret
        exact ⟨ret_bool HAN.out.symm, HB1.out⟩
      · have HNO := Lib.hid hno
        by_cases hl : (pz.length : Int) = n
        · have HAN : Hid (an = true) := by show _ = _; rw [hat, hno, decide_eq_true hl]; rfl
          have d1 : ((pz.length : Int) == n) = true := by simpa using hl
          have HD := Lib.hid d1
          clear hat hno hall hu hl d1
          go_wp2_with fail
          refine (sNetOk_any _ _ _ _ _ (HR.out.later (by go_grown)) hm).mono ?_; rintro e w1 ⟨rfl, hb1⟩
          rw [HNO.out]
          obtain ⟨hc1, hf1⟩ := bcell hb1
          have hz1_0 : w.heap.size < w1.heap.size := by have hq := hb1.size; (try simp at hq); omega
          have HK1 := Lib.hid hb1
          have HB1 := Lib.hid (bstep (B := w.heap.size) (W := w) (by (try have hp := HB0.out); go_grown) (by go_size) hb1); clear hb1
          have hd := HD.out
          go_wp2_with fail
          go_ret
          exact ⟨ret_bool HAN.out.symm, HB1.out⟩
        · have HAN : Hid (an = false) := by show _ = _; rw [hat, hno, decide_eq_false hl]; rfl
          have d1 : ((pz.length : Int) == n) = false := by simpa using hl
          have HD := Lib.hid d1
          clear hat hno hall hu hl d1
          go_wp2_with fail
          refine (sNetOk_any _ _ _ _ _ (HR.out.later (by go_grown)) hm).mono ?_; rintro e w1 ⟨rfl, hb1⟩
          rw [HNO.out]
          obtain ⟨hc1, hf1⟩ := bcell hb1
          have hz1_0 : w.heap.size < w1.heap.size := by have hq := hb1.size; (try simp at hq); omega
          have HK1 := Lib.hid hb1
          have HB1 := Lib.hid (bstep (B := w.heap.size) (W := w) (by (try have hp := HB0.out); go_grown) (by go_size) hb1); clear hb1
          have hd := HD.out
          go_wp2_with fail
          go_ret
          exact ⟨ret_bool HAN.out.symm, HB1.out⟩
set_option maxHeartbeats 2000000 in
theorem l8Gain_any (n s : Int) (A : Option Addr) (cap : Nat) (ws : List Wy) (Ar : Option Addr) (cr : Nat) (pz : List Int) (w : World) (hr : RW w w.heap.size A ws) (h : PzIs n ws pz) (hi : RI w w.heap.size Ar pz) (s0 : 0 ≤ s) (s1 : s ≤ 1048576) :
    Calls Tryd.prog 19 #[.agg #[.int .i64 n, .slice A ws.length cap], .slice Ar pz.length cr, .int .i64 s] w fun en w' => en = .returned (.int .i64 (gain ws pz s)) ∧ Below w.heap.size w w' := by
  have HR := Lib.hid hr
  have HI := Lib.hid hi
  have hn := netOk_t h.ok
  have HN := Lib.hid hn
  have hn6 := hn.hi
  have hn2 := hn.lo
  have HIN := Lib.hid h.ins
  have HLN := Lib.hid h.len
  have hp0 : 0 < pz.length := by have := h.len; omega
  have hrr := reach_is (s := s) hn (Int.le_refl 0) (by omega)
  have hcb := cost_bds hn s
  unfold gain
  obtain ⟨R, hR⟩ : ∃ R, reach ws s 0 = R := ⟨_, rfl⟩
  obtain ⟨C, hC⟩ : ∃ C, cost ws s = C := ⟨_, rfl⟩
  have HRE := Lib.hid hR
  have HCO := Lib.hid hC
  have hr0 := hrr.lo
  have hr1 := hrr.hi
  rw [hR] at hr0 hr1 ⊢
  rw [hC] at hcb ⊢
  obtain ⟨b, o, hAr, hb, -⟩ := HI.out.at_ hp0
  subst hAr
  have HNG : Hid (IntKind.i64.wrap (-C) = -C) := IntWalk.i64_in _ ⟨by omega, by omega⟩
  have HNG2 : Hid (wrap64 (-C) = -C) := IntWalk.wrap64_in _ ⟨by omega, by omega⟩
  clear hr hi h hn hrr hR hC
  go_enter Tryd.func19, Tryd.ntmps19
  go_wp2_with fail
  refine (l1Reach_any _ _ _ _ _ _ _ (HR.out.later (by go_grown)) HN.out s0 s1 (Int.le_refl 0) (by omega)).mono ?_; rintro e w1 ⟨rfl, hb1⟩
  rw [HRE.out]
  obtain ⟨hc1, hf1⟩ := bcell hb1
  have hz1_0 : w.heap.size < w1.heap.size := by have hq := hb1.size; (try simp at hq); omega
  have HK1 := Lib.hid hb1
  have HB1 := Lib.hid (bstep (B := w.heap.size) (W := w) (by (try have hp := HB0.out); go_grown) (by go_size) hb1); clear hb1
  go_wp2_with fail
  refine (l1Cost_any _ _ _ _ _ _ (HR.out.later (by have := HB1.out; go_grown)) HN.out s0 s1).mono ?_; rintro e w2 ⟨rfl, hb2⟩
  rw [HCO.out]
  obtain ⟨hc2, hf2⟩ := bcell hb2
  have hz2_0 : w.heap.size < w2.heap.size := by have hq := hb2.size; (try simp at hq); omega
  have HK2 := Lib.hid hb2
  have HB2 := Lib.hid (bstep (B := w.heap.size) (W := w) (by have hp := HB1.out; go_grown) (by go_size) hb2); clear hb2
  have ng := HNG.out
  have ng2 := HNG2.out
  have HI2 := Lib.hid (HI.out.later HB2.out)
  clear hc1 hf1 hc2 hf2 HB1 HK1 HK2
  go_wp2_with fail
  clear ng ng2
  go_loopw [8, 9] (fun sv i wr => ∃ k : Nat, k ≤ pz.length ∧ sv = .int .i64 (prTo pz R k - C) ∧ i = .int .i64 k ∧ wr = w2) (fun _ i _ => pz.length - (intOf i).toNat)
  case atStart => exact ⟨0, Nat.zero_le _, by simp [prTo], rfl, rfl⟩
  case round =>
    obtain ⟨k, hk, rfl, rfl, rfl⟩ := hrel
    have hk0 : (0 : Int) ≤ (k : Int) := by omega
    have hpb := prTo_bd HIN.out R k
    by_cases hlk : k < pz.length
    · have hk1 : (k : Int) < (pz.length : Int) := by omega
      have hk60 : (k : Int) ≤ 60 := by have := HLN.out; omega
      have qk : wr.cell? ⟨b, o + k, none⟩ = some (.int .i64 (pz.getD k 0)) := by
        obtain ⟨b', o', e9, -, c9⟩ := HI2.out.at_ hlk
        injection e9 with e9; injection e9 with e91 e92; subst e91; subst e92
        exact c9
      have hq0 : 0 ≤ R / 2 ^ k := (div_pow_bd R k hr0).1
      have hq1 : (R / 2 ^ k % 2 == 1) = bit R k := bit_mod_nat R k hr0
      have hsi := pz_in HIN.out k
      have hst : prTo pz R (k + 1) = prTo pz R k + if bit R k = true then pz.getD k 0 else 0 := rfl
      obtain ⟨x, hx⟩ : ∃ x, pz.getD k 0 = x := ⟨_, rfl⟩
      obtain ⟨u, hu⟩ : ∃ u, prTo pz R k = u := ⟨_, rfl⟩
      rw [hx] at qk hsi hst
      rw [hu] at hpb hst ⊢
      clear hx hu
      cases hbt : bit R k
      · rw [hbt] at hq1
        have HS1 : Hid (prTo pz R (k + 1) = u) := by show _ = _; rw [hst, hbt]; simp
        clear hst hbt hsi hpb
        go_wp2_with fail
        go_roundw
        case rel => exact ⟨k + 1, by omega, by rw [HS1.out], by go_num, by first | rfl | trivial⟩
        case measure => (simp [intOf]) <;> omega
      · rw [hbt] at hq1
        have HS1 : Hid (prTo pz R (k + 1) - C = u - C + x) := by show _ = _; rw [hst, hbt, if_pos rfl]; omega
        have hu120 : u ≤ 2000 := by have := HLN.out; omega
        have wk : IntKind.i64.wrap (u - C + x) = u - C + x := IntWalk.i64_in _ ⟨by omega, by omega⟩
        have wk2 : wrap64 (u - C + x) = u - C + x := IntWalk.wrap64_in _ ⟨by clear wk; omega, by clear wk; omega⟩
        clear hst hbt hsi hpb
        go_wp2_with fail
        clear wk wk2
        go_roundw
        case rel => exact ⟨k + 1, by omega, by rw [HS1.out], by go_num, by first | rfl | trivial⟩
        case measure => (simp [intOf]) <;> omega
    · obtain rfl : k = pz.length := by omega
      go_wp2_with fail
      go_ret
      exact ⟨rfl, HB2.out⟩
theorem gain_bd {n : Int} {ws : List Wy} {pz : List Int} (h : PzIs n ws pz) (s : Int) : -81 ≤ gain ws pz s ∧ gain ws pz s ≤ 120 := by
  have h1 := prTo_bd h.ins (reach ws s 0) pz.length
  have h2 := cost_bds (netOk_t h.ok) s
  have h3 := h.len
  have h4 := (netOk_t h.ok).hi
  unfold gain
  omega
set_option maxRecDepth 100000 in
set_option maxHeartbeats 4000000 in
theorem sBestWays_any (n : Int) (A : Option Addr) (cap : Nat) (ws : List Wy) (Ar : Option Addr) (cr : Nat) (pz : List Int) (w : World) (hr : RW w w.heap.size A ws) (hm : ws.length ≤ 1073741824) (hi : RI w w.heap.size Ar pz) (hlm : pz.length ≤ 1073741824) :
    Calls Tryd.prog 6 #[.agg #[.int .i64 n, .slice A ws.length cap], .slice Ar pz.length cr] w fun en w' => en = .returned (.int .i64 (bestWays n ws pz)) ∧ Below w.heap.size w w' := by
  have HR := Lib.hid hr
  have HI := Lib.hid hi
  clear hr hi
  unfold bestWays
  cases hok : prizesOk n ws pz
  · have HOK := Lib.hid hok
    rw [if_neg (by simp)]
    clear hok
    go_enter Tryd.func6, Tryd.ntmps6
    go_wp2_with fail
    refine (sPrizesOk_any _ _ _ _ _ _ _ _ (HR.out.later (by go_grown)) hm (HI.out.later (by go_grown)) hlm).mono ?_; rintro e w1 ⟨rfl, hb1⟩
    rw [HOK.out]
    obtain ⟨hc1, hf1⟩ := bcell hb1
    have hz1_0 : w.heap.size < w1.heap.size := by have hq := hb1.size; (try simp at hq); omega
    have HK1 := Lib.hid hb1
    have HB1 := Lib.hid (bstep (B := w.heap.size) (W := w) (by (try have hp := HB0.out); go_grown) (by go_size) hb1); clear hb1
    go_wp2_with fail
    go_ret
    exact ⟨rfl, HB1.out⟩
  · have HOK := Lib.hid hok
    have hpi := prizesOk_iff.1 hok
    have HPI := Lib.hid hpi
    rw [if_pos rfl]
    have hl9 := (netOk_t hpi.ok).len
    have hN512 : 2 ^ ws.length ≤ 512 := by
      have h9 := Nat.pow_le_pow_right (n := 2) (by omega) hl9
      omega
    obtain ⟨N, hN⟩ : ∃ N : Nat, 2 ^ ws.length = N := ⟨_, rfl⟩
    have e2 : ((2 : Int) ^ ws.length) = (N : Int) := by rw [← hN]; simp
    have HE2 := Lib.hid e2
    rw [hN] at hN512 ⊢
    have HV1 : Hid (IntKind.i64.wrap (2 ^ ws.length) = (N : Int)) := by show _ = _; rw [e2]; exact IntWalk.i64_in _ ⟨by omega, by omega⟩
    have HV2 : Hid (wrap64 (2 ^ ws.length) = (N : Int)) := by show _ = _; rw [e2]; exact IntWalk.wrap64_in _ ⟨by omega, by omega⟩
    have hN1 : 0 < N := by rw [← hN]; exact Nat.two_pow_pos _
    have hl60 : (ws.length : Int) ≤ 60 := by omega
    clear hN e2
    have HBW := Lib.hid (fun k : Nat => bwTo_ok ws pz k)
    clear hok hpi
    go_enter Tryd.func6, Tryd.ntmps6
    go_wp2_with fail
    refine (sPrizesOk_any _ _ _ _ _ _ _ _ (HR.out.later (by go_grown)) hm (HI.out.later (by go_grown)) hlm).mono ?_; rintro e w1 ⟨rfl, hb1⟩
    rw [HOK.out]
    obtain ⟨hc1, hf1⟩ := bcell hb1
    have hz1_0 : w.heap.size < w1.heap.size := by have hq := hb1.size; (try simp at hq); omega
    have HK1 := Lib.hid hb1
    have HB1 := Lib.hid (bstep (B := w.heap.size) (W := w) (by (try have hp := HB0.out); go_grown) (by go_size) hb1); clear hb1
    have k10 : w1.cell? ⟨w.heap.size, 0, none⟩ = some (.int .i64 n) := by go_simp
    have k11 : w1.cell? ⟨w.heap.size, 1, none⟩ = some (.slice A ws.length cap) := by go_simp
    clear hc1 hf1
    go_wp2_with fail
    go_loopw [5, 6] (fun bv sv wr => ∃ k : Nat, 1 ≤ k ∧ k ≤ N ∧ bv = .int .i64 (bwTo ws pz k) ∧ sv = .int .i64 k ∧ wr.cell? ⟨w.heap.size, 0, none⟩ = some (.int .i64 n) ∧ wr.cell? ⟨w.heap.size, 1, none⟩ = some (.slice A ws.length cap) ∧ Below w.heap.size w wr ∧ w.heap.size < wr.heap.size) (fun _ sv _ => N - (intOf sv).toNat)
    case atStart => exact ⟨1, Nat.le_refl _, hN1, by rw [show bwTo ws pz 1 = 0 from by rw [bwTo]; split <;> rfl], rfl, k10, k11, HB1.out, hz1_0⟩
    case round =>
      clear k10 k11 HB1 HK1
      obtain ⟨k, hk9, hk, rfl, rfl, b0, b1, hb, hz⟩ := hrel
      have HB0 := Lib.hid hb
      have hk0 : (0 : Int) ≤ (k : Int) := by omega
      have hv1 := HV1.out
      have hv2 := HV2.out
      clear hb
      by_cases hlk : k < N
      · have hk1 : (k : Int) < (N : Int) := by omega
        have hst : bwTo ws pz (k + 1) = if gbet ws pz k (bwTo ws pz k) = true then (k : Int) else bwTo ws pz k := rfl
        obtain ⟨⟨jb, hjb, hje⟩, -⟩ := HBW.out k (by omega)
        rw [hje] at hst ⊢
        obtain ⟨x, hx⟩ : ∃ x, gain ws pz k = x := ⟨_, rfl⟩
        obtain ⟨y, hy⟩ : ∃ y, gain ws pz jb = y := ⟨_, rfl⟩
        have HX := Lib.hid hx
        have HY := Lib.hid hy
        obtain ⟨pk, hpk⟩ : ∃ p, pop (k : Int) = p := ⟨_, rfl⟩
        obtain ⟨pj, hpj⟩ : ∃ p, pop (jb : Int) = p := ⟨_, rfl⟩
        have HPK := Lib.hid hpk
        have HPJ := Lib.hid hpj
        have hgb := gbet_iff (ws := ws) (pz := pz) (a := (k : Int)) (b := (jb : Int))
        rw [hx, hy, hpk, hpj] at hgb
        have HSK : Hid (∀ k : Nat, k < 512 → (0 : Int) ≤ (k : Int) ∧ (k : Int) < 512) := fun k hk => by omega
        clear hx hy hpk hpj hje
        go_wp2_with fail
        refine (l8Gain_any _ _ _ _ _ _ _ _ _ (HR.out.later HB0.out) HPI.out (HI.out.later HB0.out) (by omega) (by omega)).mono ?_; rintro e w1 ⟨rfl, hb1⟩
        rw [HX.out]
        obtain ⟨hc1, hf1⟩ := bcell hb1
        have hz1_0 : w.heap.size < w1.heap.size := by have hq := hb1.size; (try simp at hq); omega
        have HK1 := Lib.hid hb1
        have HB1 := Lib.hid (bstep (B := w.heap.size) (W := w) (by (try have hp := HB0.out); go_grown) (by go_size) hb1); clear hb1
        go_wp2_with fail
        refine (l8Gain_any _ _ _ _ _ _ _ _ _ (HR.out.later HB1.out) HPI.out (HI.out.later HB1.out) (by omega) (by omega)).mono ?_; rintro e w2 ⟨rfl, hb2⟩
        rw [HY.out]
        obtain ⟨hc2, hf2⟩ := bcell hb2
        have hz2_0 : w.heap.size < w2.heap.size := by have hq := hb2.size; (try simp at hq); omega
        have HK2 := Lib.hid hb2
        have HB2 := Lib.hid (bstep (B := w.heap.size) (W := w) (by have hp := HB1.out; go_grown) (by go_size) hb2); clear hb2
        have y0 : w2.cell? ⟨w.heap.size, 0, none⟩ = some (.int .i64 n) := by go_simp
        have y1 : w2.cell? ⟨w.heap.size, 1, none⟩ = some (.slice A ws.length cap) := by go_simp
        clear hc1 hc2 hf1 hf2
        by_cases hgt : y < x
        · have HST : Hid (bwTo ws pz (k + 1) = (k : Int)) := by show _ = _; rw [hst, if_pos (hgb.2 (.inl hgt))]
          clear hst hgb
          go_wp2_with fail
          clear hv1 hv2
          go_roundw
          case rel => exact ⟨k + 1, by omega, by omega, by rw [HST.out], by go_num, y0, y1, HB2.out, hz2_0⟩
          case measure => (simp [intOf]) <;> omega
        · by_cases heq : x = y
          · have d1 : (x == y) = true := by simpa using heq
            by_cases hlt : pk < pj
            · have HST : Hid (bwTo ws pz (k + 1) = (k : Int)) := by show _ = _; rw [hst, if_pos (hgb.2 (.inr ⟨heq, hlt⟩))]
              subst heq
              clear hst hgb d1
              go_wp2_with fail
              refine (l1Size_any (k : Int) (by omega) (by omega) _).mono ?_; rintro e3 w3 ⟨rfl, rfl⟩; rw [HPK.out]
              go_wp2_with fail
              refine (l1Size_any (jb : Int) (by omega) (by omega) _).mono ?_; rintro e4 w4 ⟨rfl, rfl⟩; rw [HPJ.out]
              go_wp2_with fail
              clear hv1 hv2
              go_roundw
              case rel => exact ⟨k + 1, by omega, by omega, by rw [HST.out], by go_num, y0, y1, HB2.out, hz2_0⟩
              case measure => (simp [intOf]) <;> omega
            · have HST : Hid (bwTo ws pz (k + 1) = (jb : Int)) := by show _ = _; rw [hst, if_neg (fun h => by rcases hgb.1 h with h1 | h1 <;> omega)]
              subst heq
              clear hst hgb d1
              go_wp2_with fail
              refine (l1Size_any (k : Int) (by omega) (by omega) _).mono ?_; rintro e3 w3 ⟨rfl, rfl⟩; rw [HPK.out]
              go_wp2_with fail
              refine (l1Size_any (jb : Int) (by omega) (by omega) _).mono ?_; rintro e4 w4 ⟨rfl, rfl⟩; rw [HPJ.out]
              go_wp2_with fail
              clear hv1 hv2
              go_roundw
              case rel => exact ⟨k + 1, by omega, by omega, by rw [HST.out], by go_num, y0, y1, HB2.out, hz2_0⟩
              case measure => (simp [intOf]) <;> omega
          · have HST : Hid (bwTo ws pz (k + 1) = (jb : Int)) := by show _ = _; rw [hst, if_neg (fun h => by rcases hgb.1 h with h1 | h1 <;> omega)]
            have d1 : (x == y) = false := by simpa using heq
            clear hst hgb heq
            go_wp2_with fail
            clear hv1 hv2
            go_roundw
            case rel => exact ⟨k + 1, by omega, by omega, by rw [HST.out], by go_num, y0, y1, HB2.out, hz2_0⟩
            case measure => (simp [intOf]) <;> omega
      · obtain rfl : N = k := by omega
        obtain ⟨u, hu⟩ : ∃ u, bwTo ws pz N = u := ⟨_, rfl⟩
        rw [hu]
        have HU : Hid (u = bwTo ws pz N) := hu.symm
        clear hu
        go_wp2_with fail
        go_ret
        exact ⟨ret_int HU.out, HB0.out⟩
end Go.Proofs.YtoekaembfieigaaDoor
