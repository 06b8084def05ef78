/- The model's prizes: PrizesOk, l8Gain, GainOf, BestGain, BestWays, EndsGain. -/
import Derived.Test.YtoekaembfieigaaPzM
import Derived.Test.YtoekaembfieigaaUpA
import Derived.Test.YtoekaembfieigaaMD
import Derived.Test.YtoekaembfieigaaME
import Derived.Test.YtoekaembfieigaaMG
import Derived.Test.YtoekaembfieigaaWC
set_option linter.unusedSimpArgs false
set_option linter.unusedVariables false
attribute [local go_sem ↓] Go.wp_at_zero Go.wp_at_succ
namespace Go.Proofs.Ytoekaembfieigaa
open Go.ChangeShapes Go.WideShapes Go.ChangeAt Go.RowKit

theorem prizes_take {L : List Int} {k : Nat} (h : k < L.length) : (L.take (k + 1)).all prizeIn = ((L.take k).all prizeIn && prizeIn (L.getD k 0)) := by
  have hx : L[k]? = some L[k] := List.getElem?_eq_getElem h
  rw [List.take_add_one, hx, getD_at hx, List.all_append]; simp
theorem prizes_false {L : List Int} {k : Nat} (h : k < L.length) (hf : prizeIn (L.getD k 0) = false) : L.all prizeIn = false := by
  have hx : L[k]? = some L[k] := List.getElem?_eq_getElem h
  rw [getD_at hx] at hf
  rw [List.all_eq_false]
  exact ⟨_, List.getElem_mem h, by rw [hf]; simp⟩
/-- a number, if it is told -/
def opV : Option Int → Int
  | some x => x
  | none => 0
def opB : Option Int → Bool
  | some _ => true
  | none => false
set_option maxHeartbeats 2000000 in
theorem sPrizesOk_any (n : Int) (A : Option Addr) (cap : Nat) (ws : List Wy) (Ar : Option Addr) (cr : Nat) (pz : List Int) (w : World) (hr : RW w w.heap.size A ws) (hm : ws.length ≤ 1073741824) (hi : RI w w.heap.size Ar pz) (hlm : pz.length ≤ 1073741824) :
    Calls Try.prog 15 #[.agg #[.int .i64 n, .slice A ws.length cap], .slice Ar pz.length cr] w fun en w' => en = .returned (.bool (prizesOk n ws pz)) ∧ Below w.heap.size w w' := by
  have HR := Lib.hid hr
  have HI := Lib.hid hi
  obtain ⟨an, han⟩ : ∃ a, prizesOk n ws pz = a := ⟨_, rfl⟩
  have HF : Hid (pz.all prizeIn = false → an = false) := fun h => by rw [← han]; unfold prizesOk; rw [h]; simp
  have HT : Hid (pz.all prizeIn = true → an = (netOk n ws && decide ((pz.length : Int) = n))) := fun h => by rw [← han]; unfold prizesOk; rw [h, Bool.and_true]
  rw [han]
  clear hr hi han
  go_enter Try.func15, Try.ntmps15
  go_wp2_with fail
  go_loopw [5] (fun i wr => ∃ k : Nat, k ≤ pz.length ∧ i = .int .i64 k ∧ (pz.take k).all prizeIn = true ∧ wr = w.alloc (.cells #[.int .i64 n, .slice A ws.length cap] 25)) (fun i _ => pz.length - (intOf i).toNat)
  case atStart => exact ⟨0, Nat.zero_le _, rfl, rfl, rfl⟩
  case round =>
    obtain ⟨k, hk, rfl, hall, rfl⟩ := hrel
    have hk0 : (0 : Int) ≤ (k : Int) := by omega
    by_cases hlk : k < pz.length
    · have hk1 : (k : Int) < (pz.length : Int) := by omega
      obtain ⟨b, o, rfl, hb, qk⟩ := HI.out.at_ hlk
      have qk2 : (w.alloc (.cells #[.int .i64 n, .slice A ws.length cap] 25)).cell? ⟨b, o + k, none⟩ = some (.int .i64 (pz.getD k 0)) := (World.cell?_alloc_lt _ _ _ hb).trans qk
      have HTK := Lib.hid (prizes_take hlk)
      have HFA : Hid (prizeIn (pz.getD k 0) = false → pz.all prizeIn = false) := prizes_false hlk
      rw [hall, Bool.true_and] at HTK
      obtain ⟨x, hx⟩ : ∃ x, pz.getD k 0 = x := ⟨_, rfl⟩
      rw [hx] at qk2 HTK HFA
      clear hx qk
      cases hin : inB x 0 20
      · have HIN := Lib.hid hin
        have HFF : Hid (an = false) := HF.out (HFA.out hin)
        clear hin HTK HFA hall
        go_wp2_with fail
        refine (l1In_any x 0 20 _).mono ?_; rintro e2 w2 ⟨rfl, rfl⟩; rw [HIN.out]
        go_wp2_with fail
        go_ret
        exact ⟨ret_bool HFF.out.symm, by go_grown⟩
      · have HIN := Lib.hid hin
        have HT1 : Hid ((pz.take (k + 1)).all prizeIn = true) := HTK.out.trans hin
        clear hin HTK HFA hall
        go_wp2_with fail
        refine (l1In_any x 0 20 _).mono ?_; rintro e2 w2 ⟨rfl, rfl⟩; rw [HIN.out]
        go_wp2_with fail
        go_roundw
        case rel => exact ⟨k + 1, by omega, by go_num, HT1.out, by first | rfl | trivial⟩
        case measure => (simp [intOf]) <;> omega
    · obtain rfl : k = pz.length := by omega
      rw [List.take_length] at hall
      have hat := HT.out hall
      obtain ⟨u, hu⟩ : ∃ u : Int, (pz.length : Int) = u := ⟨_, rfl⟩
      cases hno : netOk n ws
      · have HNO := Lib.hid hno
        have HAN : Hid (an = false) := by show _ = _; rw [hat, hno]; rfl
        clear hat hno hall hu
        go_wp2_with fail
        refine (sNetOk_any _ _ _ _ _ (HR.out.later (by go_grown)) hm).mono ?_; rintro e w1 ⟨rfl, hb1⟩
        rw [HNO.out]
        obtain ⟨hc1, hf1⟩ := bcell hb1
        have hz1_0 : w.heap.size < w1.heap.size := by have hq := hb1.size; (try simp at hq); omega
        have HK1 := Lib.hid hb1
        have HB1 := Lib.hid (bstep (B := w.heap.size) (W := w) (by (try have hp := HB0.out); go_grown) (by go_size) hb1); clear hb1
        go_wp2_with fail
        go_ret
        exact ⟨ret_bool HAN.out.symm, HB1.out⟩
      · have HNO := Lib.hid hno
        by_cases hl : (pz.length : Int) = n
        · have HAN : Hid (an = true) := by show _ = _; rw [hat, hno, decide_eq_true hl]; rfl
          have d1 : ((pz.length : Int) == n) = true := by simpa using hl
          have HD := Lib.hid d1
          clear hat hno hall hu hl d1
          go_wp2_with fail
          refine (sNetOk_any _ _ _ _ _ (HR.out.later (by go_grown)) hm).mono ?_; rintro e w1 ⟨rfl, hb1⟩
          rw [HNO.out]
          obtain ⟨hc1, hf1⟩ := bcell hb1
          have hz1_0 : w.heap.size < w1.heap.size := by have hq := hb1.size; (try simp at hq); omega
          have HK1 := Lib.hid hb1
          have HB1 := Lib.hid (bstep (B := w.heap.size) (W := w) (by (try have hp := HB0.out); go_grown) (by go_size) hb1); clear hb1
          have hd := HD.out
          go_wp2_with fail
          go_ret
          exact ⟨ret_bool HAN.out.symm, HB1.out⟩
        · have HAN : Hid (an = false) := by show _ = _; rw [hat, hno, decide_eq_false hl]; rfl
          have d1 : ((pz.length : Int) == n) = false := by simpa using hl
          have HD := Lib.hid d1
          clear hat hno hall hu hl d1
          go_wp2_with fail
          refine (sNetOk_any _ _ _ _ _ (HR.out.later (by go_grown)) hm).mono ?_; rintro e w1 ⟨rfl, hb1⟩
          rw [HNO.out]
          obtain ⟨hc1, hf1⟩ := bcell hb1
          have hz1_0 : w.heap.size < w1.heap.size := by have hq := hb1.size; (try simp at hq); omega
          have HK1 := Lib.hid hb1
          have HB1 := Lib.hid (bstep (B := w.heap.size) (W := w) (by (try have hp := HB0.out); go_grown) (by go_size) hb1); clear hb1
          have hd := HD.out
          go_wp2_with fail
          go_ret
          exact ⟨ret_bool HAN.out.symm, HB1.out⟩
set_option maxHeartbeats 2000000 in
theorem l8Gain_any (n s : Int) (A : Option Addr) (cap : Nat) (ws : List Wy) (Ar : Option Addr) (cr : Nat) (pz : List Int) (w : World) (hr : RW w w.heap.size A ws) (h : PzIs n ws pz) (hi : RI w w.heap.size Ar pz) (s0 : 0 ≤ s) (s1 : s ≤ 1048576) :
    Calls Try.prog 42 #[.agg #[.int .i64 n, .slice A ws.length cap], .slice Ar pz.length cr, .int .i64 s] w fun en w' => en = .returned (.int .i64 (gain ws pz s)) ∧ Below w.heap.size w w' := by
  have HR := Lib.hid hr
  have HI := Lib.hid hi
  have hn := netOk_t h.ok
  have HN := Lib.hid hn
  have hn6 := hn.hi
  have hn2 := hn.lo
  have HIN := Lib.hid h.ins
  have HLN := Lib.hid h.len
  have hp0 : 0 < pz.length := by have := h.len; omega
  have hrr := reach_is (s := s) hn (Int.le_refl 0) (by omega)
  have hcb := cost_bds hn s
  unfold gain
  obtain ⟨R, hR⟩ : ∃ R, reach ws s 0 = R := ⟨_, rfl⟩
  obtain ⟨C, hC⟩ : ∃ C, cost ws s = C := ⟨_, rfl⟩
  have HRE := Lib.hid hR
  have HCO := Lib.hid hC
  have hr0 := hrr.lo
  have hr1 := hrr.hi
  rw [hR] at hr0 hr1 ⊢
  rw [hC] at hcb ⊢
  obtain ⟨b, o, hAr, hb, -⟩ := HI.out.at_ hp0
  subst hAr
  have HNG : Hid (IntKind.i64.wrap (-C) = -C) := IntWalk.i64_in _ ⟨by omega, by omega⟩
  have HNG2 : Hid (wrap64 (-C) = -C) := IntWalk.wrap64_in _ ⟨by omega, by omega⟩
  clear hr hi h hn hrr hR hC
  go_enter Try.func42, Try.ntmps42
  go_wp2_with fail
  refine (l1Reach_any _ _ _ _ _ _ _ (HR.out.later (by go_grown)) HN.out s0 s1 (Int.le_refl 0) (by omega)).mono ?_; rintro e w1 ⟨rfl, hb1⟩
  rw [HRE.out]
  obtain ⟨hc1, hf1⟩ := bcell hb1
  have hz1_0 : w.heap.size < w1.heap.size := by have hq := hb1.size; (try simp at hq); omega
  have HK1 := Lib.hid hb1
  have HB1 := Lib.hid (bstep (B := w.heap.size) (W := w) (by (try have hp := HB0.out); go_grown) (by go_size) hb1); clear hb1
  go_wp2_with fail
  refine (l1Cost_any _ _ _ _ _ _ (HR.out.later (by have := HB1.out; go_grown)) HN.out s0 s1).mono ?_; rintro e w2 ⟨rfl, hb2⟩
  rw [HCO.out]
  obtain ⟨hc2, hf2⟩ := bcell hb2
  have hz2_0 : w.heap.size < w2.heap.size := by have hq := hb2.size; (try simp at hq); omega
  have HK2 := Lib.hid hb2
  have HB2 := Lib.hid (bstep (B := w.heap.size) (W := w) (by have hp := HB1.out; go_grown) (by go_size) hb2); clear hb2
  have ng := HNG.out
  have ng2 := HNG2.out
  have HI2 := Lib.hid (HI.out.later HB2.out)
  clear hc1 hf1 hc2 hf2 HB1 HK1 HK2
  go_wp2_with fail
  clear ng ng2
  go_loopw [8, 9] (fun sv i wr => ∃ k : Nat, k ≤ pz.length ∧ sv = .int .i64 (prTo pz R k - C) ∧ i = .int .i64 k ∧ wr = w2) (fun _ i _ => pz.length - (intOf i).toNat)
  case atStart => exact ⟨0, Nat.zero_le _, by simp [prTo], rfl, rfl⟩
  case round =>
    obtain ⟨k, hk, rfl, rfl, rfl⟩ := hrel
    have hk0 : (0 : Int) ≤ (k : Int) := by omega
    have hpb := prTo_bd HIN.out R k
    by_cases hlk : k < pz.length
    · have hk1 : (k : Int) < (pz.length : Int) := by omega
      have hk60 : (k : Int) ≤ 60 := by have := HLN.out; omega
      have qk : wr.cell? ⟨b, o + k, none⟩ = some (.int .i64 (pz.getD k 0)) := by
        obtain ⟨b', o', e9, -, c9⟩ := HI2.out.at_ hlk
        injection e9 with e9; injection e9 with e91 e92; subst e91; subst e92
        exact c9
      have hq0 : 0 ≤ R / 2 ^ k := (div_pow_bd R k hr0).1
      have hq1 : (R / 2 ^ k % 2 == 1) = bit R k := bit_mod_nat R k hr0
      have hsi := pz_in HIN.out k
      have hst : prTo pz R (k + 1) = prTo pz R k + if bit R k = true then pz.getD k 0 else 0 := rfl
      obtain ⟨x, hx⟩ : ∃ x, pz.getD k 0 = x := ⟨_, rfl⟩
      obtain ⟨u, hu⟩ : ∃ u, prTo pz R k = u := ⟨_, rfl⟩
      rw [hx] at qk hsi hst
      rw [hu] at hpb hst ⊢
      clear hx hu
      cases hbt : bit R k
      · rw [hbt] at hq1
        have HS1 : Hid (prTo pz R (k + 1) = u) := by show _ = _; rw [hst, hbt]; simp
        clear hst hbt hsi hpb
        go_wp2_with fail
        go_roundw
        case rel => exact ⟨k + 1, by omega, by rw [HS1.out], by go_num, by first | rfl | trivial⟩
        case measure => (simp [intOf]) <;> omega
      · rw [hbt] at hq1
        have HS1 : Hid (prTo pz R (k + 1) - C = u - C + x) := by show _ = _; rw [hst, hbt, if_pos rfl]; omega
        have hu120 : u ≤ 2000 := by have := HLN.out; omega
        have wk : IntKind.i64.wrap (u - C + x) = u - C + x := IntWalk.i64_in _ ⟨by omega, by omega⟩
        have wk2 : wrap64 (u - C + x) = u - C + x := IntWalk.wrap64_in _ ⟨by clear wk; omega, by clear wk; omega⟩
        clear hst hbt hsi hpb
        go_wp2_with fail
        clear wk wk2
        go_roundw
        case rel => exact ⟨k + 1, by omega, by rw [HS1.out], by go_num, by first | rfl | trivial⟩
        case measure => (simp [intOf]) <;> omega
    · obtain rfl : k = pz.length := by omega
      go_wp2_with fail
      go_ret
      exact ⟨rfl, HB2.out⟩
set_option maxHeartbeats 2000000 in
theorem sGainOf_any (n s : Int) (A : Option Addr) (cap : Nat) (ws : List Wy) (Ar : Option Addr) (cr : Nat) (pz : List Int) (w : World) (hr : RW w w.heap.size A ws) (hm : ws.length ≤ 1073741824) (hi : RI w w.heap.size Ar pz) (hlm : pz.length ≤ 1073741824) :
    Calls Try.prog 20 #[.agg #[.int .i64 n, .slice A ws.length cap], .slice Ar pz.length cr, .int .i64 s] w fun en w' => en = .returned (.tuple #[.int .i64 (opV (gainOf n ws pz s)), .bool (opB (gainOf n ws pz s))]) ∧ Below w.heap.size w w' := by
  have HR := Lib.hid hr
  have HI := Lib.hid hi
  clear hr hi
  unfold gainOf
  cases hok : prizesOk n ws pz
  · have HOK := Lib.hid hok
    rw [if_neg (by simp)]
    clear hok
    go_enter Try.func20, Try.ntmps20
    go_wp2_with fail
    refine (sPrizesOk_any _ _ _ _ _ _ _ _ (HR.out.later (by go_grown)) hm (HI.out.later (by go_grown)) hlm).mono ?_; rintro e w1 ⟨rfl, hb1⟩
    rw [HOK.out]
    obtain ⟨hc1, hf1⟩ := bcell hb1
    have hz1_0 : w.heap.size < w1.heap.size := by have hq := hb1.size; (try simp at hq); omega
    have HK1 := Lib.hid hb1
    have HB1 := Lib.hid (bstep (B := w.heap.size) (W := w) (by (try have hp := HB0.out); go_grown) (by go_size) hb1); clear hb1
    go_wp2_with fail
    refine bodyPost_ret (v := .tuple #[.int .i64 0, .bool false]) (by simp [results, Try.results20, go_sem]) rfl ?_
    exact ⟨rfl, HB1.out⟩
  · have HOK := Lib.hid hok
    have hpi := prizesOk_iff.1 hok
    have HPI := Lib.hid hpi
    have hl := (netOk_t hpi.ok).len
    have hp := pow_bd (ws.length : Int) 20 (by omega)
    rw [Int.toNat_natCast] at hp
    have hf := full_bd ws.length hl
    have HW1 : Hid (IntKind.i64.wrap (2 ^ ws.length) = 2 ^ ws.length) := IntWalk.i64_in _ ⟨by omega, by omega⟩
    have HW2 : Hid (wrap64 (2 ^ ws.length) = 2 ^ ws.length) := IntWalk.wrap64_in _ ⟨by omega, by omega⟩
    have HW3 : Hid (IntKind.i64.wrap (2 ^ ws.length - 1) = full ws.length) := IntWalk.i64_in _ ⟨by omega, by omega⟩
    have HW4 : Hid (wrap64 (2 ^ ws.length - 1) = full ws.length) := IntWalk.wrap64_in _ ⟨by omega, by omega⟩
    clear hok hpi hp
    cases hin : inB s 0 (full ws.length)
    · have HIN := Lib.hid hin
      rw [if_neg (by simp)]
      clear hin
      go_enter Try.func20, Try.ntmps20
      go_wp2_with fail
      refine (sPrizesOk_any _ _ _ _ _ _ _ _ (HR.out.later (by go_grown)) hm (HI.out.later (by go_grown)) hlm).mono ?_; rintro e w1 ⟨rfl, hb1⟩
      rw [HOK.out]
      obtain ⟨hc1, hf1⟩ := bcell hb1
      have hz1_0 : w.heap.size < w1.heap.size := by have hq := hb1.size; (try simp at hq); omega
      have HK1 := Lib.hid hb1
      have HB1 := Lib.hid (bstep (B := w.heap.size) (W := w) (by (try have hp := HB0.out); go_grown) (by go_size) hb1); clear hb1
      have hw1 := HW1.out
      have hw2 := HW2.out
      have hw3 := HW3.out
      have hw4 := HW4.out
      go_wp2_with fail
      refine (l1In_any s 0 (full ws.length) _).mono ?_; rintro e2 w2 ⟨rfl, rfl⟩; rw [HIN.out]
      go_wp2_with fail
      refine bodyPost_ret (v := .tuple #[.int .i64 0, .bool false]) (by simp [results, Try.results20, go_sem]) rfl ?_
      exact ⟨rfl, HB1.out⟩
    · have HIN := Lib.hid hin
      have hin' := inB_t hin
      rw [if_pos (show (true && true) = true from rfl)]
      clear hin
      go_enter Try.func20, Try.ntmps20
      go_wp2_with fail
      refine (sPrizesOk_any _ _ _ _ _ _ _ _ (HR.out.later (by go_grown)) hm (HI.out.later (by go_grown)) hlm).mono ?_; rintro e w1 ⟨rfl, hb1⟩
      rw [HOK.out]
      obtain ⟨hc1, hf1⟩ := bcell hb1
      have hz1_0 : w.heap.size < w1.heap.size := by have hq := hb1.size; (try simp at hq); omega
      have HK1 := Lib.hid hb1
      have HB1 := Lib.hid (bstep (B := w.heap.size) (W := w) (by (try have hp := HB0.out); go_grown) (by go_size) hb1); clear hb1
      have hw1 := HW1.out
      have hw2 := HW2.out
      have hw3 := HW3.out
      have hw4 := HW4.out
      go_wp2_with fail
      refine (l1In_any s 0 (full ws.length) _).mono ?_; rintro e2 w2 ⟨rfl, rfl⟩; rw [HIN.out]
      clear hw1 hw2 hw3 hw4
      go_wp2_with fail
      refine (l8Gain_any _ _ _ _ _ _ _ _ _ (HR.out.later (by have := HB1.out; go_grown)) HPI.out (HI.out.later (by have := HB1.out; go_grown)) (by omega) (by omega)).mono ?_; rintro e w2 ⟨rfl, hb2⟩
      obtain ⟨hc2, hf2⟩ := bcell hb2
      have hz2_0 : w.heap.size < w2.heap.size := by have hq := hb2.size; (try simp at hq); omega
      have HK2 := Lib.hid hb2
      have HB2 := Lib.hid (bstep (B := w.heap.size) (W := w) (by have hp := HB1.out; go_grown) (by go_size) hb2); clear hb2
      go_wp2_with fail
      refine bodyPost_ret (v := .tuple #[.int .i64 (gain ws pz s), .bool true]) (by simp [results, Try.results20, go_sem]) rfl ?_
      exact ⟨rfl, HB2.out⟩
theorem gain_bd {n : Int} {ws : List Wy} {pz : List Int} (h : PzIs n ws pz) (s : Int) : -81 ≤ gain ws pz s ∧ gain ws pz s ≤ 120 := by
  have h1 := prTo_bd h.ins (reach ws s 0) pz.length
  have h2 := cost_bds (netOk_t h.ok) s
  have h3 := h.len
  have h4 := (netOk_t h.ok).hi
  unfold gain
  omega
set_option maxHeartbeats 2000000 in
theorem sBestGain_any (n : Int) (A : Option Addr) (cap : Nat) (ws : List Wy) (Ar : Option Addr) (cr : Nat) (pz : List Int) (w : World) (hr : RW w w.heap.size A ws) (hm : ws.length ≤ 1073741824) (hi : RI w w.heap.size Ar pz) (hlm : pz.length ≤ 1073741824) :
    Calls Try.prog 23 #[.agg #[.int .i64 n, .slice A ws.length cap], .slice Ar pz.length cr] w fun en w' => en = .returned (.int .i64 (bestGain n ws pz)) ∧ Below w.heap.size w w' := by
  have HR := Lib.hid hr
  have HI := Lib.hid hi
  clear hr hi
  unfold bestGain
  cases hok : prizesOk n ws pz
  · have HOK := Lib.hid hok
    rw [if_neg (by simp)]
    clear hok
    go_enter Try.func23, Try.ntmps23
    go_wp2_with fail
    refine (sPrizesOk_any _ _ _ _ _ _ _ _ (HR.out.later (by go_grown)) hm (HI.out.later (by go_grown)) hlm).mono ?_; rintro e w1 ⟨rfl, hb1⟩
    rw [HOK.out]
    obtain ⟨hc1, hf1⟩ := bcell hb1
    have hz1_0 : w.heap.size < w1.heap.size := by have hq := hb1.size; (try simp at hq); omega
    have HK1 := Lib.hid hb1
    have HB1 := Lib.hid (bstep (B := w.heap.size) (W := w) (by (try have hp := HB0.out); go_grown) (by go_size) hb1); clear hb1
    go_wp2_with fail
    go_ret
    exact ⟨rfl, HB1.out⟩
  · have HOK := Lib.hid hok
    have hpi := prizesOk_iff.1 hok
    have HPI := Lib.hid hpi
    rw [if_pos rfl]
    have hl9 := (netOk_t hpi.ok).len
    have hN512 : 2 ^ ws.length ≤ 512 := by
      have h9 := Nat.pow_le_pow_right (n := 2) (by omega) hl9
      omega
    obtain ⟨N, hN⟩ : ∃ N : Nat, 2 ^ ws.length = N := ⟨_, rfl⟩
    have e2 : ((2 : Int) ^ ws.length) = (N : Int) := by rw [← hN]; simp
    have HE2 := Lib.hid e2
    rw [hN] at hN512 ⊢
    have HV1 : Hid (IntKind.i64.wrap (2 ^ ws.length) = (N : Int)) := by show _ = _; rw [e2]; exact IntWalk.i64_in _ ⟨by omega, by omega⟩
    have HV2 : Hid (wrap64 (2 ^ ws.length) = (N : Int)) := by show _ = _; rw [e2]; exact IntWalk.wrap64_in _ ⟨by omega, by omega⟩
    have hN1 : 0 < N := by rw [← hN]; exact Nat.two_pow_pos _
    have hl60 : (ws.length : Int) ≤ 60 := by omega
    clear hN e2
    have HG := Lib.hid (fun k : Nat => gain_bd hpi (k : Int))
    have HBG := Lib.hid (fun k : Nat => bgTo_bd hpi k)
    clear hok hpi
    go_enter Try.func23, Try.ntmps23
    go_wp2_with fail
    refine (sPrizesOk_any _ _ _ _ _ _ _ _ (HR.out.later (by go_grown)) hm (HI.out.later (by go_grown)) hlm).mono ?_; rintro e w1 ⟨rfl, hb1⟩
    rw [HOK.out]
    obtain ⟨hc1, hf1⟩ := bcell hb1
    have hz1_0 : w.heap.size < w1.heap.size := by have hq := hb1.size; (try simp at hq); omega
    have HK1 := Lib.hid hb1
    have HB1 := Lib.hid (bstep (B := w.heap.size) (W := w) (by (try have hp := HB0.out); go_grown) (by go_size) hb1); clear hb1
    have k10 : w1.cell? ⟨w.heap.size, 0, none⟩ = some (.int .i64 n) := by go_simp
    have k11 : w1.cell? ⟨w.heap.size, 1, none⟩ = some (.slice A ws.length cap) := by go_simp
    clear hc1 hf1
    go_wp2_with fail
    go_loopw [5, 6] (fun bv sv wr => ∃ k : Nat, k ≤ N ∧ bv = .int .i64 (bgTo ws pz k) ∧ sv = .int .i64 k ∧ wr.cell? ⟨w.heap.size, 0, none⟩ = some (.int .i64 n) ∧ wr.cell? ⟨w.heap.size, 1, none⟩ = some (.slice A ws.length cap) ∧ Below w.heap.size w wr ∧ w.heap.size < wr.heap.size) (fun _ sv _ => N - (intOf sv).toNat)
    case atStart => exact ⟨0, Nat.zero_le _, rfl, rfl, k10, k11, HB1.out, hz1_0⟩
    case round =>
      clear k10 k11 HB1 HK1
      obtain ⟨k, hk, rfl, rfl, b0, b1, hb, hz⟩ := hrel
      have HB0 := Lib.hid hb
      have hk0 : (0 : Int) ≤ (k : Int) := by omega
      have hv1 := HV1.out
      have hv2 := HV2.out
      clear hb
      by_cases hlk : k < N
      · have hk1 : (k : Int) < (N : Int) := by omega
        have hst : bgTo ws pz (k + 1) = max (bgTo ws pz k) (gain ws pz k) := rfl
        have hg := HG.out k
        have hbg := HBG.out k
        obtain ⟨u, hu⟩ : ∃ u, bgTo ws pz k = u := ⟨_, rfl⟩
        obtain ⟨x, hx⟩ : ∃ x, gain ws pz k = x := ⟨_, rfl⟩
        have HX := Lib.hid hx
        rw [hu] at hst hbg ⊢
        rw [hx] at hst hg
        have HST := Lib.hid hst
        have m1 : (if u < x then x else u) = max u x := by split <;> omega
        have m2 : (if x < u then u else x) = max u x := by split <;> omega
        have m3 : (if u ≤ x then x else u) = max u x := by split <;> omega
        have m4 : (if x ≤ u then u else x) = max u x := by split <;> omega
        have HM := Lib.hid (And.intro m1 (And.intro m2 (And.intro m3 m4)))
        clear hst hu hx m1 m2 m3 m4
        go_wp2_with fail
        refine (l8Gain_any _ _ _ _ _ _ _ _ _ (HR.out.later HB0.out) HPI.out (HI.out.later HB0.out) (by omega) (by omega)).mono ?_; rintro e w1 ⟨rfl, hb1⟩
        rw [HX.out]
        obtain ⟨hc1, hf1⟩ := bcell hb1
        have hz1_0 : w.heap.size < w1.heap.size := by have hq := hb1.size; (try simp at hq); omega
        have HK1 := Lib.hid hb1
        have HB1 := Lib.hid (bstep (B := w.heap.size) (W := w) (by (try have hp := HB0.out); go_grown) (by go_size) hb1); clear hb1
        have y0 : w1.cell? ⟨w.heap.size, 0, none⟩ = some (.int .i64 n) := by go_simp
        have y1 : w1.cell? ⟨w.heap.size, 1, none⟩ = some (.slice A ws.length cap) := by go_simp
        obtain ⟨m1, m2, m3, m4⟩ := HM.out
        go_wp2_with fail
        clear m1 m2 m3 m4 hv1 hv2
        go_roundw
        case rel => exact ⟨k + 1, by omega, by rw [HST.out], by go_num, y0, y1, HB1.out, hz1_0⟩
        case measure => (simp [intOf]) <;> omega
      · obtain rfl : N = k := by omega
        obtain ⟨u, hu⟩ : ∃ u, bgTo ws pz N = u := ⟨_, rfl⟩
        rw [hu]
        have HU : Hid (u = bgTo ws pz N) := hu.symm
        clear hu
        go_wp2_with fail
        go_ret
        exact ⟨ret_int HU.out, HB0.out⟩
set_option maxRecDepth 100000 in
set_option maxHeartbeats 4000000 in
theorem sBestWays_any (n : Int) (A : Option Addr) (cap : Nat) (ws : List Wy) (Ar : Option Addr) (cr : Nat) (pz : List Int) (w : World) (hr : RW w w.heap.size A ws) (hm : ws.length ≤ 1073741824) (hi : RI w w.heap.size Ar pz) (hlm : pz.length ≤ 1073741824) :
    Calls Try.prog 32 #[.agg #[.int .i64 n, .slice A ws.length cap], .slice Ar pz.length cr] w fun en w' => en = .returned (.int .i64 (bestWays n ws pz)) ∧ Below w.heap.size w w' := by
  have HR := Lib.hid hr
  have HI := Lib.hid hi
  clear hr hi
  unfold bestWays
  cases hok : prizesOk n ws pz
  · have HOK := Lib.hid hok
    rw [if_neg (by simp)]
    clear hok
    go_enter Try.func32, Try.ntmps32
    go_wp2_with fail
    refine (sPrizesOk_any _ _ _ _ _ _ _ _ (HR.out.later (by go_grown)) hm (HI.out.later (by go_grown)) hlm).mono ?_; rintro e w1 ⟨rfl, hb1⟩
    rw [HOK.out]
    obtain ⟨hc1, hf1⟩ := bcell hb1
    have hz1_0 : w.heap.size < w1.heap.size := by have hq := hb1.size; (try simp at hq); omega
    have HK1 := Lib.hid hb1
    have HB1 := Lib.hid (bstep (B := w.heap.size) (W := w) (by (try have hp := HB0.out); go_grown) (by go_size) hb1); clear hb1
    go_wp2_with fail
    go_ret
    exact ⟨rfl, HB1.out⟩
  · have HOK := Lib.hid hok
    have hpi := prizesOk_iff.1 hok
    have HPI := Lib.hid hpi
    rw [if_pos rfl]
    have hl9 := (netOk_t hpi.ok).len
    have hN512 : 2 ^ ws.length ≤ 512 := by
      have h9 := Nat.pow_le_pow_right (n := 2) (by omega) hl9
      omega
    obtain ⟨N, hN⟩ : ∃ N : Nat, 2 ^ ws.length = N := ⟨_, rfl⟩
    have e2 : ((2 : Int) ^ ws.length) = (N : Int) := by rw [← hN]; simp
    have HE2 := Lib.hid e2
    rw [hN] at hN512 ⊢
    have HV1 : Hid (IntKind.i64.wrap (2 ^ ws.length) = (N : Int)) := by show _ = _; rw [e2]; exact IntWalk.i64_in _ ⟨by omega, by omega⟩
    have HV2 : Hid (wrap64 (2 ^ ws.length) = (N : Int)) := by show _ = _; rw [e2]; exact IntWalk.wrap64_in _ ⟨by omega, by omega⟩
    have hN1 : 0 < N := by rw [← hN]; exact Nat.two_pow_pos _
    have hl60 : (ws.length : Int) ≤ 60 := by omega
    clear hN e2
    have HBW := Lib.hid (fun k : Nat => bwTo_ok ws pz k)
    clear hok hpi
    go_enter Try.func32, Try.ntmps32
    go_wp2_with fail
    refine (sPrizesOk_any _ _ _ _ _ _ _ _ (HR.out.later (by go_grown)) hm (HI.out.later (by go_grown)) hlm).mono ?_; rintro e w1 ⟨rfl, hb1⟩
    rw [HOK.out]
    obtain ⟨hc1, hf1⟩ := bcell hb1
    have hz1_0 : w.heap.size < w1.heap.size := by have hq := hb1.size; (try simp at hq); omega
    have HK1 := Lib.hid hb1
    have HB1 := Lib.hid (bstep (B := w.heap.size) (W := w) (by (try have hp := HB0.out); go_grown) (by go_size) hb1); clear hb1
    have k10 : w1.cell? ⟨w.heap.size, 0, none⟩ = some (.int .i64 n) := by go_simp
    have k11 : w1.cell? ⟨w.heap.size, 1, none⟩ = some (.slice A ws.length cap) := by go_simp
    clear hc1 hf1
    go_wp2_with fail
    go_loopw [5, 6] (fun bv sv wr => ∃ k : Nat, 1 ≤ k ∧ k ≤ N ∧ bv = .int .i64 (bwTo ws pz k) ∧ sv = .int .i64 k ∧ wr.cell? ⟨w.heap.size, 0, none⟩ = some (.int .i64 n) ∧ wr.cell? ⟨w.heap.size, 1, none⟩ = some (.slice A ws.length cap) ∧ Below w.heap.size w wr ∧ w.heap.size < wr.heap.size) (fun _ sv _ => N - (intOf sv).toNat)
    case atStart => exact ⟨1, Nat.le_refl _, hN1, by rw [show bwTo ws pz 1 = 0 from by rw [bwTo]; split <;> rfl], rfl, k10, k11, HB1.out, hz1_0⟩
    case round =>
      clear k10 k11 HB1 HK1
      obtain ⟨k, hk9, hk, rfl, rfl, b0, b1, hb, hz⟩ := hrel
      have HB0 := Lib.hid hb
      have hk0 : (0 : Int) ≤ (k : Int) := by omega
      have hv1 := HV1.out
      have hv2 := HV2.out
      clear hb
      by_cases hlk : k < N
      · have hk1 : (k : Int) < (N : Int) := by omega
        have hst : bwTo ws pz (k + 1) = if gbet ws pz k (bwTo ws pz k) = true then (k : Int) else bwTo ws pz k := rfl
        obtain ⟨⟨jb, hjb, hje⟩, -⟩ := HBW.out k (by omega)
        rw [hje] at hst ⊢
        obtain ⟨x, hx⟩ : ∃ x, gain ws pz k = x := ⟨_, rfl⟩
        obtain ⟨y, hy⟩ : ∃ y, gain ws pz jb = y := ⟨_, rfl⟩
        have HX := Lib.hid hx
        have HY := Lib.hid hy
        obtain ⟨pk, hpk⟩ : ∃ p, pop (k : Int) = p := ⟨_, rfl⟩
        obtain ⟨pj, hpj⟩ : ∃ p, pop (jb : Int) = p := ⟨_, rfl⟩
        have HPK := Lib.hid hpk
        have HPJ := Lib.hid hpj
        have hgb := gbet_iff (ws := ws) (pz := pz) (a := (k : Int)) (b := (jb : Int))
        rw [hx, hy, hpk, hpj] at hgb
        have HSK : Hid (∀ k : Nat, k < 512 → (0 : Int) ≤ (k : Int) ∧ (k : Int) < 512) := fun k hk => by omega
        clear hx hy hpk hpj hje
        go_wp2_with fail
        refine (l8Gain_any _ _ _ _ _ _ _ _ _ (HR.out.later HB0.out) HPI.out (HI.out.later HB0.out) (by omega) (by omega)).mono ?_; rintro e w1 ⟨rfl, hb1⟩
        rw [HX.out]
        obtain ⟨hc1, hf1⟩ := bcell hb1
        have hz1_0 : w.heap.size < w1.heap.size := by have hq := hb1.size; (try simp at hq); omega
        have HK1 := Lib.hid hb1
        have HB1 := Lib.hid (bstep (B := w.heap.size) (W := w) (by (try have hp := HB0.out); go_grown) (by go_size) hb1); clear hb1
        go_wp2_with fail
        refine (l8Gain_any _ _ _ _ _ _ _ _ _ (HR.out.later HB1.out) HPI.out (HI.out.later HB1.out) (by omega) (by omega)).mono ?_; rintro e w2 ⟨rfl, hb2⟩
        rw [HY.out]
        obtain ⟨hc2, hf2⟩ := bcell hb2
        have hz2_0 : w.heap.size < w2.heap.size := by have hq := hb2.size; (try simp at hq); omega
        have HK2 := Lib.hid hb2
        have HB2 := Lib.hid (bstep (B := w.heap.size) (W := w) (by have hp := HB1.out; go_grown) (by go_size) hb2); clear hb2
        have y0 : w2.cell? ⟨w.heap.size, 0, none⟩ = some (.int .i64 n) := by go_simp
        have y1 : w2.cell? ⟨w.heap.size, 1, none⟩ = some (.slice A ws.length cap) := by go_simp
        clear hc1 hc2 hf1 hf2
        by_cases hgt : y < x
        · have HST : Hid (bwTo ws pz (k + 1) = (k : Int)) := by show _ = _; rw [hst, if_pos (hgb.2 (.inl hgt))]
          clear hst hgb
          go_wp2_with fail
          clear hv1 hv2
          go_roundw
          case rel => exact ⟨k + 1, by omega, by omega, by rw [HST.out], by go_num, y0, y1, HB2.out, hz2_0⟩
          case measure => (simp [intOf]) <;> omega
        · by_cases heq : x = y
          · have d1 : (x == y) = true := by simpa using heq
            by_cases hlt : pk < pj
            · have HST : Hid (bwTo ws pz (k + 1) = (k : Int)) := by show _ = _; rw [hst, if_pos (hgb.2 (.inr ⟨heq, hlt⟩))]
              subst heq
              clear hst hgb d1
              go_wp2_with fail
              refine (l1Size_any (k : Int) (by omega) (by omega) _).mono ?_; rintro e3 w3 ⟨rfl, rfl⟩; rw [HPK.out]
              go_wp2_with fail
              refine (l1Size_any (jb : Int) (by omega) (by omega) _).mono ?_; rintro e4 w4 ⟨rfl, rfl⟩; rw [HPJ.out]
              go_wp2_with fail
              clear hv1 hv2
              go_roundw
              case rel => exact ⟨k + 1, by omega, by omega, by rw [HST.out], by go_num, y0, y1, HB2.out, hz2_0⟩
              case measure => (simp [intOf]) <;> omega
            · have HST : Hid (bwTo ws pz (k + 1) = (jb : Int)) := by show _ = _; rw [hst, if_neg (fun h => by rcases hgb.1 h with h1 | h1 <;> omega)]
              subst heq
              clear hst hgb d1
              go_wp2_with fail
              refine (l1Size_any (k : Int) (by omega) (by omega) _).mono ?_; rintro e3 w3 ⟨rfl, rfl⟩; rw [HPK.out]
              go_wp2_with fail
              refine (l1Size_any (jb : Int) (by omega) (by omega) _).mono ?_; rintro e4 w4 ⟨rfl, rfl⟩; rw [HPJ.out]
              go_wp2_with fail
              clear hv1 hv2
              go_roundw
              case rel => exact ⟨k + 1, by omega, by omega, by rw [HST.out], by go_num, y0, y1, HB2.out, hz2_0⟩
              case measure => (simp [intOf]) <;> omega
          · have HST : Hid (bwTo ws pz (k + 1) = (jb : Int)) := by show _ = _; rw [hst, if_neg (fun h => by rcases hgb.1 h with h1 | h1 <;> omega)]
            have d1 : (x == y) = false := by simpa using heq
            clear hst hgb heq
            go_wp2_with fail
            clear hv1 hv2
            go_roundw
            case rel => exact ⟨k + 1, by omega, by omega, by rw [HST.out], by go_num, y0, y1, HB2.out, hz2_0⟩
            case measure => (simp [intOf]) <;> omega
      · obtain rfl : N = k := by omega
        obtain ⟨u, hu⟩ : ∃ u, bwTo ws pz N = u := ⟨_, rfl⟩
        rw [hu]
        have HU : Hid (u = bwTo ws pz N) := hu.symm
        clear hu
        go_wp2_with fail
        go_ret
        exact ⟨ret_int HU.out, HB0.out⟩
set_option maxHeartbeats 4000000 in
theorem sEndsGain_any (n e : Int) (A : Option Addr) (cap : Nat) (ws : List Wy) (Ar : Option Addr) (cr : Nat) (pz : List Int) (w : World) (hr : RW w w.heap.size A ws) (hm : ws.length ≤ 1073741824) (hi : RI w w.heap.size Ar pz) (hlm : pz.length ≤ 1073741824) :
    Calls Try.prog 26 #[.agg #[.int .i64 n, .slice A ws.length cap], .slice Ar pz.length cr, .int .i64 e] w fun en w' => en = .returned (.tuple #[.int .i64 (opV (endsGain n ws pz e)), .bool (opB (endsGain n ws pz e))]) ∧ Below w.heap.size w w' := by
  have HR := Lib.hid hr
  have HI := Lib.hid hi
  clear hr hi
  cases hok : prizesOk n ws pz
  · have HOK := Lib.hid hok
    rw [endsGain_no (by rw [hok]; rfl)]
    clear hok
    go_enter Try.func26, Try.ntmps26
    go_wp2_with fail
    refine (sPrizesOk_any _ _ _ _ _ _ _ _ (HR.out.later (by go_grown)) hm (HI.out.later (by go_grown)) hlm).mono ?_; rintro e w1 ⟨rfl, hb1⟩
    rw [HOK.out]
    obtain ⟨hc1, hf1⟩ := bcell hb1
    have hz1_0 : w.heap.size < w1.heap.size := by have hq := hb1.size; (try simp at hq); omega
    have HK1 := Lib.hid hb1
    have HB1 := Lib.hid (bstep (B := w.heap.size) (W := w) (by (try have hp := HB0.out); go_grown) (by go_size) hb1); clear hb1
    go_wp2_with fail
    refine bodyPost_ret (v := .tuple #[.int .i64 0, .bool false]) (by simp [results, Try.results26, go_sem]) rfl ?_
    exact ⟨rfl, HB1.out⟩
  · have HOK := Lib.hid hok
    have hpi := prizesOk_iff.1 hok
    have hno := hpi.ok
    have hni := netOk_t hno
    cases hpe : plOk n e
    · have HE : Hid ((netOk n ws && plOk n e) = false) := by show _ = _; rw [hpe]; simp
      rw [endsGain_no (by rw [hpe]; simp)]
      clear hok hpi hno hni hpe
      go_enter Try.func26, Try.ntmps26
      go_wp2_with fail
      refine (sPrizesOk_any _ _ _ _ _ _ _ _ (HR.out.later (by go_grown)) hm (HI.out.later (by go_grown)) hlm).mono ?_; rintro e w1 ⟨rfl, hb1⟩
      rw [HOK.out]
      obtain ⟨hc1, hf1⟩ := bcell hb1
      have hz1_0 : w.heap.size < w1.heap.size := by have hq := hb1.size; (try simp at hq); omega
      have HK1 := Lib.hid hb1
      have HB1 := Lib.hid (bstep (B := w.heap.size) (W := w) (by (try have hp := HB0.out); go_grown) (by go_size) hb1); clear hb1
      go_wp2_with fail
      refine (l1EndsOk_any _ _ _ _ _ _ (HR.out.later (by have := HB1.out; go_grown)) hm).mono ?_; rintro e w2 ⟨rfl, hb2⟩
      rw [HE.out]
      obtain ⟨hc2, hf2⟩ := bcell hb2
      have hz2_0 : w.heap.size < w2.heap.size := by have hq := hb2.size; (try simp at hq); omega
      have HK2 := Lib.hid hb2
      have HB2 := Lib.hid (bstep (B := w.heap.size) (W := w) (by have hp := HB1.out; go_grown) (by go_size) hb2); clear hb2
      go_wp2_with fail
      refine bodyPost_ret (v := .tuple #[.int .i64 0, .bool false]) (by simp [results, Try.results26, go_sem]) rfl ?_
      exact ⟨rfl, HB2.out⟩
    · have HE : Hid ((netOk n ws && plOk n e) = true) := by show _ = _; rw [hno, hpe]; rfl
      obtain ⟨e0, e1⟩ := plOk_t hpe
      have hn6 := hni.hi
      have hn2 := hni.lo
      have hp6 := pow_bd n 6 (by omega)
      obtain ⟨i0, i1, -⟩ := src_in e0 e1 hni
      have hor : bits .or .i64 e 1 = ior e 1 := bits_or _ _ e0 (by omega) (by omega) (by omega)
      have hrc : rootCost n ws (ior e 1) = rc ws (ior e 1) := rootCost_rc hno (plOk_mk i0 i1)
      have hrb := rc_ge hni (ior e 1)
      have HIS : Hid (0 ≤ rc ws (ior e 1) → endsGain n ws pz e = some (eGain ws pz e)) := fun h => endsGain_is hpi hpe h
      have HNO : Hid (rc ws (ior e 1) < 0 → endsGain n ws pz e = none) := fun h => endsGain_no (by rw [decide_eq_false (by omega)]; simp)
      have HEG : Hid (eGain ws pz e = prTo pz (ior e 1) pz.length - rc ws (ior e 1)) := rfl
      obtain ⟨E, hE⟩ : ∃ E, ior e 1 = E := ⟨_, rfl⟩
      obtain ⟨C, hC⟩ : ∃ C, rc ws E = C := ⟨_, rfl⟩
      rw [hE] at hor hrc i0 i1 hrb HIS HNO HEG
      rw [hC] at hrc hrb HIS HNO HEG
      have HOR := Lib.hid hor
      have HRC := Lib.hid hrc
      have HINS := Lib.hid hpi.ins
      have HLN := Lib.hid hpi.len
      have hp0 : 0 < pz.length := by have := hpi.len; omega
      have hE64 : E < 64 := by omega
      clear hok hpi hno hni hpe hE hC hor hrc hp6 i1
      by_cases hC0 : C < 0
      · rw [HNO.out hC0]
        go_enter Try.func26, Try.ntmps26
        go_wp2_with fail
        refine (sPrizesOk_any _ _ _ _ _ _ _ _ (HR.out.later (by go_grown)) hm (HI.out.later (by go_grown)) hlm).mono ?_; rintro e w1 ⟨rfl, hb1⟩
        rw [HOK.out]
        obtain ⟨hc1, hf1⟩ := bcell hb1
        have hz1_0 : w.heap.size < w1.heap.size := by have hq := hb1.size; (try simp at hq); omega
        have HK1 := Lib.hid hb1
        have HB1 := Lib.hid (bstep (B := w.heap.size) (W := w) (by (try have hp := HB0.out); go_grown) (by go_size) hb1); clear hb1
        go_wp2_with fail
        refine (l1EndsOk_any _ _ _ _ _ _ (HR.out.later (by have := HB1.out; go_grown)) hm).mono ?_; rintro e w2 ⟨rfl, hb2⟩
        rw [HE.out]
        obtain ⟨hc2, hf2⟩ := bcell hb2
        have hz2_0 : w.heap.size < w2.heap.size := by have hq := hb2.size; (try simp at hq); omega
        have HK2 := Lib.hid hb2
        have HB2 := Lib.hid (bstep (B := w.heap.size) (W := w) (by have hp := HB1.out; go_grown) (by go_size) hb2); clear hb2
        have hor := HOR.out
        go_wp2_with fail
        refine (sRootCost_any _ _ _ _ _ _ (HR.out.later (by have := HB2.out; go_grown)) hm).mono ?_; rintro e w3 ⟨rfl, hb3⟩
        rw [HRC.out]
        obtain ⟨hc3, hf3⟩ := bcell hb3
        have hz3_0 : w.heap.size < w3.heap.size := by have hq := hb3.size; (try simp at hq); omega
        have HK3 := Lib.hid hb3
        have HB3 := Lib.hid (bstep (B := w.heap.size) (W := w) (by have hp := HB2.out; go_grown) (by go_size) hb3); clear hb3
        go_wp2_with fail
        refine bodyPost_ret (v := .tuple #[.int .i64 0, .bool false]) (by simp [results, Try.results26, go_sem]) rfl ?_
        exact ⟨rfl, HB3.out⟩
      · rw [HIS.out (by omega)]
        obtain ⟨b, o, hAr, hb, -⟩ := HI.out.at_ hp0
        subst hAr
        have HNG : Hid (IntKind.i64.wrap (-C) = -C) := IntWalk.i64_in _ ⟨by omega, by omega⟩
        have HNG2 : Hid (wrap64 (-C) = -C) := IntWalk.wrap64_in _ ⟨by omega, by omega⟩
        go_enter Try.func26, Try.ntmps26
        go_wp2_with fail
        refine (sPrizesOk_any _ _ _ _ _ _ _ _ (HR.out.later (by go_grown)) hm (HI.out.later (by go_grown)) hlm).mono ?_; rintro e w1 ⟨rfl, hb1⟩
        rw [HOK.out]
        obtain ⟨hc1, hf1⟩ := bcell hb1
        have hz1_0 : w.heap.size < w1.heap.size := by have hq := hb1.size; (try simp at hq); omega
        have HK1 := Lib.hid hb1
        have HB1 := Lib.hid (bstep (B := w.heap.size) (W := w) (by (try have hp := HB0.out); go_grown) (by go_size) hb1); clear hb1
        go_wp2_with fail
        refine (l1EndsOk_any _ _ _ _ _ _ (HR.out.later (by have := HB1.out; go_grown)) hm).mono ?_; rintro e w2 ⟨rfl, hb2⟩
        rw [HE.out]
        obtain ⟨hc2, hf2⟩ := bcell hb2
        have hz2_0 : w.heap.size < w2.heap.size := by have hq := hb2.size; (try simp at hq); omega
        have HK2 := Lib.hid hb2
        have HB2 := Lib.hid (bstep (B := w.heap.size) (W := w) (by have hp := HB1.out; go_grown) (by go_size) hb2); clear hb2
        have hor := HOR.out
        go_wp2_with fail
        refine (sRootCost_any _ _ _ _ _ _ (HR.out.later (by have := HB2.out; go_grown)) hm).mono ?_; rintro e w3 ⟨rfl, hb3⟩
        rw [HRC.out]
        obtain ⟨hc3, hf3⟩ := bcell hb3
        have hz3_0 : w.heap.size < w3.heap.size := by have hq := hb3.size; (try simp at hq); omega
        have HK3 := Lib.hid hb3
        have HB3 := Lib.hid (bstep (B := w.heap.size) (W := w) (by have hp := HB2.out; go_grown) (by go_size) hb3); clear hb3
        have ng := HNG.out
        have ng2 := HNG2.out
        have HI3 := Lib.hid (HI.out.later HB3.out)
        clear hc1 hf1 hc2 hf2 hc3 hf3 HB1 HK1 HK2 HB2 HK3
        go_wp2_with fail
        clear ng ng2 hor
        go_loopw [9, 10] (fun sv i wr => ∃ k : Nat, k ≤ pz.length ∧ sv = .int .i64 (prTo pz E k - C) ∧ i = .int .i64 k ∧ wr = w3) (fun _ i _ => pz.length - (intOf i).toNat)
        case atStart => exact ⟨0, Nat.zero_le _, by simp [prTo], rfl, rfl⟩
        case round =>
          obtain ⟨k, hk, rfl, rfl, rfl⟩ := hrel
          have hk0 : (0 : Int) ≤ (k : Int) := by omega
          have hpb := prTo_bd HINS.out E k
          by_cases hlk : k < pz.length
          · have hk1 : (k : Int) < (pz.length : Int) := by omega
            have hk60 : (k : Int) ≤ 60 := by have := HLN.out; omega
            have qk : wr.cell? ⟨b, o + k, none⟩ = some (.int .i64 (pz.getD k 0)) := by
              obtain ⟨b', o', e9, -, c9⟩ := HI3.out.at_ hlk
              injection e9 with e9; injection e9 with e91 e92; subst e91; subst e92
              exact c9
            have hq0 : 0 ≤ E / 2 ^ k := (div_pow_bd E k i0).1
            have hq1 : (E / 2 ^ k % 2 == 1) = bit E k := bit_mod_nat E k i0
            have hsi := pz_in HINS.out k
            have hst : prTo pz E (k + 1) = prTo pz E k + if bit E k = true then pz.getD k 0 else 0 := rfl
            obtain ⟨x, hx⟩ : ∃ x, pz.getD k 0 = x := ⟨_, rfl⟩
            obtain ⟨u, hu⟩ : ∃ u, prTo pz E k = u := ⟨_, rfl⟩
            rw [hx] at qk hsi hst
            rw [hu] at hpb hst ⊢
            have hor := HOR.out
            clear hx hu
            cases hbt : bit E k
            · rw [hbt] at hq1
              have HS1 : Hid (prTo pz E (k + 1) = u) := by show _ = _; rw [hst, hbt]; simp
              clear hst hbt hsi hpb
              go_wp2_with fail
              clear hor
              go_roundw
              case rel => exact ⟨k + 1, by omega, by rw [HS1.out], by go_num, by first | rfl | trivial⟩
              case measure => (simp [intOf]) <;> omega
            · rw [hbt] at hq1
              have HS1 : Hid (prTo pz E (k + 1) - C = u - C + x) := by show _ = _; rw [hst, hbt, if_pos rfl]; omega
              have hu120 : u ≤ 2000 := by have := HLN.out; omega
              have wk : IntKind.i64.wrap (u - C + x) = u - C + x := IntWalk.i64_in _ ⟨by omega, by omega⟩
              have wk2 : wrap64 (u - C + x) = u - C + x := IntWalk.wrap64_in _ ⟨by clear wk; omega, by clear wk; omega⟩
              clear hst hbt hsi hpb
              go_wp2_with fail
              clear wk wk2 hor
              go_roundw
              case rel => exact ⟨k + 1, by omega, by rw [HS1.out], by go_num, by first | rfl | trivial⟩
              case measure => (simp [intOf]) <;> omega
          · obtain rfl : k = pz.length := by omega
            go_wp2_with fail
            refine bodyPost_ret (v := .tuple #[.int .i64 (prTo pz E pz.length - C), .bool true]) (by simp [results, Try.results26, go_sem]) rfl ?_
            rw [← HEG.out]
            exact ⟨rfl, HB3.out⟩
end Go.Proofs.Ytoekaembfieigaa
