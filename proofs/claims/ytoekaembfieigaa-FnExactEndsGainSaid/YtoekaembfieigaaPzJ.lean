/- The program's EndsGain, by the table over sets of ends. -/
import Derived.Test.YtoekaembfieigaaPzI
import Derived.Test.YtoekaembfieigaaFb
set_option linter.unusedSimpArgs false
set_option linter.unusedVariables false
attribute [local go_sem ↓] Go.wp_at_zero Go.wp_at_succ
namespace Go.Proofs.Ytoekaembfieigaa
open Go.ChangeShapes Go.WideShapes Go.ChangeAt Go.RowKit

theorem FootTable_P (m N : Nat) (hN : 2 ^ m = N) (A : Option Addr) (cap : Nat) (ws : List Wy) (w : World) (hr : RW w w.heap.size A ws) (hno : netOk (m : Int) ws = true) :
    Calls Try.prog 45 #[.agg #[.int .i64 m, .slice A ws.length cap]] w fun e w' => ∃ T cT lo hi R C, e = .returned (.slice (some ⟨T, 0, none⟩) N cT) ∧ TabR w' lo hi T N m R C (FT ws) ∧ w.heap.size ≤ lo ∧ Below w.heap.size w w' := by
  subst hN; exact FootTable_any m A cap ws w hr hno
theorem ft_src (ws : List Wy) (a : Nat) : FT ws a 0 = rc ws (ior (a : Int) 1) := rfl
set_option maxHeartbeats 4000000 in
theorem EndsGain_any (n : Int) (A : Option Addr) (cap : Nat) (ws : List Wy) (Ar : Option Addr) (cr : Nat) (pz : List Int) (e : Int) (w : World) (hr : RW w w.heap.size A ws) (hi : RI w w.heap.size Ar pz) :
    Calls Try.prog 24 #[.agg #[.int .i64 n, .slice A ws.length cap], .slice Ar pz.length cr, .int .i64 e] w fun en w' => en = .returned (.tuple #[.int .i64 (opV (endsGain n ws pz e)), .bool (opB (endsGain n ws pz e))]) ∧ Below w.heap.size w w' := by
  have HR := Lib.hid hr
  have HI := Lib.hid hi
  clear hr hi
  cases hok : prizesOk n ws pz
  · have HOK := Lib.hid hok
    rw [endsGain_no (by rw [hok]; rfl)]
    clear hok
    go_enter Try.func24, Try.ntmps24
    go_wp2_with fail
    refine (PrizesOk_any _ _ _ _ _ _ _ _ (HR.out.later (by go_grown)) (HI.out.later (by go_grown))).mono ?_; rintro e w1 ⟨rfl, hb1⟩
    rw [HOK.out]
    obtain ⟨hc1, hf1⟩ := bcell hb1
    have hz1_0 : w.heap.size < w1.heap.size := by have hq := hb1.size; (try simp at hq); omega
    have HK1 := Lib.hid hb1
    have HB1 := Lib.hid (bstep (B := w.heap.size) (W := w) (by (try have hp := HB0.out); go_grown) (by go_size) hb1); clear hb1
    go_wp2_with fail
    refine bodyPost_ret (v := .tuple #[.int .i64 0, .bool false]) (by simp [results, Try.results24, go_sem]) rfl ?_
    exact ⟨rfl, HB1.out⟩
  · have HOK := Lib.hid hok
    have hpi := prizesOk_iff.1 hok
    have hno := hpi.ok
    have hni := netOk_t hno
    have hn6 := hni.hi
    have hn2 := hni.lo
    have HNO := Lib.hid hno
    cases hpe : plOk n e
    · have HE : Hid ((decide (0 ≤ e) && decide (e < 2 ^ n.toNat)) = false) := hpe
      rw [endsGain_no (by rw [hpe]; simp)]
      clear hok hpi hno hni hpe
      go_enter Try.func24, Try.ntmps24
      go_wp2_with fail
      refine (PrizesOk_any _ _ _ _ _ _ _ _ (HR.out.later (by go_grown)) (HI.out.later (by go_grown))).mono ?_; rintro e w1 ⟨rfl, hb1⟩
      rw [HOK.out]
      obtain ⟨hc1, hf1⟩ := bcell hb1
      have hz1_0 : w.heap.size < w1.heap.size := by have hq := hb1.size; (try simp at hq); omega
      have HK1 := Lib.hid hb1
      have HB1 := Lib.hid (bstep (B := w.heap.size) (W := w) (by (try have hp := HB0.out); go_grown) (by go_size) hb1); clear hb1
      go_wp2_with fail
      refine (hasPlaces_any _ _ _ (by omega) (by omega) _).mono ?_; rintro e w2 ⟨rfl, hb2⟩
      rw [HE.out]
      obtain ⟨hc2, hf2⟩ := bcell hb2
      have hz2_0 : w.heap.size < w2.heap.size := by have hq := hb2.size; (try simp at hq); omega
      have HK2 := Lib.hid hb2
      have HB2 := Lib.hid (bstep (B := w.heap.size) (W := w) (by have hp := HB1.out; go_grown) (by go_size) hb2); clear hb2
      go_wp2_with fail
      refine bodyPost_ret (v := .tuple #[.int .i64 0, .bool false]) (by simp [results, Try.results24, go_sem]) rfl ?_
      exact ⟨rfl, HB2.out⟩
    · have HE : Hid ((decide (0 ≤ e) && decide (e < 2 ^ n.toNat)) = true) := hpe
      obtain ⟨e0, e1⟩ := plOk_t hpe
      obtain ⟨m, hm⟩ := Int.eq_ofNat_of_zero_le (show 0 ≤ n by omega)
      obtain ⟨a, ha⟩ := Int.eq_ofNat_of_zero_le e0
      subst hm
      subst ha
      obtain ⟨N, hN⟩ : ∃ N, 2 ^ m = N := ⟨_, rfl⟩
      have hm6 : m ≤ 6 := by omega
      have hN64 : N ≤ 64 := by rw [← hN]; exact Nat.pow_le_pow_right (n := 2) (by omega) hm6
      have haN : a < N := by
        have e9 : ((2 : Int) ^ ((m : Int)).toNat) = ((2 ^ m : Nat) : Int) := by simp
        rw [e9] at e1; omega
      have HNN := Lib.hid hN
      obtain ⟨i0, i1, -⟩ := src_in e0 e1 hni
      have hp6 := pow_bd (m : Int) 6 (by omega)
      have hor : bits .or .i64 (a : Int) 1 = ior (a : Int) 1 := bits_or _ _ (by omega) (by omega) (by omega) (by omega)
      have hrb := rc_ge hni (ior (a : Int) 1)
      have HFS := Lib.hid (ft_src ws a)
      have HIS : Hid (0 ≤ rc ws (ior (a : Int) 1) → endsGain (m : Int) ws pz a = some (eGain ws pz a)) := fun h => endsGain_is hpi hpe h
      have HNS : Hid (rc ws (ior (a : Int) 1) < 0 → endsGain (m : Int) ws pz a = none) := fun h => endsGain_no (by rw [decide_eq_false (by omega)]; simp)
      have HEG : Hid (eGain ws pz a = prTo pz (ior (a : Int) 1) pz.length - rc ws (ior (a : Int) 1)) := rfl
      obtain ⟨E, hE⟩ : ∃ E, ior (a : Int) 1 = E := ⟨_, rfl⟩
      obtain ⟨C, hC⟩ : ∃ C, rc ws E = C := ⟨_, rfl⟩
      rw [hE] at hor i0 i1 hrb HIS HNS HEG HFS
      rw [hC] at hrb HIS HNS HEG HFS
      have HOR := Lib.hid hor
      have HINS := Lib.hid hpi.ins
      have hlen := hpi.len
      have hp0 : 0 < pz.length := by omega
      have hpl6 : pz.length ≤ 6 := by omega
      have hE64 : E ≤ 1048576 := by omega
      have hpb := prTo_bd hpi.ins E pz.length
      obtain ⟨b, o, hAr, -, -⟩ := HI.out.at_ hp0
      subst hAr
      have hm0 : (0 : Int) < (m : Int) := by omega
      have ha0 : (0 : Int) ≤ (a : Int) := by omega
      have haN' : (a : Int) < (N : Int) := by omega
      clear hok hpi hno hni hpe hE hC hor hp6 i1 e0 e1 hN hlen
      by_cases hC0 : C < 0
      · rw [HNS.out hC0]
        go_enter Try.func24, Try.ntmps24
        go_wp2_with fail
        refine (PrizesOk_any _ _ _ _ _ _ _ _ (HR.out.later (by go_grown)) (HI.out.later (by go_grown))).mono ?_; rintro e w1 ⟨rfl, hb1⟩
        rw [HOK.out]
        obtain ⟨hc1, hf1⟩ := bcell hb1
        have hz1_0 : w.heap.size < w1.heap.size := by have hq := hb1.size; (try simp at hq); omega
        have HK1 := Lib.hid hb1
        have HB1 := Lib.hid (bstep (B := w.heap.size) (W := w) (by (try have hp := HB0.out); go_grown) (by go_size) hb1); clear hb1
        go_wp2_with fail
        refine (hasPlaces_any _ _ _ (by omega) (by omega) _).mono ?_; rintro e w2 ⟨rfl, hb2⟩
        rw [HE.out]
        obtain ⟨hc2, hf2⟩ := bcell hb2
        have hz2_0 : w.heap.size < w2.heap.size := by have hq := hb2.size; (try simp at hq); omega
        have HK2 := Lib.hid hb2
        have HB2 := Lib.hid (bstep (B := w.heap.size) (W := w) (by have hp := HB1.out; go_grown) (by go_size) hb2); clear hb2
        go_wp2_with fail
        refine (FootTable_P m N HNN.out A cap ws _ (HR.out.later (by have := HB2.out; go_grown)) HNO.out).mono ?_; rintro e3 w3 ⟨T, cT, lo, hi3, R, D, rfl, htab, hlo, hb3⟩
        have HB3 := Lib.hid (bstep (B := w.heap.size) (W := w) (by have := HB2.out; go_grown) (by go_size) hb3)
        have q0 := htab.top a haN
        have q1 := (htab.row a 0 haN (by omega)).1
        rw [HFS.out] at q1
        clear htab hlo hb3 hc1 hf1 hc2 hf2
        go_wp2_with fail
        refine bodyPost_ret (v := .tuple #[.int .i64 0, .bool false]) (by simp [results, Try.results24, go_sem]) rfl ?_
        exact ⟨rfl, HB3.out⟩
      · rw [HIS.out (by omega)]
        obtain ⟨P, hP⟩ : ∃ P, prTo pz E pz.length = P := ⟨_, rfl⟩
        have HP := Lib.hid hP
        rw [hP] at hpb HEG
        have HW1 : Hid (IntKind.i64.wrap (P - C) = P - C) := IntWalk.i64_in _ ⟨by omega, by omega⟩
        have HW2 : Hid (wrap64 (P - C) = P - C) := IntWalk.wrap64_in _ ⟨by omega, by omega⟩
        have HOP : Hid (opV (some (eGain ws pz a)) = P - C) := HEG.out
        clear hP hpb
        go_enter Try.func24, Try.ntmps24
        go_wp2_with fail
        refine (PrizesOk_any _ _ _ _ _ _ _ _ (HR.out.later (by go_grown)) (HI.out.later (by go_grown))).mono ?_; rintro e w1 ⟨rfl, hb1⟩
        rw [HOK.out]
        obtain ⟨hc1, hf1⟩ := bcell hb1
        have hz1_0 : w.heap.size < w1.heap.size := by have hq := hb1.size; (try simp at hq); omega
        have HK1 := Lib.hid hb1
        have HB1 := Lib.hid (bstep (B := w.heap.size) (W := w) (by (try have hp := HB0.out); go_grown) (by go_size) hb1); clear hb1
        go_wp2_with fail
        refine (hasPlaces_any _ _ _ (by omega) (by omega) _).mono ?_; rintro e w2 ⟨rfl, hb2⟩
        rw [HE.out]
        obtain ⟨hc2, hf2⟩ := bcell hb2
        have hz2_0 : w.heap.size < w2.heap.size := by have hq := hb2.size; (try simp at hq); omega
        have HK2 := Lib.hid hb2
        have HB2 := Lib.hid (bstep (B := w.heap.size) (W := w) (by have hp := HB1.out; go_grown) (by go_size) hb2); clear hb2
        go_wp2_with fail
        refine (FootTable_P m N HNN.out A cap ws _ (HR.out.later (by have := HB2.out; go_grown)) HNO.out).mono ?_; rintro e3 w3 ⟨T, cT, lo, hi3, R, D, rfl, htab, hlo, hb3⟩
        have HB3 := Lib.hid (bstep (B := w.heap.size) (W := w) (by have := HB2.out; go_grown) (by go_size) hb3)
        have hz3 : w.heap.size < w3.heap.size := by have hq := hb3.size; (try simp at hq); omega
        have q0 := htab.top a haN
        have q1 := (htab.row a 0 haN (by omega)).1
        rw [HFS.out] at q1
        clear htab hlo hb3 hc1 hf1 hc2 hf2
        have hor := HOR.out
        go_wp2_with fail
        refine (prizesOf_any E i0 hE64 b o cr _ pz rfl hpl6 HINS.out _ (HI.out.later (by have := HB3.out; go_grown))).mono ?_; rintro e4 w4 ⟨rfl, hb4⟩; rw [HP.out]
        have HB4 := Lib.hid (bstep (B := w.heap.size) (W := w) (by have := HB3.out; go_grown) (Nat.le_of_lt hz3) hb4)
        have hw1 := HW1.out
        have hw2 := HW2.out
        clear hb4
        go_wp2_with fail
        refine bodyPost_ret (v := .tuple #[.int .i64 (P - C), .bool true]) (by simp [results, Try.results24, go_sem]) rfl ?_
        rw [HOP.out]
        exact ⟨rfl, HB4.out⟩
end Go.Proofs.Ytoekaembfieigaa
