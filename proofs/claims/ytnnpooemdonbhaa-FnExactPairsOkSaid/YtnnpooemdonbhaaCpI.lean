/- The program's pairs: PairsOk, setJoinsPairs, JoinsPairs, PairsOf, PairsCost, leastOf, PartMany. -/
import Derived.Test.YtnnpooemdonbhaaCpD
import Derived.Test.YtnnpooemdonbhaaCpA
import Derived.Test.YtnnpooemdonbhaaMC
import Derived.Test.YtnnpooemdonbhaaME
set_option linter.unusedSimpArgs false
set_option linter.unusedVariables false
attribute [local go_sem ↓] Go.wp_at_zero Go.wp_at_succ
namespace Go.Proofs.Ytnnpooemdonbhaa
open Go.ChangeShapes Go.WideShapes Go.ChangeAt Go.RowKit

theorem pairsOk_no0 {n : Int} {ws : List Wy} {ps : List (Int × Int)} (h : netOk n ws = false) : pairsOk n ws ps = false := by unfold pairsOk; rw [h]; rfl
theorem pairsOk_no1 {n : Int} {ws : List Wy} {ps : List (Int × Int)} (h : ¬ ps.length ≤ 4) : pairsOk n ws ps = false := by unfold pairsOk; rw [decide_eq_false h]; simp
theorem pairsOk_no2 {n : Int} {ws : List Wy} {ps : List (Int × Int)} (h : ps.all (prIn n) = false) : pairsOk n ws ps = false := by unfold pairsOk; rw [h]; simp
set_option maxHeartbeats 2000000 in
theorem PairsOk_any (n : Int) (A : Option Addr) (cap : Nat) (ws : List Wy) (Ap : Option Addr) (cp : Nat) (ps : List (Int × Int)) (w : World) (hr : RW w w.heap.size A ws) (hp : RC w w.heap.size Ap ps) (hpm : ps.length ≤ 1073741824) :
    Calls Try.prog 6 #[.agg #[.int .i64 n, .slice A ws.length cap], .slice Ap ps.length cp] w fun e w' => e = .returned (.bool (pairsOk n ws ps)) ∧ Below w.heap.size w w' := by
  have HR := Lib.hid hr
  have HP := Lib.hid hp
  clear hr hp
  cases hno : netOk n ws
  · have HN := Lib.hid hno
    rw [pairsOk_no0 hno]
    clear hno
    go_enter Try.func6, Try.ntmps6
    go_wp2_with fail
    refine (NetOk_any _ _ _ _ _ (HR.out.later (by go_grown))).mono ?_; rintro e w1 ⟨rfl, hb1⟩
    rw [HN.out]
    obtain ⟨hc1, hf1⟩ := bcell hb1
    have hz1_0 : w.heap.size < w1.heap.size := by have hq := hb1.size; (try simp at hq); omega
    have HK1 := Lib.hid hb1
    have HB1 := Lib.hid (bstep (B := w.heap.size) (W := w) (by (try have hp := HB0.out); go_grown) (by go_size) hb1); clear hb1
    go_wp2_with fail
    go_ret
    exact ⟨rfl, HB1.out⟩
  · have HN := Lib.hid hno
    by_cases h4 : ps.length ≤ 4
    · have HALY : Hid (ps.all (prIn n) = true → pairsOk n ws ps = true) := fun h => by unfold pairsOk; rw [hno, h, decide_eq_true h4]; rfl
      have HALN : Hid (ps.all (prIn n) = false → pairsOk n ws ps = false) := pairsOk_no2
      have h4i : ¬ (4 : Int) < (ps.length : Int) := by omega
      obtain ⟨an, han⟩ : ∃ a, pairsOk n ws ps = a := ⟨_, rfl⟩
      rw [han] at HALY HALN ⊢
      clear hno han
      go_enter Try.func6, Try.ntmps6
      go_wp2_with fail
      refine (NetOk_any _ _ _ _ _ (HR.out.later (by go_grown))).mono ?_; rintro e w1 ⟨rfl, hb1⟩
      rw [HN.out]
      obtain ⟨hc1, hf1⟩ := bcell hb1
      have hz1_0 : w.heap.size < w1.heap.size := by have hq := hb1.size; (try simp at hq); omega
      have HK1 := Lib.hid hb1
      have HB1 := Lib.hid (bstep (B := w.heap.size) (W := w) (by (try have hp := HB0.out); go_grown) (by go_size) hb1); clear hb1
      have k10 : w1.cell? ⟨w.heap.size, 0, none⟩ = some (.int .i64 n) := by go_simp
      have k11 : w1.cell? ⟨w.heap.size, 1, none⟩ = some (.slice A ws.length cap) := by go_simp
      clear hc1 hf1
      go_wp2_with fail
      go_loopw [17] (fun i wr => ∃ k : Nat, k ≤ ps.length ∧ i = .int .i64 k ∧ (ps.take k).all (prIn n) = true ∧ wr.cell? ⟨w.heap.size, 0, none⟩ = some (.int .i64 n) ∧ wr.cell? ⟨w.heap.size, 1, none⟩ = some (.slice A ws.length cap) ∧ Below w.heap.size w wr ∧ w.heap.size < wr.heap.size) (fun i _ => ps.length - (intOf i).toNat)
      case atStart => exact ⟨0, Nat.zero_le _, rfl, rfl, k10, k11, HB1.out, hz1_0⟩
      case round =>
        clear k10 k11 HB1 HK1 h4i
        obtain ⟨k, hk, rfl, hall, b0, b1, hb, hz⟩ := hrel
        have HB0 := Lib.hid hb
        have hk0 : (0 : Int) ≤ (k : Int) := by omega
        by_cases hlk : k < ps.length
        · have hk1 : (k : Int) < (ps.length : Int) := by omega
          obtain ⟨⟨pa, pb⟩, hx⟩ : ∃ x, ps[k]? = some x := ⟨_, List.getElem?_eq_getElem hlk⟩
          obtain ⟨b, o, rfl, hB, c0, c1⟩ := (HP.out.later hb).at_ hx
          simp only at c0 c1
          have HTK := Lib.hid (prIn_take (n := n) hx)
          have HFA : Hid (prIn n (pa, pb) = false → an = false) := fun h => HALN.out (prIn_false hx h)
          rw [hall, Bool.true_and] at HTK
          clear hx hall hb
          cases ha : hasPl n pa
          · have HA := Lib.hid ha
            have HF : Hid (an = false) := HFA.out (by unfold prIn; simp only; rw [ha]; rfl)
            clear ha HTK HFA
            go_wp2_with fail
            refine (hasPlace_any _ _ _ _).mono ?_; rintro e w1 ⟨rfl, hb1⟩
            rw [HA.out]
            obtain ⟨hc1, hf1⟩ := bcell hb1
            have hz1_0 : w.heap.size < w1.heap.size := by have hq := hb1.size; (try simp at hq); omega
            have HK1 := Lib.hid hb1
            have HB1 := Lib.hid (bstep (B := w.heap.size) (W := w) (by (try have hp := HB0.out); go_grown) (by go_size) hb1); clear hb1
            go_wp2_with fail
            go_ret
            exact ⟨ret_bool HF.out.symm, HB1.out⟩
          · have HA := Lib.hid ha
            cases hb2 : hasPl n pb
            · have HB2' := Lib.hid hb2
              have HF : Hid (an = false) := HFA.out (by unfold prIn; simp only; rw [ha, hb2]; rfl)
              clear ha hb2 HTK HFA
              go_wp2_with fail
              refine (hasPlace_any _ _ _ _).mono ?_; rintro e w1 ⟨rfl, hb1⟩
              rw [HA.out]
              obtain ⟨hc1, hf1⟩ := bcell hb1
              have hz1_0 : w.heap.size < w1.heap.size := by have hq := hb1.size; (try simp at hq); omega
              have HK1 := Lib.hid hb1
              have HB1 := Lib.hid (bstep (B := w.heap.size) (W := w) (by (try have hp := HB0.out); go_grown) (by go_size) hb1); clear hb1
              go_wp2_with fail
              refine (hasPlace_any _ _ _ _).mono ?_; rintro e w2 ⟨rfl, hb2⟩
              rw [HB2'.out]
              obtain ⟨hc2, hf2⟩ := bcell hb2
              have hz2_0 : w.heap.size < w2.heap.size := by have hq := hb2.size; (try simp at hq); omega
              have HK2 := Lib.hid hb2
              have HB2 := Lib.hid (bstep (B := w.heap.size) (W := w) (by have hp := HB1.out; go_grown) (by go_size) hb2); clear hb2
              go_wp2_with fail
              go_ret
              exact ⟨ret_bool HF.out.symm, HB2.out⟩
            · have HB2' := Lib.hid hb2
              have HT2 : Hid ((ps.take (k + 1)).all (prIn n) = true) := by show _ = _; rw [HTK.out]; unfold prIn; simp only; rw [ha, hb2]; rfl
              clear ha hb2 HTK HFA
              go_wp2_with fail
              refine (hasPlace_any _ _ _ _).mono ?_; rintro e w1 ⟨rfl, hb1⟩
              rw [HA.out]
              obtain ⟨hc1, hf1⟩ := bcell hb1
              have hz1_0 : w.heap.size < w1.heap.size := by have hq := hb1.size; (try simp at hq); omega
              have HK1 := Lib.hid hb1
              have HB1 := Lib.hid (bstep (B := w.heap.size) (W := w) (by (try have hp := HB0.out); go_grown) (by go_size) hb1); clear hb1
              go_wp2_with fail
              refine (hasPlace_any _ _ _ _).mono ?_; rintro e w2 ⟨rfl, hb2⟩
              rw [HB2'.out]
              obtain ⟨hc2, hf2⟩ := bcell hb2
              have hz2_0 : w.heap.size < w2.heap.size := by have hq := hb2.size; (try simp at hq); omega
              have HK2 := Lib.hid hb2
              have HB2 := Lib.hid (bstep (B := w.heap.size) (W := w) (by have hp := HB1.out; go_grown) (by go_size) hb2); clear hb2
              have k10 : w2.cell? ⟨w.heap.size, 0, none⟩ = some (.int .i64 n) := by go_simp
              have k11 : w2.cell? ⟨w.heap.size, 1, none⟩ = some (.slice A ws.length cap) := by go_simp
              clear hc1 hf1 hc2 hf2
              go_wp2_with fail
              go_roundw
              case rel => exact ⟨k + 1, by omega, by go_num, HT2.out, k10, k11, HB2.out, hz2_0⟩
              case measure => (simp [intOf]) <;> omega
        · obtain rfl : k = ps.length := by omega
          rw [List.take_length] at hall
          have HALL : Hid (an = true) := HALY.out hall
          clear hall hb
          go_wp2_with fail
          go_ret
          exact ⟨ret_bool HALL.out.symm, HB0.out⟩
    · have HF : Hid (pairsOk n ws ps = false) := pairsOk_no1 h4
      have h4i : (4 : Int) < (ps.length : Int) := by omega
      rw [HF.out]
      clear hno h4
      go_enter Try.func6, Try.ntmps6
      go_wp2_with fail
      refine (NetOk_any _ _ _ _ _ (HR.out.later (by go_grown))).mono ?_; rintro e w1 ⟨rfl, hb1⟩
      rw [HN.out]
      obtain ⟨hc1, hf1⟩ := bcell hb1
      have hz1_0 : w.heap.size < w1.heap.size := by have hq := hb1.size; (try simp at hq); omega
      have HK1 := Lib.hid hb1
      have HB1 := Lib.hid (bstep (B := w.heap.size) (W := w) (by (try have hp := HB0.out); go_grown) (by go_size) hb1); clear hb1
      go_wp2_with fail
      go_ret
      exact ⟨rfl, HB1.out⟩
theorem joins_pair {n : Int} {ws : List Wy} (hn : NetIs n ws) {s a b : Int} (a0 : 0 ≤ a) (a1 : a < n) (b0 : 0 ≤ b) (b1 : b < n) : joins ws s (both a b) = prB ws s (a, b) := by
  unfold prB
  rw [Bool.eq_iff_iff]
  exact joins_both hn a0 a1 b0 b1
theorem both_bits {a b : Int} (a1 : a ≤ 5) (b1 : b ≤ 5) : bits .or .i64 (IntKind.i64.wrap (2 ^ a.toNat)) (IntKind.i64.wrap (2 ^ b.toNat)) = both a b := by
  rw [IntWalk.i64_left, IntWalk.i64_left]
  have ha := shl1_bd a a1
  have hb := shl1_bd b b1
  rw [wrap_shl1 _ a1, wrap_shl1 _ b1]
  exact bits_or _ _ (by omega) (by omega) (by omega) (by omega)
theorem pairsCost_is {n : Int} {ws : List Wy} {ps : List (Int × Int)} : costOf n ws (pairsOf n ws ps) = pairsCost n ws ps := by
  unfold pairsOf pairsCost
  have hm : setOk n ws (-1) = false := by
    cases h : setOk n ws (-1)
    · rfl
    · have := (setOk_t h).2.1; omega
  cases h : pairsOk n ws ps
  · rw [if_neg (by simp), if_neg (by simp)]; unfold costOf; rw [hm]; rfl
  · rw [if_pos rfl, if_pos rfl]
    unfold pc
    have hbd := (bpTo_bd ws ps (2 ^ ws.length)).1
    by_cases hb : bp ws ps < 0
    · rw [if_pos hb]
      have e9 : bp ws ps = -1 := by unfold bp at hb ⊢; omega
      rw [e9]; unfold costOf; rw [hm]; rfl
    · rw [if_neg hb]; unfold costOf
      rw [if_pos (setOk_mk (pairsOk_t h).1 (by omega) (bp_full ws ps))]
end Go.Proofs.Ytnnpooemdonbhaa
