/- The model's least dearest way, and dearest way of a set. -/
import Derived.Test.YthadehgpeafniaaNxM
import Derived.Test.YthadehgpeafniaaMD
import Derived.Test.YthadehgpeafniaaME
import Derived.Test.YthadehgpeafniaaWC
set_option linter.unusedSimpArgs false
set_option linter.unusedVariables false
attribute [local go_sem ↓] Go.wp_at_zero Go.wp_at_succ
namespace Go.Proofs.Ythadehgpeafniaa
open Go.ChangeShapes Go.WideShapes Go.ChangeAt Go.RowKit

theorem ldF_none {ws : List Wy} {e : Int} (h : ∀ j : Nat, j < 10 → joins ws (upto ws j) e = false) : ld ws e = -1 := by
  rcases ldF_ok ws e 10 0 with ⟨h1, _⟩ | ⟨i, h1, _, h3, h4, _⟩
  · exact h1
  · rw [h i (by omega)] at h4; cases h4
theorem ldF_at {ws : List Wy} {e : Int} {k : Nat} (hk : k < 10) (h : ∀ j : Nat, j < k → joins ws (upto ws j) e = false) (hj : joins ws (upto ws k) e = true) : ld ws e = k := by
  rcases ldF_ok ws e 10 0 with ⟨_, h2⟩ | ⟨i, h1, _, h3, h4, h5⟩
  · rw [h2 k (by omega) (by omega)] at hj; cases hj
  · unfold ld
    rw [h1]
    by_cases e1 : i < k
    · rw [h i e1] at h4; cases h4
    · by_cases e2 : k < i
      · rw [h5 k (by omega) e2] at hj; cases hj
      · omega
theorem dear_end {ws : List Wy} {s : Int} : dearTo ws s ws.length = dear ws s := rfl
set_option maxHeartbeats 2000000 in
theorem sDearestOf_any (n s : Int) (A : Option Addr) (cap : Nat) (ws : List Wy) (w : World) (hr : RW w w.heap.size A ws) (hm : ws.length ≤ 1073741824) :
    Calls Try.prog 12 #[.agg #[.int .i64 n, .slice A ws.length cap], .int .i64 s] w fun e w' => e = .returned (.int .i64 (dearestOf n ws s)) ∧ Below w.heap.size w w' := by
  have HR := Lib.hid hr
  clear hr
  unfold dearestOf setOk
  cases hn : netOk n ws
  · have HN := Lib.hid hn
    clear hn
    go_enter Try.func12, Try.ntmps12
    go_wp2_with fail
    refine (sNetOk_any _ _ _ _ _ (HR.out.later (by go_grown)) hm).mono ?_; rintro e w1 ⟨rfl, hb1⟩
    rw [HN.out]
    obtain ⟨hc1, hf1⟩ := bcell hb1
    have hz1_0 : w.heap.size < w1.heap.size := by have hq := hb1.size; (try simp at hq); omega
    have HK1 := Lib.hid hb1
    have HB1 := Lib.hid (bstep (B := w.heap.size) (W := w) (by (try have hp := HB0.out); go_grown) (by go_size) hb1); clear hb1
    go_wp2_with fail
    go_ret
    exact ⟨rfl, HB1.out⟩
  · have HN := Lib.hid hn
    have HS := Lib.hid (netOk_t hn)
    have hl := (netOk_t hn).len
    have hp := pow_bd (ws.length : Int) 20 (by omega)
    rw [Int.toNat_natCast] at hp
    have hf := full_bd ws.length hl
    clear hn
    cases hin : inB s 0 (full ws.length)
    · have Hin : Hid (inB s 0 (2 ^ ws.length - 1) = false) := hin
      have hret : (decide (0 ≤ s) && decide (s ≤ full ws.length)) = false := hin
      rw [Bool.true_and, hret]
      clear hret
      clear hin
      go_enter Try.func12, Try.ntmps12
      go_wp2_with fail
      refine (sNetOk_any _ _ _ _ _ (HR.out.later (by go_grown)) hm).mono ?_; rintro e w1 ⟨rfl, hb1⟩
      rw [HN.out]
      obtain ⟨hc1, hf1⟩ := bcell hb1
      have hz1_0 : w.heap.size < w1.heap.size := by have hq := hb1.size; (try simp at hq); omega
      have HK1 := Lib.hid hb1
      have HB1 := Lib.hid (bstep (B := w.heap.size) (W := w) (by (try have hp := HB0.out); go_grown) (by go_size) hb1); clear hb1
      go_wp2_with fail
      refine (l1In_any _ _ _ _).mono ?_; rintro e w' ⟨rfl, rfl⟩; rw [Hin.out]
      go_wp2_with fail
      go_ret
      exact ⟨rfl, HB1.out⟩
    · have hin' := inB_t hin
      have Hin : Hid (inB s 0 (2 ^ ws.length - 1) = true) := hin
      have hret : (decide (0 ≤ s) && decide (s ≤ full ws.length)) = true := hin
      rw [Bool.true_and, hret]
      obtain ⟨s0, s1⟩ := hin'
      clear hret
      clear hin
      go_enter Try.func12, Try.ntmps12
      go_wp2_with fail
      refine (sNetOk_any _ _ _ _ _ (HR.out.later (by go_grown)) hm).mono ?_; rintro e w1 ⟨rfl, hb1⟩
      rw [HN.out]
      obtain ⟨hc1, hf1⟩ := bcell hb1
      have hz1_0 : w.heap.size < w1.heap.size := by have hq := hb1.size; (try simp at hq); omega
      have HK1 := Lib.hid hb1
      have HB1 := Lib.hid (bstep (B := w.heap.size) (W := w) (by (try have hp := HB0.out); go_grown) (by go_size) hb1); clear hb1
      have k10 : w1.cell? ⟨w.heap.size, 0, none⟩ = some (.int .i64 n) := by go_simp
      have k11 : w1.cell? ⟨w.heap.size, 1, none⟩ = some (.slice A ws.length cap) := by go_simp
      clear hc1 hf1 HK1
      go_wp2_with fail
      refine (l1In_any _ _ _ _).mono ?_; rintro e w' ⟨rfl, rfl⟩; rw [Hin.out]
      go_wp2_with fail
      go_loopw [5, 6] (fun c i wr => ∃ k : Nat, k ≤ ws.length ∧ i = .int .i64 k ∧ c = .int .i64 (dearTo ws s k) ∧ wr = w1) (fun _ i _ => ws.length - (intOf i).toNat)
      case atStart => exact ⟨0, Nat.zero_le _, rfl, rfl, by first | rfl | trivial⟩
      case round =>
        obtain ⟨k, hk, rfl, rfl, rfl⟩ := hrel
        by_cases hlt : k < ws.length
        · obtain ⟨x, hx⟩ : ∃ x, ws[k]? = some x := ⟨_, List.getElem?_eq_getElem hlt⟩
          obtain ⟨b, o, rfl, hB, c0, c1, c2⟩ := HR.out.below HB1.out k x hx
          have hq0 : 0 ≤ s / 2 ^ k := (div_pow_bd s k s0).1
          have hq1 : (s / 2 ^ k % 2 == 1) = bit s k := bit_mod_nat s k s0
          obtain ⟨X, hX⟩ : ∃ X, dearTo ws s k = X := ⟨_, rfl⟩
          rw [hX]
          cases hbit : bit s k
          · rw [hbit] at hq1
            have HY : Hid (dearTo ws s (k + 1) = X) := by show _ = _; rw [dearTo_no hx hbit, hX]
            clear hbit hx hX
            go_wp2_with fail
            go_roundw
            case rel => exact ⟨k + 1, by omega, by go_num, by rw [HY.out], by first | rfl | trivial⟩
            case measure => (simp [intOf]) <;> omega
          · rw [hbit] at hq1
            have HY : Hid (dearTo ws s (k + 1) = max X x.c) := by show _ = _; rw [dearTo_yes hx hbit, hX]
            clear hbit hx hX
            go_wp2_with fail
            go_roundw
            case rel => exact ⟨k + 1, by omega, by go_num, by rw [HY.out], by first | rfl | trivial⟩
            case measure => (simp [intOf]) <;> omega
        · obtain rfl : k = ws.length := by omega
          go_wp2_with fail
          go_ret
          exact ⟨ret_int (by first | (rw [dear_end]; done) | (rw [dear_end]; simp)), HB1.out⟩
end Go.Proofs.Ythadehgpeafniaa
