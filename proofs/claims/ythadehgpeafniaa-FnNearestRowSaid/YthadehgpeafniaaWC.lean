/- NetOk and CostOf of the model. -/
import Derived.Test.YthadehgpeafniaaMC
set_option linter.unusedSimpArgs false
set_option linter.unusedVariables false
namespace Go.Proofs.Ythadehgpeafniaa
open Go.ChangeShapes Go.WideShapes Go.ChangeAt Go.RowKit

def inB (n a b : Int) : Bool := decide (a ≤ n) && decide (n ≤ b)
theorem inB_t {n a b : Int} (h : inB n a b = true) : a ≤ n ∧ n ≤ b := by unfold inB at h; simpa using h
theorem inB_f {n a b : Int} (h : inB n a b = false) : ¬ (a ≤ n ∧ n ≤ b) := by
  intro hh
  have : inB n a b = true := by unfold inB; simp [hh.1, hh.2]
  rw [h] at this; cases this
theorem l1In_any (n a b : Int) (w : World) :
    Calls Try.prog 39 #[.int .i64 n, .int .i64 a, .int .i64 b] w fun e w' => e = .returned (.bool (inB n a b)) ∧ w = w' := by
  unfold inB
  go_enter Try.func39, Try.ntmps39
  go_wp2
  all_goals
    go_ret
    exact ⟨ret_bool (by first | (simp [*]; done) | (rw [Bool.eq_iff_iff]; simp only [Bool.and_eq_true, Bool.or_eq_true, Bool.not_eq_true', bne_iff_ne, beq_iff_eq, decide_eq_true_eq, decide_eq_false_iff_not, beq_eq_false_iff_ne, ne_eq, Bool.true_and, Bool.and_true, Bool.false_and, Bool.and_false, Bool.true_or, Bool.false_or, Bool.or_false, true_and, and_true, Bool.false_eq_true, false_iff, iff_false, true_iff, iff_true, iff_self]; done) | (rw [Bool.eq_iff_iff]; simp only [Bool.and_eq_true, Bool.or_eq_true, Bool.not_eq_true', bne_iff_ne, beq_iff_eq, decide_eq_true_eq, decide_eq_false_iff_not, beq_eq_false_iff_ne, ne_eq, Bool.true_and, Bool.and_true, Bool.false_and, Bool.and_false, Bool.true_or, Bool.false_or, Bool.or_false, true_and, and_true, Bool.false_eq_true, false_iff, iff_false, true_iff, iff_true]; omega)), rfl⟩

theorem wayOk_iff (n : Int) (x : Wy) : wayOk n x = true ↔ (0 ≤ x.a ∧ x.a < n ∧ 0 ≤ x.b ∧ x.b < n ∧ x.a ≠ x.b ∧ 0 ≤ x.c ∧ x.c ≤ 9) := by
  refine ⟨wayOk_t, fun h => ?_⟩
  unfold wayOk hasPl
  simp [h]

set_option maxHeartbeats 1000000 in
theorem sNetOk_any (n : Int) (A : Option Addr) (cap : Nat) (ws : List Wy) (w : World) (hr : RW w w.heap.size A ws) (hm : ws.length ≤ 1073741824) :
    Calls Try.prog 38 #[.agg #[.int .i64 n, .slice A ws.length cap]] w fun e w' => e = .returned (.bool (netOk n ws)) ∧ Below w.heap.size w w' := by
  have HR := Lib.hid hr
  clear hr
  go_enter Try.func38, Try.ntmps38
  go_wp2_with fail
  go_loopw [3] (fun i wr => ∃ k : Nat, k ≤ ws.length ∧ i = .int .i64 k ∧ (ws.take k).all (wayOk n) = true ∧ Below (w.heap.size + 1) (w.alloc (.cells #[.int .i64 n, .slice A ws.length cap] 25)) wr) (fun i _ => ws.length - (intOf i).toNat)
  case atStart => exact ⟨0, Nat.zero_le _, rfl, by simp, Below.refl _ _⟩
  case round =>
    obtain ⟨k, hk, rfl, hall, hb⟩ := hrel
    obtain ⟨hb1, b0, b1, hz⟩ := box2 hb
    by_cases hlt : k < ws.length
    · obtain ⟨x, hx⟩ : ∃ x, ws[k]? = some x := ⟨_, List.getElem?_eq_getElem hlt⟩
      obtain ⟨b, o, rfl, hB, c0, c1, c2⟩ := HR.out.below hb1 k x hx
      have HX := Lib.hid hx
      have HB0 := Lib.hid hb
      have HB00 := Lib.hid hb1
      have HA := Lib.hid hall
      clear hx hb hb1 hall
      cases hbit : wayOk n x
      · have Hret : Hid (netOk n ws = false) := by
          show netOk n ws = false
          have := all_false n ws k x HX.out hbit
          unfold netOk; simp [this]
        have hno : ¬ (0 ≤ x.a ∧ x.a < n ∧ 0 ≤ x.b ∧ x.b < n ∧ x.a ≠ x.b ∧ 0 ≤ x.c ∧ x.c ≤ 9) := by rw [← wayOk_iff]; simp [hbit]
        clear hbit
        cases hin : inB x.c 0 9
        · have Hin := Lib.hid hin
          clear hin hno
          go_wp2_with ((go_at_call 39; refine (l1In_any _ _ _ _).mono ?_; rintro e w' ⟨rfl, rfl⟩; rw [Hin.out]))
          all_goals
            go_ret
            exact ⟨ret_bool Hret.out.symm, by have := HB00.out; go_grown⟩
        · have Hin := Lib.hid hin
          have hc := inB_t hin
          have hno' : x.a < 0 ∨ n ≤ x.a ∨ x.b < 0 ∨ n ≤ x.b ∨ x.a = x.b := by omega
          clear hin hno hc
          rcases hno' with h | h | h | h | h
          · go_wp2_with ((go_at_call 39; refine (l1In_any _ _ _ _).mono ?_; rintro e w' ⟨rfl, rfl⟩; rw [Hin.out]))
            all_goals
              go_ret
              exact ⟨ret_bool Hret.out.symm, by have := HB00.out; go_grown⟩
          · go_wp2_with ((go_at_call 39; refine (l1In_any _ _ _ _).mono ?_; rintro e w' ⟨rfl, rfl⟩; rw [Hin.out]))
            all_goals
              go_ret
              exact ⟨ret_bool Hret.out.symm, by have := HB00.out; go_grown⟩
          · go_wp2_with ((go_at_call 39; refine (l1In_any _ _ _ _).mono ?_; rintro e w' ⟨rfl, rfl⟩; rw [Hin.out]))
            all_goals
              go_ret
              exact ⟨ret_bool Hret.out.symm, by have := HB00.out; go_grown⟩
          · go_wp2_with ((go_at_call 39; refine (l1In_any _ _ _ _).mono ?_; rintro e w' ⟨rfl, rfl⟩; rw [Hin.out]))
            all_goals
              go_ret
              exact ⟨ret_bool Hret.out.symm, by have := HB00.out; go_grown⟩
          · have hq : (x.a == x.b) = true := by simp [h]
            clear h
            go_wp2_with ((go_at_call 39; refine (l1In_any _ _ _ _).mono ?_; rintro e w' ⟨rfl, rfl⟩; rw [Hin.out]))
            all_goals
              go_ret
              exact ⟨ret_bool Hret.out.symm, by have := HB00.out; go_grown⟩
      · have Hbit := Lib.hid hbit
        obtain ⟨y1, y2, y3, y4, y5, y6, y7⟩ := wayOk_t hbit
        have hq : (x.a == x.b) = false := by simp [y5]
        have Hin : Hid (inB x.c 0 9 = true) := by
          show inB x.c 0 9 = true
          unfold inB; simp [y6, y7]
        clear hbit y5
        go_wp2_with ((go_at_call 39; refine (l1In_any _ _ _ _).mono ?_; rintro e w' ⟨rfl, rfl⟩; rw [Hin.out]))
        go_roundw
        case rel => exact ⟨k + 1, by omega, by go_num, by rw [all_take n ws k x HX.out, HA.out, Hbit.out]; rfl, by have := HB0.out; go_grown⟩
        case measure => simp [intOf]; omega
    · have HB0 := Lib.hid hb1
      have hall' : ws.all (wayOk n) = true := by rw [List.take_of_length_le (by omega)] at hall; exact hall
      have Hret : Hid (netOk n ws = (inB n 2 6 && decide (ws.length ≤ 9))) := by
        show netOk n ws = _
        unfold netOk inB; rw [hall', Bool.and_true]
      clear hb hb1 hall hall'
      cases hin : inB n 2 6
      · rw [hin] at Hret
        have Hin := Lib.hid hin
        clear hin
        go_wp2_with ((go_at_call 39; refine (l1In_any _ _ _ _).mono ?_; rintro e w' ⟨rfl, rfl⟩; rw [Hin.out]))
        go_ret
        exact ⟨ret_bool (by rw [Hret.out]; rfl), by have := HB0.out; go_grown⟩
      · rw [hin] at Hret
        have Hin := Lib.hid hin
        clear hin
        go_wp2_with ((go_at_call 39; refine (l1In_any _ _ _ _).mono ?_; rintro e w' ⟨rfl, rfl⟩; rw [Hin.out]))
        go_ret
        exact ⟨ret_bool (by rw [Hret.out]; simp; omega), by have := HB0.out; go_grown⟩
end Go.Proofs.Ythadehgpeafniaa
