/- NetOk and CostOf, of the program and of its model. -/
import Derived.Test.YtnbihejoglgdhaaWA
set_option linter.unusedSimpArgs false
set_option linter.unusedVariables false
namespace Go.Proofs.Ytnbihejoglgdhaa
open Go.ChangeShapes Go.WideShapes Go.ChangeAt Go.RowKit

theorem all_take (n : Int) (ws : List Wy) (k : Nat) (x : Wy) (hx : ws[k]? = some x) : (ws.take (k + 1)).all (wayOk n) = ((ws.take k).all (wayOk n) && wayOk n x) := by
  rw [List.take_add_one, hx]; simp
theorem all_false (n : Int) (ws : List Wy) (k : Nat) (x : Wy) (hx : ws[k]? = some x) (h : wayOk n x = false) : ws.all (wayOk n) = false := by
  rw [List.all_eq_false]; exact ⟨x, List.mem_of_getElem? hx, by simp [h]⟩

set_option maxHeartbeats 400000 in
theorem NetOk_any (n : Int) (A : Option Addr) (cap : Nat) (ws : List Wy) (w : World) (hr : RW w w.heap.size A ws) :
    Calls Try.prog 29 #[.agg #[.int .i64 n, .slice A ws.length cap]] w fun e w' => e = .returned (.bool (netOk n ws)) ∧ Below w.heap.size w w' := by
  have HR := Lib.hid hr
  clear hr
  by_cases hs : 2 ≤ n ∧ n ≤ 6 ∧ ws.length ≤ 9
  · obtain ⟨hs1, hs2, hs3⟩ := hs
    have hfin : netOk n ws = ws.all (wayOk n) := by simp [netOk, hs1, hs2, hs3]
    rw [hfin]
    clear hfin
    go_enter Try.func29, Try.ntmps29
    go_wp2_with fail
    go_loopw [22] (fun i wr => ∃ k : Nat, k ≤ ws.length ∧ i = .int .i64 k ∧ (ws.take k).all (wayOk n) = true ∧ Below (w.heap.size + 1) (w.alloc (.cells #[.int .i64 n, .slice A ws.length cap] 25)) wr) (fun i _ => ws.length - (intOf i).toNat)
    case atStart => exact ⟨0, Nat.zero_le _, rfl, by simp, Below.refl _ _⟩
    case round =>
      obtain ⟨k, hk, rfl, hall, hb⟩ := hrel
      obtain ⟨hb1, b0, b1, hz⟩ := box2 hb
      by_cases hlt : k < ws.length
      · obtain ⟨x, hx⟩ : ∃ x, ws[k]? = some x := ⟨_, List.getElem?_eq_getElem hlt⟩
        obtain ⟨b, o, rfl, hB, c0, c1, c2⟩ := HR.out.below hb1 k x hx
        have HX := Lib.hid hx
        have HB0 := Lib.hid hb
        have HA := Lib.hid hall
        clear hx hb hb1 hall
        cases hbit : wayOk n x
        · have Hbit := Lib.hid hbit
          clear hbit
          go_wp2_with fail
          refine (wayOk_any _ _ _ _).mono ?_; rintro e w1 ⟨rfl, hb1⟩
          rw [Hbit.out]
          obtain ⟨hc1, hf1⟩ := bcell hb1
          have hz1_0 : w.heap.size < w1.heap.size := by have hq := hb1.size; (try simp at hq); omega
          have HK1 := Lib.hid hb1
          have HB1 := Lib.hid (bstep (B := w.heap.size + 1) (W := (w.alloc (.cells #[.int .i64 n, .slice (some ⟨b, o, none⟩) ws.length cap] 25))) (by (try have hp := HB0.out); go_grown) (by go_size) hb1); clear hb1
          go_wp2_with fail
          go_ret
          exact ⟨ret_bool (all_false n ws k x HX.out Hbit.out).symm, (box2 HB1.out).1⟩
        · have Hbit := Lib.hid hbit
          clear hbit
          go_wp2_with fail
          refine (wayOk_any _ _ _ _).mono ?_; rintro e w1 ⟨rfl, hb1⟩
          rw [Hbit.out]
          obtain ⟨hc1, hf1⟩ := bcell hb1
          have hz1_0 : w.heap.size < w1.heap.size := by have hq := hb1.size; (try simp at hq); omega
          have HK1 := Lib.hid hb1
          have HB1 := Lib.hid (bstep (B := w.heap.size + 1) (W := (w.alloc (.cells #[.int .i64 n, .slice (some ⟨b, o, none⟩) ws.length cap] 25))) (by (try have hp := HB0.out); go_grown) (by go_size) hb1); clear hb1
          go_wp2_with fail
          go_roundw
          case rel => exact ⟨k + 1, by omega, by go_num, by rw [all_take n ws k x HX.out, HA.out, Hbit.out]; rfl, HB1.out⟩
          case measure => simp [intOf]; omega
      · have HB0 := Lib.hid hb1
        have HA := Lib.hid hall
        clear hb hb1 hall
        go_wp2_with fail
        go_ret
        exact ⟨ret_bool (by have := HA.out; rw [List.take_of_length_le (by omega)] at this; rw [this]), HB0.out⟩
  · have hfin : netOk n ws = false := by
      unfold netOk
      by_cases h1 : 2 ≤ n <;> by_cases h2 : n ≤ 6 <;> by_cases h3 : ws.length ≤ 9 <;> simp [h1, h2, h3]
      exact absurd ⟨h1, h2, h3⟩ hs
    rw [hfin]
    clear hfin
    by_cases h1 : n < 2
    · clear hs
      go_enter Try.func29, Try.ntmps29
      go_wp2_with fail
      go_ret
      exact ⟨rfl, by go_grown⟩
    · by_cases h2 : 6 < n
      · clear hs
        go_enter Try.func29, Try.ntmps29
        go_wp2_with fail
        go_ret
        exact ⟨rfl, by go_grown⟩
      · have h3 : 9 < ws.length := by omega
        clear hs
        go_enter Try.func29, Try.ntmps29
        go_wp2_with fail
        go_ret
        exact ⟨rfl, by go_grown⟩

theorem waysOk_any (n s : Int) (A : Option Addr) (cap : Nat) (ws : List Wy) (w : World) (hr : RW w w.heap.size A ws) :
    Calls Try.prog 25 #[.agg #[.int .i64 n, .slice A ws.length cap], .int .i64 s] w fun e w' => e = .returned (.bool (setOk n ws s)) ∧ Below w.heap.size w w' := by
  have HR := Lib.hid hr
  clear hr
  unfold setOk
  cases hn : netOk n ws
  · have HN := Lib.hid hn
    clear hn
    go_enter Try.func25, Try.ntmps25
    go_wp2_with fail
    refine (NetOk_any _ _ _ _ _ (HR.out.later (by go_grown))).mono ?_; rintro e w1 ⟨rfl, hb1⟩
    rw [HN.out]
    obtain ⟨hc1, hf1⟩ := bcell hb1
    have hz1_0 : w.heap.size < w1.heap.size := by have hq := hb1.size; (try simp at hq); omega
    have HK1 := Lib.hid hb1
    have HB1 := Lib.hid (bstep (B := w.heap.size) (W := w) (by (try have hp := HB0.out); go_grown) (by go_size) hb1); clear hb1
    go_wp2_with fail
    go_ret
    exact ⟨rfl, HB1.out⟩
  · have HN := Lib.hid hn
    have hl := (netOk_t hn).len
    clear hn
    by_cases h0 : 0 ≤ s
    · go_enter Try.func25, Try.ntmps25
      go_wp2_with fail
      refine (NetOk_any _ _ _ _ _ (HR.out.later (by go_grown))).mono ?_; rintro e w1 ⟨rfl, hb1⟩
      rw [HN.out]
      obtain ⟨hc1, hf1⟩ := bcell hb1
      have hz1_0 : w.heap.size < w1.heap.size := by have hq := hb1.size; (try simp at hq); omega
      have HK1 := Lib.hid hb1
      have HB1 := Lib.hid (bstep (B := w.heap.size) (W := w) (by (try have hp := HB0.out); go_grown) (by go_size) hb1); clear hb1
      go_wp2_with fail
      refine (allWays_any _ _ _ _ (by omega) _).mono ?_; rintro e w2 ⟨rfl, hb2⟩
      obtain ⟨hc2, hf2⟩ := bcell hb2
      have hz2_0 : w.heap.size < w2.heap.size := by have hq := hb2.size; (try simp at hq); omega
      have HK2 := Lib.hid hb2
      have HB2 := Lib.hid (bstep (B := w.heap.size) (W := w) (by have hp := HB1.out; go_grown) (by go_size) hb2); clear hb2
      go_wp2_with fail
      go_ret
      exact ⟨ret_bool (by first | (simp [*]; done) | (rw [Bool.eq_iff_iff]; simp only [Bool.and_eq_true, Bool.or_eq_true, Bool.not_eq_true', bne_iff_ne, beq_iff_eq, decide_eq_true_eq, decide_eq_false_iff_not, beq_eq_false_iff_ne, ne_eq, Bool.true_and, Bool.and_true, Bool.false_and, Bool.and_false, Bool.true_or, Bool.false_or, Bool.or_false, true_and, and_true, Bool.false_eq_true, false_iff, iff_false, true_iff, iff_true, iff_self]; done) | (rw [Bool.eq_iff_iff]; simp only [Bool.and_eq_true, Bool.or_eq_true, Bool.not_eq_true', bne_iff_ne, beq_iff_eq, decide_eq_true_eq, decide_eq_false_iff_not, beq_eq_false_iff_ne, ne_eq, Bool.true_and, Bool.and_true, Bool.false_and, Bool.and_false, Bool.true_or, Bool.false_or, Bool.or_false, true_and, and_true, Bool.false_eq_true, false_iff, iff_false, true_iff, iff_true]; omega)), HB2.out⟩
    · go_enter Try.func25, Try.ntmps25
      go_wp2_with fail
      refine (NetOk_any _ _ _ _ _ (HR.out.later (by go_grown))).mono ?_; rintro e w1 ⟨rfl, hb1⟩
      rw [HN.out]
      obtain ⟨hc1, hf1⟩ := bcell hb1
      have hz1_0 : w.heap.size < w1.heap.size := by have hq := hb1.size; (try simp at hq); omega
      have HK1 := Lib.hid hb1
      have HB1 := Lib.hid (bstep (B := w.heap.size) (W := w) (by (try have hp := HB0.out); go_grown) (by go_size) hb1); clear hb1
      go_wp2_with fail
      go_ret
      exact ⟨ret_bool (by first | (simp [*]; done) | (rw [Bool.eq_iff_iff]; simp only [Bool.and_eq_true, Bool.or_eq_true, Bool.not_eq_true', bne_iff_ne, beq_iff_eq, decide_eq_true_eq, decide_eq_false_iff_not, beq_eq_false_iff_ne, ne_eq, Bool.true_and, Bool.and_true, Bool.false_and, Bool.and_false, Bool.true_or, Bool.false_or, Bool.or_false, true_and, and_true, Bool.false_eq_true, false_iff, iff_false, true_iff, iff_true, iff_self]; done) | (rw [Bool.eq_iff_iff]; simp only [Bool.and_eq_true, Bool.or_eq_true, Bool.not_eq_true', bne_iff_ne, beq_iff_eq, decide_eq_true_eq, decide_eq_false_iff_not, beq_eq_false_iff_ne, ne_eq, Bool.true_and, Bool.and_true, Bool.false_and, Bool.and_false, Bool.true_or, Bool.false_or, Bool.or_false, true_and, and_true, Bool.false_eq_true, false_iff, iff_false, true_iff, iff_true]; omega)), HB1.out⟩

end Go.Proofs.Ytnbihejoglgdhaa
