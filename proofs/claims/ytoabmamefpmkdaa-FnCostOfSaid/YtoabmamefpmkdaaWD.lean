import Derived.Test.YtoabmamefpmkdaaWC
set_option linter.unusedSimpArgs false
set_option linter.unusedVariables false
namespace Go.Proofs.Ytoabmamefpmkdaa
open Go.ChangeShapes Go.WideShapes Go.ChangeAt Go.RowKit

theorem l1Cost_any (n s : Int) (A : Option Addr) (cap : Nat) (ws : List Wy) (w : World) (hr : RW w w.heap.size A ws) (hn : NetIs n ws)
    (h2 : 0 ≤ s) (h3 : s ≤ 1048576) :
    Calls Try.prog 39 #[.agg #[.int .i64 n, .slice A ws.length cap], .int .i64 s] w fun e w' => e = .returned (.int .i64 (cost ws s)) ∧ Below w.heap.size w w' := by
  have HR := Lib.hid hr
  have HN := Lib.hid hn
  have hm := hn.len
  clear hr hn
  go_enter Try.func39, Try.ntmps39
  go_wp2_with fail
  go_loopw [5, 6] (fun c i wr => ∃ k : Nat, k ≤ ws.length ∧ i = .int .i64 k ∧ c = .int .i64 (cost (ws.take k) s) ∧ Below (w.heap.size + 1) (w.alloc (.cells #[.int .i64 n, .slice A ws.length cap] 25)) wr) (fun _ i _ => ws.length - (intOf i).toNat)
  case atStart => exact ⟨0, Nat.zero_le _, rfl, rfl, Below.refl _ _⟩
  case round =>
    obtain ⟨k, hk, rfl, rfl, hb⟩ := hrel
    obtain ⟨hb1, b0, b1, hz⟩ := box2 hb
    by_cases hlt : k < ws.length
    · obtain ⟨x, hx⟩ : ∃ x, ws[k]? = some x := ⟨_, List.getElem?_eq_getElem hlt⟩
      obtain ⟨b, o, rfl, hB, c0, c1, c2⟩ := HR.out.below hb1 k x hx
      have HX := Lib.hid (cost_take ws s k x hx)
      have hbd := cost_bd HN.out s k
      have hxc := HN.out.at_ hx
      have hx0 : 0 ≤ x.c := by omega
      have hx9 : x.c ≤ 9 := by omega
      have hq0 : 0 ≤ s / 2 ^ k := (div_pow_bd s k h2).1
      have hq1 : (s / 2 ^ k % 2 == 1) = bit s k := bit_mod_nat s k h2
      clear hx hxc hb1
      cases hbit : bit s k
      · rw [hbit] at hq1
        have Hbit := Lib.hid hbit
        clear hbit
        go_wp2_with fail
        go_roundw
        case rel => exact ⟨k + 1, by omega, by go_num, by rw [HX.out, Hbit.out]; simp, by go_grown⟩
        case measure => simp [intOf]; omega
      · rw [hbit] at hq1
        have Hbit := Lib.hid hbit
        clear hbit
        go_wp2_with fail
        go_roundw
        case rel => exact ⟨k + 1, by omega, by go_num, by rw [HX.out, Hbit.out]; simp, by go_grown⟩
        case measure => simp [intOf]; omega
    · go_wp2_with fail
      go_ret
      exact ⟨ret_int (by rw [List.take_of_length_le (by omega)]), hb1⟩

theorem full_wrap (len : Nat) (h : len ≤ 20) : wrap64 (wrap64 (2 ^ len) - 1) = full len := by
  have hp := pow_bd (len : Int) 20 (by omega)
  rw [Int.toNat_natCast] at hp
  have e1 : wrap64 (2 ^ len) = 2 ^ len := IntWalk.wrap64_in _ ⟨by omega, by omega⟩
  rw [e1]
  exact IntWalk.wrap64_in _ ⟨by omega, by omega⟩

set_option maxHeartbeats 400000 in
theorem sCostOf_any (n s : Int) (A : Option Addr) (cap : Nat) (ws : List Wy) (w : World) (hr : RW w w.heap.size A ws) (hm : ws.length ≤ 1073741824) :
    Calls Try.prog 16 #[.agg #[.int .i64 n, .slice A ws.length cap], .int .i64 s] w fun e w' => e = .returned (.int .i64 (costOf n ws s)) ∧ Below w.heap.size w w' := by
  have HR := Lib.hid hr
  clear hr
  unfold costOf setOk
  cases hn : netOk n ws
  · have HN := Lib.hid hn
    clear hn
    go_enter Try.func16, Try.ntmps16
    go_wp2_with fail
    refine (sNetOk_any _ _ _ _ _ (HR.out.later (by go_grown)) hm).mono ?_; rintro e w1 ⟨rfl, hb1⟩
    rw [HN.out]
    obtain ⟨hc1, hf1⟩ := bcell hb1
    have hz1_0 : w.heap.size < w1.heap.size := by have hq := hb1.size; (try simp at hq); omega
    have HK1 := Lib.hid hb1
    have HB1 := Lib.hid (bstep (B := w.heap.size) (W := w) (by (try have hp := HB0.out); go_grown) (by go_size) hb1); clear hb1
    go_wp2_with fail
    go_ret
    exact ⟨rfl, HB1.out⟩
  · have HN := Lib.hid hn
    have HS := Lib.hid (netOk_t hn)
    have hl := (netOk_t hn).len
    have hp := pow_bd (ws.length : Int) 20 (by omega)
    rw [Int.toNat_natCast] at hp
    have hf := full_bd ws.length hl
    clear hn
    cases hin : inB s 0 (full ws.length)
    · have hin' := inB_f hin
      have Hin : Hid (inB s 0 (2 ^ ws.length - 1) = false) := hin
      have hret : (decide (0 ≤ s) && decide (s ≤ full ws.length)) = false := hin
      rw [Bool.true_and, hret]
      clear hret
      clear hin
      go_enter Try.func16, Try.ntmps16
      go_wp2_with fail
      refine (sNetOk_any _ _ _ _ _ (HR.out.later (by go_grown)) hm).mono ?_; rintro e w1 ⟨rfl, hb1⟩
      rw [HN.out]
      obtain ⟨hc1, hf1⟩ := bcell hb1
      have hz1_0 : w.heap.size < w1.heap.size := by have hq := hb1.size; (try simp at hq); omega
      have HK1 := Lib.hid hb1
      have HB1 := Lib.hid (bstep (B := w.heap.size) (W := w) (by (try have hp := HB0.out); go_grown) (by go_size) hb1); clear hb1
      go_wp2_with fail
      refine (l1In_any _ _ _ _).mono ?_; rintro e w' ⟨rfl, rfl⟩; rw [Hin.out]
      go_wp2_with fail
      go_ret
      exact ⟨rfl, HB1.out⟩
    · have hin' := inB_t hin
      have Hin : Hid (inB s 0 (2 ^ ws.length - 1) = true) := hin
      have hret : (decide (0 ≤ s) && decide (s ≤ full ws.length)) = true := hin
      rw [Bool.true_and, hret]
      clear hret
      clear hin
      go_enter Try.func16, Try.ntmps16
      go_wp2_with fail
      refine (sNetOk_any _ _ _ _ _ (HR.out.later (by go_grown)) hm).mono ?_; rintro e w1 ⟨rfl, hb1⟩
      rw [HN.out]
      obtain ⟨hc1, hf1⟩ := bcell hb1
      have hz1_0 : w.heap.size < w1.heap.size := by have hq := hb1.size; (try simp at hq); omega
      have HK1 := Lib.hid hb1
      have HB1 := Lib.hid (bstep (B := w.heap.size) (W := w) (by (try have hp := HB0.out); go_grown) (by go_size) hb1); clear hb1
      go_wp2_with fail
      refine (l1In_any _ _ _ _).mono ?_; rintro e w' ⟨rfl, rfl⟩; rw [Hin.out]
      go_wp2_with fail
      refine (l1Cost_any _ _ _ _ _ _ (HR.out.later (by have := HB1.out; go_grown)) HS.out hin'.1 (by omega)).mono ?_; rintro e w2 ⟨rfl, hb2⟩
      obtain ⟨hc2, hf2⟩ := bcell hb2
      have hz2_0 : w.heap.size < w2.heap.size := by have hq := hb2.size; (try simp at hq); omega
      have HK2 := Lib.hid hb2
      have HB2 := Lib.hid (bstep (B := w.heap.size) (W := w) (by have hp := HB1.out; go_grown) (by go_size) hb2); clear hb2
      go_wp2_with fail
      go_ret
      exact ⟨rfl, HB2.out⟩
end Go.Proofs.Ytoabmamefpmkdaa
