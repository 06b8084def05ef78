/- SpanOn and ChosenCost of the model. -/
import Derived.Test.YtfpaalmbllhmaaaDoorSQ
import Derived.Test.YtfpaalmbllhmaaaDoorMK
import Derived.Test.YtfpaalmbllhmaaaDoorMG
set_option linter.unusedSimpArgs false
set_option linter.unusedVariables false
namespace Go.Proofs.YtfpaalmbllhmaaaDoor
open Go.ChangeShapes Go.WideShapes Go.ChangeAt Go.RowKit

noncomputable def spanOn (n : Int) (ws : List Wy) (e : Int) : Int := if (netOk n ws && plOk n e) = true then so ws e else -1
noncomputable def chosenCost (n : Int) (ws : List Wy) (e c : Int) : Int := if ((netOk n ws && plOk n e) && plOk n c) = true then so ws (ior e c) else -1
theorem plOk_ior {n e c : Int} (h : plOk n e = true) (h' : plOk n c = true) : plOk n (ior e c) = true := by
  obtain ⟨e0, e1⟩ := plOk_t h
  obtain ⟨c0, c1⟩ := plOk_t h'
  have := ior_bd e c _ e1 c1
  exact plOk_mk this.1 this.2
set_option maxHeartbeats 2000000 in
theorem sSpanOn_any (n e : Int) (A : Option Addr) (cap : Nat) (ws : List Wy) (w : World) (hr : RW w w.heap.size A ws) (hm : ws.length ≤ 1073741824) :
    Calls Tryd.prog 56 #[.agg #[.int .i64 n, .slice A ws.length cap], .int .i64 e] w fun en w' => en = .returned (.int .i64 (spanOn n ws e)) ∧ Below w.heap.size w w' := by
  have HR := Lib.hid hr
  clear hr
  unfold spanOn
  cases hn : netOk n ws && plOk n e
  · have HN := Lib.hid hn
    rw [if_neg (by simp)]
    clear hn
    go_enter Tryd.func56, Tryd.ntmps56
    go_wp2_with fail
    refine (l1EndsOk_any _ _ _ _ _ _ (HR.out.later (by go_grown)) hm).mono ?_; rintro e w1 ⟨rfl, hb1⟩
    rw [HN.out]
    obtain ⟨hc1, hf1⟩ := bcell hb1
    have hz1_0 : w.heap.size < w1.heap.size := by have hq := hb1.size; (try simp at hq); omega
    have HK1 := Lib.hid hb1
    have HB1 := Lib.hid (bstep (B := w.heap.size) (W := w) (by (try have hp := HB0.out); go_grown) (by go_size) hb1); clear hb1
    go_wp2_with fail
    go_ret
    exact ⟨rfl, HB1.out⟩
  · have HN := Lib.hid hn
    obtain ⟨hn1, hn2⟩ : netOk n ws = true ∧ plOk n e = true := by simpa using hn
    have hnet := netOk_t hn1
    have HS := Lib.hid hnet
    have hl9 := hnet.len
    have hn6 := hnet.hi
    have hfb := full_bd ws.length hl9
    obtain ⟨he0, he1⟩ := plOk_t hn2
    have HE := Lib.hid he1
    have hp6 := pow_bd n 6 (by omega)
    have he2 : e ≤ 1048576 := by omega
    have hsb := span_bd ws e
    have hs0 := hsb.1
    have hs1 : span ws e ≤ 1048576 := by omega
    rw [if_pos rfl]
    unfold so
    clear hn hn1 hn2 he1 hnet hp6 hfb hsb
    cases hj : joins ws (span ws e) e
    · have HJ := Lib.hid hj
      rw [if_neg (by simp)]
      clear hj
      go_enter Tryd.func56, Tryd.ntmps56
      go_wp2_with fail
      refine (l1EndsOk_any _ _ _ _ _ _ (HR.out.later (by go_grown)) hm).mono ?_; rintro e w1 ⟨rfl, hb1⟩
      rw [HN.out]
      obtain ⟨hc1, hf1⟩ := bcell hb1
      have hz1_0 : w.heap.size < w1.heap.size := by have hq := hb1.size; (try simp at hq); omega
      have HK1 := Lib.hid hb1
      have HB1 := Lib.hid (bstep (B := w.heap.size) (W := w) (by (try have hp := HB0.out); go_grown) (by go_size) hb1); clear hb1
      go_wp2_with fail
      refine (l2Span_is n e A cap ws _ (HR.out.later (by have := HB1.out; go_grown)) HS.out he0 he2).mono ?_; rintro e w2 ⟨rfl, hb2⟩
      obtain ⟨hc2, hf2⟩ := bcell hb2
      have hz2_0 : w.heap.size < w2.heap.size := by have hq := hb2.size; (try simp at hq); omega
      have HK2 := Lib.hid hb2
      have HB2 := Lib.hid (bstep (B := w.heap.size) (W := w) (by have hp := HB1.out; go_grown) (by go_size) hb2); clear hb2
      go_wp2_with fail
      refine (l1Joins_any n (span ws e) e A cap ws _ (HR.out.later (by have := HB2.out; go_grown)) HS.out hs0 hs1 he0 HE.out).mono ?_; rintro e w3 ⟨rfl, hb3⟩
      rw [HJ.out]
      obtain ⟨hc3, hf3⟩ := bcell hb3
      have hz3_0 : w.heap.size < w3.heap.size := by have hq := hb3.size; (try simp at hq); omega
      have HK3 := Lib.hid hb3
      have HB3 := Lib.hid (bstep (B := w.heap.size) (W := w) (by have hp := HB2.out; go_grown) (by go_size) hb3); clear hb3
      go_wp2_with fail
      go_ret
      exact ⟨rfl, HB3.out⟩
    · have HJ := Lib.hid hj
      rw [if_pos rfl]
      clear hj
      go_enter Tryd.func56, Tryd.ntmps56
      go_wp2_with fail
      refine (l1EndsOk_any _ _ _ _ _ _ (HR.out.later (by go_grown)) hm).mono ?_; rintro e w1 ⟨rfl, hb1⟩
      rw [HN.out]
      obtain ⟨hc1, hf1⟩ := bcell hb1
      have hz1_0 : w.heap.size < w1.heap.size := by have hq := hb1.size; (try simp at hq); omega
      have HK1 := Lib.hid hb1
      have HB1 := Lib.hid (bstep (B := w.heap.size) (W := w) (by (try have hp := HB0.out); go_grown) (by go_size) hb1); clear hb1
      go_wp2_with fail
      refine (l2Span_is n e A cap ws _ (HR.out.later (by have := HB1.out; go_grown)) HS.out he0 he2).mono ?_; rintro e w2 ⟨rfl, hb2⟩
      obtain ⟨hc2, hf2⟩ := bcell hb2
      have hz2_0 : w.heap.size < w2.heap.size := by have hq := hb2.size; (try simp at hq); omega
      have HK2 := Lib.hid hb2
      have HB2 := Lib.hid (bstep (B := w.heap.size) (W := w) (by have hp := HB1.out; go_grown) (by go_size) hb2); clear hb2
      go_wp2_with fail
      refine (l1Joins_any n (span ws e) e A cap ws _ (HR.out.later (by have := HB2.out; go_grown)) HS.out hs0 hs1 he0 HE.out).mono ?_; rintro e w3 ⟨rfl, hb3⟩
      rw [HJ.out]
      obtain ⟨hc3, hf3⟩ := bcell hb3
      have hz3_0 : w.heap.size < w3.heap.size := by have hq := hb3.size; (try simp at hq); omega
      have HK3 := Lib.hid hb3
      have HB3 := Lib.hid (bstep (B := w.heap.size) (W := w) (by have hp := HB2.out; go_grown) (by go_size) hb3); clear hb3
      go_wp2_with fail
      refine (l1Cost_any n (span ws e) A cap ws _ (HR.out.later (by have := HB3.out; go_grown)) HS.out hs0 hs1).mono ?_; rintro e w4 ⟨rfl, hb4⟩
      obtain ⟨hc4, hf4⟩ := bcell hb4
      have hz4_0 : w.heap.size < w4.heap.size := by have hq := hb4.size; (try simp at hq); omega
      have HK4 := Lib.hid hb4
      have HB4 := Lib.hid (bstep (B := w.heap.size) (W := w) (by have hp := HB3.out; go_grown) (by go_size) hb4); clear hb4
      go_wp2_with fail
      go_ret
      exact ⟨rfl, HB4.out⟩
end Go.Proofs.YtfpaalmbllhmaaaDoor
