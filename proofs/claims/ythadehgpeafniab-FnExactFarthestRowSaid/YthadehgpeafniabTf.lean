/- FarTable of the model. -/
import Derived.Test.YthadehgpeafniabTe
import Derived.Test.YthadehgpeafniabTd
import Derived.Test.YthadehgpeafniabWC
set_option linter.unusedSimpArgs false
set_option linter.unusedVariables false
attribute [local go_sem ↓] Go.wp_at_zero Go.wp_at_succ
namespace Go.Proofs.Ythadehgpeafniab
open Go.ChangeShapes Go.WideShapes Go.ChangeAt Go.RowKit

/-- the table of a net, or none -/
def TabOr (ok : Bool) (m : Nat) (ws : List Wy) (w : World) (e : Ending) (w' : World) : Prop :=
  (ok = false → ∃ A c, e = .returned (.slice A 0 c)) ∧ (ok = true → ∃ T cT lo hi R C, e = .returned (.slice (some ⟨T, 0, none⟩) m cT) ∧ TabM w' lo hi T m R C (farF ws m) ∧ w.heap.size ≤ lo) ∧ Below w.heap.size w w'
theorem noRows' (W : World) : (Instr.buildSlice 40 0 #[]).run Try.prog W = .ok (.slice (some ⟨W.heap.size, 0, none⟩) 0 0) (W.alloc (.cells #[] 33)) := by kernel_rfl
set_option maxHeartbeats 1000000 in
theorem sFarTable_none (n : Int) (A : Option Addr) (cap : Nat) (ws : List Wy) (w : World) (hr : RW w w.heap.size A ws) (hm : ws.length ≤ 1073741824) (hno : netOk n ws = false) :
    Calls Try.prog 32 #[.agg #[.int .i64 n, .slice A ws.length cap]] w fun e w' => (∃ A c, e = .returned (.slice A 0 c)) ∧ Below w.heap.size w w' := by
  have HR := Lib.hid hr
  have HN := Lib.hid hno
  have hbs := noRows'
  clear hr hno
  go_enter Try.func32, Try.ntmps32
  go_wp2_with fail
  refine (sNetOk_any _ _ _ _ _ (HR.out.later (by go_grown)) hm).mono ?_; rintro e w1 ⟨rfl, hb1⟩
  rw [HN.out]
  obtain ⟨hc1, hf1⟩ := bcell hb1
  have hz1_0 : w.heap.size < w1.heap.size := by have hq := hb1.size; (try simp at hq); omega
  have HK1 := Lib.hid hb1
  have HB1 := Lib.hid (bstep (B := w.heap.size) (W := w) (by (try have hp := HB0.out); go_grown) (by go_size) hb1); clear hb1
  go_wp2_with fail
  go_ret
  exact ⟨⟨_, _, rfl⟩, by have := HB1.out; go_grown⟩
set_option maxHeartbeats 1000000 in
theorem sFarTable_any (m : Nat) (A : Option Addr) (cap : Nat) (ws : List Wy) (w : World) (hr : RW w w.heap.size A ws) (hm : ws.length ≤ 1073741824) (hno : netOk (m : Int) ws = true) :
    Calls Try.prog 32 #[.agg #[.int .i64 m, .slice A ws.length cap]] w fun e w' => ∃ T cT lo hi R C, e = .returned (.slice (some ⟨T, 0, none⟩) m cT) ∧ TabM w' lo hi T m R C (farF ws m) ∧ w.heap.size ≤ lo ∧ Below w.heap.size w w' := by
  have HR := Lib.hid hr
  have HN := Lib.hid hno
  have HS := Lib.hid (netOk_t hno)
  clear hr hno
  go_enter Try.func32, Try.ntmps32
  go_wp2_with fail
  refine (sNetOk_any _ _ _ _ _ (HR.out.later (by go_grown)) hm).mono ?_; rintro e w1 ⟨rfl, hb1⟩
  rw [HN.out]
  obtain ⟨hc1, hf1⟩ := bcell hb1
  have hz1_0 : w.heap.size < w1.heap.size := by have hq := hb1.size; (try simp at hq); omega
  have HK1 := Lib.hid hb1
  have HB1 := Lib.hid (bstep (B := w.heap.size) (W := w) (by (try have hp := HB0.out); go_grown) (by go_size) hb1); clear hb1
  go_wp2_with fail
  refine (l1Far_any m A cap ws _ (HR.out.later HB1.out) HS.out).mono ?_; rintro e w2 ⟨T, cT, lo, hi, R, C, rfl, ht2, hl2, hb2⟩
  have HB2 := Lib.hid (bstep (B := w.heap.size) (W := w) HB1.out (by omega) hb2)
  have HT2 := Lib.hid ht2
  have hl3 : w.heap.size ≤ lo := by omega
  clear hb2 ht2
  go_wp2_with fail
  go_ret
  exact ⟨T, cT, lo, hi, R, C, rfl, HT2.out, hl3, HB2.out⟩
end Go.Proofs.Ythadehgpeafniab
