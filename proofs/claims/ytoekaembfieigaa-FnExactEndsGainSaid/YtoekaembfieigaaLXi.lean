/- Walks of exact laws: the program's answer is the model's. -/
import Derived.Test.YtoekaembfieigaaPzJ
import Derived.Test.YtoekaembfieigaaPzD
import Derived.Test.YtoekaembfieigaaXA
import Derived.Test.YtoekaembfieigaaMH
set_option linter.unusedSimpArgs false
set_option linter.unusedVariables false
attribute [local go_sem ↓] Go.wp_at_zero Go.wp_at_succ
namespace Go.Proofs.Ytoekaembfieigaa
open Go.ChangeShapes Go.WideShapes Go.ChangeAt Go.RowKit

theorem keep4p {w w' : World} {h g : Nat} {x0 x1 y0 y1 : Value} (hb : w'.heap[h]? = w.heap[h]?) (hb' : w'.heap[g]? = w.heap[g]?) (hk : w.cell? ⟨h, 0, none⟩ = some x0 ∧ w.cell? ⟨h, 1, none⟩ = some x1 ∧ w.cell? ⟨g, 0, none⟩ = some y0 ∧ w.cell? ⟨g, 1, none⟩ = some y1) :
    w'.cell? ⟨h, 0, none⟩ = some x0 ∧ w'.cell? ⟨h, 1, none⟩ = some x1 ∧ w'.cell? ⟨g, 0, none⟩ = some y0 ∧ w'.cell? ⟨g, 1, none⟩ = some y1 :=
  ⟨(World.cell?_of_block (w := w) hb).trans hk.1, (World.cell?_of_block (w := w) hb).trans hk.2.1, (World.cell?_of_block (w := w) hb').trans hk.2.2.1, (World.cell?_of_block (w := w) hb').trans hk.2.2.2⟩
set_option maxHeartbeats 4000000 in
theorem FnExactEndsGain_walk (n : Int) (A : Option Addr) (cap : Nat) (ws : List Wy) (Ar : Option Addr) (cr : Nat) (L : List Int) (e : Int) (w : World) (hr : RW w w.heap.size A ws) (hlen : ws.length ≤ 9223372036854775807) (hi : RI w w.heap.size Ar L) (hli : L.length ≤ 9223372036854775807) :
    Calls Try.prog 12 #[.agg #[.int .i64 n, .slice A ws.length cap], .slice Ar L.length cr, .int .i64 e] w fun e w' => e = .returned (.bool true) ∧ Below w.heap.size w w' := by
  have HR := Lib.hid hr
  have HI := Lib.hid hi
  clear hr hi
  by_cases hl2 : L.length ≤ 1048576
  · by_cases hm : ws.length ≤ 1048576
    · go_enter Try.func12, Try.ntmps12
      go_wp2_with fail
      refine (szNet_any _ _ _ _ _ hlen).mono ?_; rintro e w1 ⟨rfl, hb1⟩
      rw [if_pos hm]
      obtain ⟨hc1, hf1⟩ := bcell hb1
      have hz1_0 : w.heap.size < w1.heap.size := by have hq := hb1.size; (try simp at hq); omega
      have HK1 := Lib.hid hb1
      have HB1 := Lib.hid (bstep (B := w.heap.size) (W := w) (by (try have hp := HB0.out); go_grown) (by go_size) hb1); clear hb1
      go_wp2_with fail
      refine (toNet_any _ _ _ _ _ (HR.out.later (by have := HB1.out; go_grown)) hm).mono ?_; rintro e w2 ⟨b2, hbl2, hbh2, rfl, hrw2, hb2⟩
      obtain ⟨hc2, hf2⟩ := bcell hb2
      have hz2_0 : w.heap.size < w2.heap.size := by have hq := hb2.size; (try simp at hq); omega
      have HK2 := Lib.hid hb2
      have HB2 := Lib.hid (bstep (B := w.heap.size) (W := w) (by have hp := HB1.out; go_grown) (by go_size) hb2); clear hb2
      go_wp2_with fail
      refine (toIntS_any _ _ _ _ (HI.out.later (by have := HB2.out; go_grown)) hl2).mono ?_; rintro e w3 ⟨b3, hbl3, rfl, hrow3, hb3⟩
      obtain ⟨hc3, hf3⟩ := bcell hb3
      have hz3_0 : w.heap.size < w3.heap.size := by have hq := hb3.size; (try simp at hq); omega
      have HK3 := Lib.hid hb3
      have HB3 := Lib.hid (bstep (B := w.heap.size) (W := w) (by have hp := HB2.out; go_grown) (by go_size) hb3); clear hb3
      have hrw3 := hrw2.later HK3.out
      go_wp2_with fail
      refine (sEndsGain_any _ _ _ _ _ _ _ _ _ (hrw3.later (by go_grown)) (by omega) (hrow3.ri.later (by go_grown)) (by omega)).mono ?_; rintro e w4 ⟨rfl, hb4⟩
      obtain ⟨hc4, hf4⟩ := bcell hb4
      have hz4_0 : w.heap.size < w4.heap.size := by have hq := hb4.size; (try simp at hq); omega
      have HK4 := Lib.hid hb4
      have HB4 := Lib.hid (bstep (B := w.heap.size) (W := w) (by have hp := HB3.out; go_grown) (by go_size) hb4); clear hb4
      go_wp2_with fail
      refine (toNet_any _ _ _ _ _ (HR.out.later (by have := HB4.out; go_grown)) hm).mono ?_; rintro e w5 ⟨b5, hbl5, hbh5, rfl, hrw5, hb5⟩
      obtain ⟨hc5, hf5⟩ := bcell hb5
      have hz5_0 : w.heap.size < w5.heap.size := by have hq := hb5.size; (try simp at hq); omega
      have HK5 := Lib.hid hb5
      have HB5 := Lib.hid (bstep (B := w.heap.size) (W := w) (by have hp := HB4.out; go_grown) (by go_size) hb5); clear hb5
      clear hrw2 hrw3 hrow3
      have hz5n : w.heap.size < w5.heap.size := hz5_0
      go_wp2_with fail
      refine (toIntS_any _ _ _ _ (HI.out.later (by have := HB5.out; go_grown)) hl2).mono ?_; rintro e w6 ⟨b6, hbl6, rfl, hrow6, hb6⟩
      obtain ⟨hc6, hf6⟩ := bcell hb6
      have hz6_0 : w.heap.size < w6.heap.size := by have hq := hb6.size; (try simp at hq); omega
      have hz6_1 : w5.heap.size < w6.heap.size := by have hq := hb6.size; (try simp at hq); omega
      have HK6 := Lib.hid hb6
      have HB6 := Lib.hid (bstep (B := w.heap.size) (W := w) (by have hp := HB5.out; go_grown) (by go_size) hb6); clear hb6
      have hrw6 : RW w6 w6.heap.size (some ⟨b5, 0, none⟩) ws := hrw5.later (bstep (B := w5.heap.size) (W := w5) (by go_grown) (by go_size) HK6.out)
      go_wp2_with fail
      refine (EndsGain_any _ _ _ _ _ _ _ _ _ (hrw6.later (by go_grown)) (hrow6.ri.later (by go_grown))).mono ?_; rintro e w7 ⟨rfl, hb7⟩
      obtain ⟨hc7, hf7⟩ := bcell hb7
      have hz7_0 : w.heap.size < w7.heap.size := by have hq := hb7.size; (try simp at hq); omega
      have hz7_1 : w5.heap.size < w7.heap.size := by have hq := hb7.size; (try simp at hq); omega
      have HK7 := Lib.hid hb7
      have HB7 := Lib.hid (bstep (B := w.heap.size) (W := w) (by have hp := HB6.out; go_grown) (by go_size) hb7); clear hb7
      have q7 : _ ∧ _ ∧ _ ∧ _ := (⟨by go_simp, by go_simp, by go_simp, by go_simp⟩ : w7.cell? ⟨w.heap.size, 0, none⟩ = some (.int .i64 n) ∧ w7.cell? ⟨w.heap.size, 1, none⟩ = some (.slice A ws.length cap) ∧ w7.cell? ⟨w5.heap.size, 0, none⟩ = some (.int .i64 n) ∧ w7.cell? ⟨w5.heap.size, 1, none⟩ = some (.slice (some ⟨b5, 0, none⟩) ws.length ws.length))
      have hz57 : w5.heap.size < w7.heap.size := hz7_1
      have HRW7 := Lib.hid (HR.out.later HB7.out)
      have HX7 := Lib.hid (hrw6.later HK7.out)
      have HI7 := Lib.hid (HI.out.later HB7.out)
      have HR6 := Lib.hid (hrow6.below HK7.out)
      clear hc1 hc2 hc3 hc4 hc5 hc6 hc7 hf1 hf2 hf3 hf4 hf5 hf6 hf7 hrw5 hrw6 hrow6
      obtain ⟨Z0, hZ0⟩ : ∃ Z, opV (endsGain n ws L e) = Z := ⟨_, rfl⟩
      rw [hZ0]
      obtain ⟨Z1, hZ1⟩ : ∃ Z, opB (endsGain n ws L e) = Z := ⟨_, rfl⟩
      rw [hZ1]
      go_wp2_with fail
      go_region_held3 (fun w' => w'.cell? ⟨w.heap.size, 0, none⟩ = some (.int .i64 n) ∧ w'.cell? ⟨w.heap.size, 1, none⟩ = some (.slice A ws.length cap) ∧ w'.cell? ⟨w5.heap.size, 0, none⟩ = some (.int .i64 n) ∧ w'.cell? ⟨w5.heap.size, 1, none⟩ = some (.slice (some ⟨b5, 0, none⟩) ws.length ws.length))
        (first | exact q9 | exact q8 | exact q7)
        (first
          | (go_at_call 28; refine (toNet_any _ _ _ _ _ (HRW7.out.drewNR _) hm).mono ?_; rintro e w8 ⟨b8, hbl8, hbh8, rfl, hrw8, hb8⟩; have g8 : Below w7.heap.size w7 w8 := und hb8; have q8 := keep4p (g8.block w.heap.size (by omega)) (g8.block w5.heap.size (by omega)) q7)
          | (go_at_call 30; refine (eqNet_any _ _ _ _ _ _ _ (HX7.out.later g8) hrw8 hm).mono ?_; rintro e w9 ⟨rfl, hb9⟩; have q9 := keep4p (hb9.block w.heap.size (by have := g8.size; omega)) (hb9.block w5.heap.size (by have := g8.size; omega)) q8))
      have HB9 := Lib.hid (bstep (B := w.heap.size) (W := w) (bstep HB7.out (by omega) g8) (by have := g8.size; omega) hb9)
      have hz9 : w.heap.size < w9.heap.size := by have := g8.size; have := hb9.size; omega
      have HI9 := Lib.hid ((HI7.out.later g8).later hb9)
      have HR9 := Lib.hid ((HR6.out.below g8).below hb9)
      clear g8 hb8 hb9 q7 q8 q9 hrw8
      go_wp2_with fail
      refine (toIntS_any _ _ L _ HI9.out hl2).mono ?_; rintro e10 w10 ⟨b10, hbl10, rfl, hrow10, hb10⟩
      have HB10 := Lib.hid (bstep (B := w.heap.size) (W := w) HB9.out (Nat.le_of_lt hz9) hb10)
      have hz10 := Nat.lt_of_lt_of_le hz9 hb10.size
      have HR10 := Lib.hid (HR9.out.below hb10)
      have HS10 := Lib.hid hrow10
      clear hb10 hrow10
      go_wp2_with fail
      refine (eqIntS_any _ _ _ _ L.length _ _ _ _ _ _ HR10.out HS10.out hl2).mono ?_; rintro e11 w11 ⟨rfl, hb11⟩
      have HB11 := Lib.hid (bstep (B := w.heap.size) (W := w) HB10.out (Nat.le_of_lt hz10) hb11)
      clear hb11
      go_wp2_with fail
      go_ret
      exact ⟨rfl, HB11.out⟩
    · go_enter Try.func12, Try.ntmps12
      go_wp2_with fail
      refine (szNet_any _ _ _ _ _ hlen).mono ?_; rintro e w1 ⟨rfl, hb1⟩
      rw [if_neg hm]
      obtain ⟨hc1, hf1⟩ := bcell hb1
      have hz1_0 : w.heap.size < w1.heap.size := by have hq := hb1.size; (try simp at hq); omega
      have HK1 := Lib.hid hb1
      have HB1 := Lib.hid (bstep (B := w.heap.size) (W := w) (by (try have hp := HB0.out); go_grown) (by go_size) hb1); clear hb1
      go_wp2_with fail
      go_ret
      exact ⟨rfl, HB1.out⟩
  · go_enter Try.func12, Try.ntmps12
    go_wp2_with fail
    go_ret
    exact ⟨rfl, by go_grown⟩
end Go.Proofs.Ytoekaembfieigaa
