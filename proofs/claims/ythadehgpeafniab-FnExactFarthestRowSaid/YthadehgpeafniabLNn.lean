/- Walks of exact laws: the program's answer is the model's. -/
import Derived.Test.YthadehgpeafniabNxI
import Derived.Test.YthadehgpeafniabNxE
import Derived.Test.YthadehgpeafniabNxH
import Derived.Test.YthadehgpeafniabXA
import Derived.Test.YthadehgpeafniabMH
set_option linter.unusedSimpArgs false
set_option linter.unusedVariables false
namespace Go.Proofs.Ythadehgpeafniab
open Go.ChangeShapes Go.WideShapes Go.ChangeAt Go.RowKit

theorem keep4n {w w' : World} {h g : Nat} {x0 x1 y0 y1 : Value} (hb : w'.heap[h]? = w.heap[h]?) (hb' : w'.heap[g]? = w.heap[g]?) (hk : w.cell? ⟨h, 0, none⟩ = some x0 ∧ w.cell? ⟨h, 1, none⟩ = some x1 ∧ w.cell? ⟨g, 0, none⟩ = some y0 ∧ w.cell? ⟨g, 1, none⟩ = some y1) :
    w'.cell? ⟨h, 0, none⟩ = some x0 ∧ w'.cell? ⟨h, 1, none⟩ = some x1 ∧ w'.cell? ⟨g, 0, none⟩ = some y0 ∧ w'.cell? ⟨g, 1, none⟩ = some y1 :=
  ⟨(World.cell?_of_block (w := w) hb).trans hk.1, (World.cell?_of_block (w := w) hb).trans hk.2.1, (World.cell?_of_block (w := w) hb').trans hk.2.2.1, (World.cell?_of_block (w := w) hb').trans hk.2.2.2⟩
set_option maxHeartbeats 4000000 in
theorem FnExactFarthestRow_walk (n : Int) (A : Option Addr) (cap : Nat) (ws : List Wy) (w : World) (hr : RW w w.heap.size A ws) (hlen : ws.length ≤ 9223372036854775807) :
    Calls Try.prog 5 #[.agg #[.int .i64 n, .slice A ws.length cap]] w fun e w' => e = .returned (.bool true) ∧ Below w.heap.size w w' := by
  have HR := Lib.hid hr
  clear hr
  by_cases hm : ws.length ≤ 1048576
  · have h6 : (farthestRow n ws).length ≤ 6 := farthestRow_len n ws
    obtain ⟨L, hL⟩ : ∃ L, farthestRow n ws = L := ⟨_, rfl⟩
    have HLL := Lib.hid hL
    rw [hL] at h6
    obtain ⟨m, hpm⟩ : ∃ m, L.length = m := ⟨_, rfl⟩
    rw [hpm] at h6
    have HPM := Lib.hid hpm
    clear hpm hL
    go_enter Try.func5, Try.ntmps5
    go_wp2_with fail
    refine (szNet_any _ _ _ _ _ hlen).mono ?_; rintro e w1 ⟨rfl, hb1⟩
    rw [if_pos hm]
    obtain ⟨hc1, hf1⟩ := bcell hb1
    have hz1_0 : w.heap.size < w1.heap.size := by have hq := hb1.size; (try simp at hq); omega
    have HK1 := Lib.hid hb1
    have HB1 := Lib.hid (bstep (B := w.heap.size) (W := w) (by (try have hp := HB0.out); go_grown) (by go_size) hb1); clear hb1
    go_wp2_with fail
    refine (toNet_any _ _ _ _ _ (HR.out.later (by have := HB1.out; go_grown)) hm).mono ?_; rintro e w2 ⟨b2, hbl2, hbh2, rfl, hrw2, hb2⟩
    obtain ⟨hc2, hf2⟩ := bcell hb2
    have hz2_0 : w.heap.size < w2.heap.size := by have hq := hb2.size; (try simp at hq); omega
    have HK2 := Lib.hid hb2
    have HB2 := Lib.hid (bstep (B := w.heap.size) (W := w) (by have hp := HB1.out; go_grown) (by go_size) hb2); clear hb2
    go_wp2_with fail
    refine (sFarthestRow_any n _ _ _ _ (hrw2.later (by go_grown)) (by omega)).mono ?_; rintro e w3 ⟨A3, c3, rfl, hrow3, hb3⟩
    rw [HLL.out, HPM.out] at hrow3 ⊢
    obtain ⟨hc3, hf3⟩ := bcell hb3
    have hz3_0 : w.heap.size < w3.heap.size := by have hq := hb3.size; (try simp at hq); omega
    have HK3 := Lib.hid hb3
    have HB3 := Lib.hid (bstep (B := w.heap.size) (W := w) (by have hp := HB2.out; go_grown) (by go_size) hb3); clear hb3
    go_wp2_with fail
    refine (toNet_row _ _ _ _ _ (HR.out.later (by have := HB3.out; go_grown)) hm).mono ?_; rintro e w4 ⟨b4, hbl4, hbh4, rfl, hrw4, hb4⟩
    obtain ⟨hc4, hf4⟩ := bcell hb4
    have hz4_0 : w.heap.size < w4.heap.size := by have hq := hb4.size; (try simp at hq); omega
    have HK4 := Lib.hid hb4
    have HB4 := Lib.hid (bstep (B := w.heap.size) (W := w) (by have hp := HB3.out; go_grown) (by go_size) hb4); clear hb4
    go_wp2_with fail
    refine (FarthestRow_any n _ _ _ _ (hrw4.rw.later (by go_grown))).mono ?_; rintro e w5 ⟨A5, c5, rfl, hrow5, hb5⟩
    rw [HLL.out, HPM.out] at hrow5 ⊢
    obtain ⟨hc5, hf5⟩ := bcell hb5
    have hz5_0 : w.heap.size < w5.heap.size := by have hq := hb5.size; (try simp at hq); omega
    have hz5_1 : w4.heap.size < w5.heap.size := by have hq := hb5.size; (try simp at hq); omega
    have HK5 := Lib.hid hb5
    have HB5 := Lib.hid (bstep (B := w.heap.size) (W := w) (by have hp := HB4.out; go_grown) (by go_size) hb5); clear hb5
    have d0 : w5.cell? ⟨w.heap.size, 0, none⟩ = some (.int .i64 n) := by go_simp
    have d1 : w5.cell? ⟨w.heap.size, 1, none⟩ = some (.slice A ws.length cap) := by go_simp
    have d2 : w5.cell? ⟨w4.heap.size, 0, none⟩ = some (.int .i64 n) := by go_simp
    have d3 : w5.cell? ⟨w4.heap.size, 1, none⟩ = some (.slice (some ⟨b4, 0, none⟩) ws.length ws.length) := by go_simp
    simp only [World.size_alloc] at hrow5
    have hz45 : w4.heap.size + 1 ≤ w5.heap.size := by have h9 := HK5.out.size; simpa using h9
    have HX5 := Lib.hid ((hrw4.below ((Below.refl _ _).alloc (Nat.le_refl _) _)).below HK5.out)
    have HR3 := Lib.hid (((hrow3.below HK4.out).below ((Below.refl _ _).alloc (Nat.le_refl _) _)).below HK5.out)
    have HR5 := Lib.hid hrow5
    have q5 := (⟨d0, d1, d2, d3⟩ : _ ∧ _ ∧ _ ∧ _)
    have l3 : w3.heap.size ≤ b4 := hbl4
    have l4 : b4 < w4.heap.size := hbh4
    have l23 : w2.heap.size ≤ w3.heap.size := HK3.out.size
    have l34 : w3.heap.size ≤ w4.heap.size := HK4.out.size
    have l02 : w.heap.size < w2.heap.size := hz2_0
    clear d0 d1 d2 d3 hrow3 hrow5 hrw4 hc1 hc2 hc3 hc4 hc5 hf1 hf2 hf3 hf4 hf5
    go_wp2_with fail
    refine (eqIntS_any A5 A3 c5 c3 m _ _ _ _ _ _ HR5.out HR3.out (by omega)).mono ?_; rintro e w6 ⟨rfl, hb6⟩
    have q6 := keep4n (hb6.block w.heap.size (by omega)) (hb6.block w4.heap.size (by omega)) q5
    have z6 : w4.heap.size + 1 ≤ w6.heap.size := Nat.le_trans hz45 hb6.size
    have HB6 := Lib.hid (bstep (B := w.heap.size) (W := w) HB5.out (by omega) hb6)
    have HX6 := Lib.hid (HX5.out.below hb6)
    have S3 := Lib.hid (HR3.out.below hb6)
    have S5 := Lib.hid (HR5.out.below hb6)
    have HRW6 := Lib.hid (HR.out.later HB6.out)
    clear hb6 q5 HX5 HR3 HR5
    go_wp2_with fail
    go_region_held3 (fun w' => w'.cell? ⟨w.heap.size, 0, none⟩ = some (.int .i64 n) ∧ w'.cell? ⟨w.heap.size, 1, none⟩ = some (.slice A ws.length cap) ∧ w'.cell? ⟨w4.heap.size, 0, none⟩ = some (.int .i64 n) ∧ w'.cell? ⟨w4.heap.size, 1, none⟩ = some (.slice (some ⟨b4, 0, none⟩) ws.length ws.length))
      (first | exact q8 | exact q7 | exact q6)
      (first
        | (go_at_call 8; refine (toNet_any _ _ _ _ _ (HRW6.out.drewNR _) hm).mono ?_; rintro e w7 ⟨b7, hbl7, hbh7, rfl, hrw7, hb7⟩; have g7 : Below w6.heap.size w6 w7 := und hb7; have q7 := keep4n (g7.block w.heap.size (by omega)) (g7.block w4.heap.size (by omega)) q6)
        | (go_at_call 10; refine (eqNet_any _ _ _ _ _ _ _ ((HX6.out.below g7).rw) hrw7 hm).mono ?_; rintro e w8 ⟨rfl, hb8⟩; have q8 := keep4n (hb8.block w.heap.size (by have := g7.size; omega)) (hb8.block w4.heap.size (by have := g7.size; omega)) q7))
    have z8 : w4.heap.size + 1 ≤ w8.heap.size := Nat.le_trans z6 (Nat.le_trans g7.size hb8.size)
    have HB8 := Lib.hid (bstep (B := w.heap.size) (W := w) (bstep HB6.out (by omega) g7) (by have := g7.size; omega) hb8)
    have HX8 := Lib.hid ((HX6.out.below g7).below hb8)
    have T3 := Lib.hid ((S3.out.below g7).below hb8)
    have T5 := Lib.hid ((S5.out.below g7).below hb8)
    clear g7 hb7 hb8 q6 q7 HX6 S3 S5 HRW6 hrw7
    go_wp2_with fail
    refine (markNet_any n b4 ws.length ws 1 _ HX8.out.zero hm (by omega) (by omega)).mono ?_; rintro e w9 ⟨rfl, ho9⟩
    have q9 := keep4n (ho9.block w.heap.size (by omega) (by omega)) (ho9.block w4.heap.size (by omega) (by omega)) q8
    have z9 : w4.heap.size + 1 ≤ w9.heap.size := Nat.le_trans z8 ho9.size
    have HB9 := Lib.hid (Below.only_ HB8.out (by omega) (by omega) ho9)
    have U3 := Lib.hid (T3.out.only ho9 (.inl (by omega)))
    have U5 := Lib.hid (T5.out.only ho9 (.inr (by omega)))
    clear ho9 q8 T3 T5 HX8
    go_wp2_with fail
    refine (eqIntS_any A5 A3 c5 c3 m _ _ _ _ _ _ U5.out U3.out (by omega)).mono ?_; rintro e w10 ⟨rfl, hb10⟩
    have q10 := keep4n (hb10.block w.heap.size (by omega)) (hb10.block w4.heap.size (by omega)) q9
    have z10 : w4.heap.size + 1 ≤ w10.heap.size := Nat.le_trans z9 hb10.size
    have HB10 := Lib.hid (bstep (B := w.heap.size) (W := w) HB9.out (by omega) hb10)
    have V3 := Lib.hid (U3.out.below hb10)
    have V5 := Lib.hid (U5.out.below hb10)
    clear hb10 q9 U3 U5
    go_wp2_with fail
    refine (markIntS_any A5 c5 m _ 1 _ _ _ V5.out (by omega) (by omega) (by omega)).mono ?_; rintro e w11 ⟨rfl, hr11, ho11⟩
    have q11 := keep4n (ho11.block w.heap.size (by omega) (by omega)) (ho11.block w4.heap.size (by omega) (by omega)) q10
    have z11 : w4.heap.size + 1 ≤ w11.heap.size := Nat.le_trans z10 ho11.size
    have HB11 := Lib.hid (Below.only_ HB10.out (by omega) (by omega) ho11)
    have X3 := Lib.hid (V3.out.only ho11 (.inl (by omega)))
    have X5 := Lib.hid hr11
    clear ho11 hr11 q10 V3 V5
    go_wp2_with fail
    refine (heldIntS_any A5 c5 m 1 _ _ _ X5.out (by omega) (by omega) (by omega)).mono ?_; rintro e w12 ⟨rfl, hb12⟩
    have q12 := keep4n (hb12.block w.heap.size (by omega)) (hb12.block w4.heap.size (by omega)) q11
    have z12 : w4.heap.size + 1 ≤ w12.heap.size := Nat.le_trans z11 hb12.size
    have HB12 := Lib.hid (bstep (B := w.heap.size) (W := w) HB11.out (by omega) hb12)
    have Y3 := Lib.hid (X3.out.below hb12)
    have Y5 := Lib.hid (X5.out.below hb12)
    have HRW12 := Lib.hid (HR.out.later HB12.out)
    clear hb12 q11 X3 X5
    have hm1 : ¬ (1 : Int) + (m : Int) < 0 := by omega
    go_wp2_with fail
    refine (toNet_any _ _ _ _ _ HRW12.out hm).mono ?_; rintro e w13 ⟨b13, hbl13, hbh13, rfl, hrw13, hb13⟩
    have HB13 := Lib.hid (bstep (B := w.heap.size) (W := w) HB12.out (by omega) hb13)
    have Z3 := Lib.hid (Y3.out.below hb13)
    have Z5 := Lib.hid (Y5.out.below hb13)
    have z13 := Nat.le_trans z12 hb13.size
    clear hb13 q12 Y3 Y5
    go_wp2_with fail
    refine (FarthestRow_any n _ _ ws _ hrw13).mono ?_; rintro e w14 ⟨A14, c14, rfl, hrow14, hb14⟩
    rw [HLL.out, HPM.out] at hrow14 ⊢
    have HB14 := Lib.hid (bstep (B := w.heap.size) (W := w) HB13.out (by omega) hb14)
    have W3 := Lib.hid (Z3.out.below hb14)
    have W5 := Lib.hid (Z5.out.below hb14)
    have W14 := Lib.hid hrow14
    have z14 := Nat.le_trans z13 hb14.size
    clear hb14 hrow14 Z3 Z5
    go_wp2_with fail
    refine (eqIntS_any A14 A3 c14 c3 m _ _ _ _ _ _ W14.out W3.out (by omega)).mono ?_; rintro e w15 ⟨rfl, hb15⟩
    have HB15 := Lib.hid (bstep (B := w.heap.size) (W := w) HB14.out (by omega) hb15)
    have P5 := Lib.hid (W5.out.below hb15)
    have z15 := Nat.le_trans z14 hb15.size
    clear hb15 W3 W5 W14
    go_wp2_with fail
    refine (heldIntS_any A5 c5 m 1 _ _ _ P5.out (by omega) (by omega) (by omega)).mono ?_; rintro e w16 ⟨rfl, hb16⟩
    have HB16 := Lib.hid (bstep (B := w.heap.size) (W := w) HB15.out (by omega) hb16)
    clear hb16
    go_wp2_with fail
    go_ret
    exact ⟨rfl, HB16.out⟩
  · go_enter Try.func5, Try.ntmps5
    go_wp2_with fail
    refine (szNet_any _ _ _ _ _ hlen).mono ?_; rintro e w1 ⟨rfl, hb1⟩
    rw [if_neg hm]
    obtain ⟨hc1, hf1⟩ := bcell hb1
    have hz1_0 : w.heap.size < w1.heap.size := by have hq := hb1.size; (try simp at hq); omega
    have HK1 := Lib.hid hb1
    have HB1 := Lib.hid (bstep (B := w.heap.size) (W := w) (by (try have hp := HB0.out); go_grown) (by go_size) hb1); clear hb1
    go_wp2_with fail
    go_ret
    exact ⟨rfl, HB1.out⟩
end Go.Proofs.Ythadehgpeafniab
