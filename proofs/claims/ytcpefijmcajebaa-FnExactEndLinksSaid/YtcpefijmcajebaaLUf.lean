/- The walk of the exact law of EndLinks: the program's links are the model's, and their memory is their own. -/
import Derived.Test.YtcpefijmcajebaaTg
import Derived.Test.YtcpefijmcajebaaEnI
set_option linter.unusedSimpArgs false
set_option linter.unusedVariables false
namespace Go.Proofs.Ytcpefijmcajebaa
open Go.ChangeShapes Go.WideShapes Go.ChangeAt Go.RowKit

theorem newLinks_zero {o : Option (List (Nat × Nat))} {tb : Bool} {w w' : World} {en : Ending} (ho : (o = none ∧ tb = false) ∨ (o = some [] ∧ tb = true)) (h : NewLinks o w en w') : ∃ A1 c1, en = .returned (.tuple #[.slice A1 0 c1, .bool tb]) ∧ Below w.heap.size w w' := by
  rcases ho with ⟨rfl, rfl⟩ | ⟨rfl, rfl⟩
  · exact h
  · obtain ⟨A1, c1, h1, _, h2⟩ := h
    exact ⟨A1, c1, h1, h2⟩
theorem newLinks_rows {L : List (Nat × Nat)} {w w' : World} {en : Ending} (hL : L ≠ []) (h : NewLinks (some L) w en w') : ∃ T cT lo hi R C, en = .returned (.tuple #[.slice (some ⟨T, 0, none⟩) L.length cT, .bool true]) ∧ TabR w' lo hi T L.length 2 R C (lkF L) ∧ w.heap.size ≤ lo ∧ Below w.heap.size w w' := by
  obtain ⟨A1, c1, h1, h2, h3⟩ := h
  obtain ⟨T, R, C, lo, hi, rfl, h4, h5⟩ := h2.resolve_left hL
  exact ⟨T, c1, lo, hi, R, C, h1, h4, h5, h3⟩
theorem keep4x {w w' : World} {h g : Nat} {x0 x1 y0 y1 : Value} (hb : w'.heap[h]? = w.heap[h]?) (hb' : w'.heap[g]? = w.heap[g]?) (hk : w.cell? ⟨h, 0, none⟩ = some x0 ∧ w.cell? ⟨h, 1, none⟩ = some x1 ∧ w.cell? ⟨g, 0, none⟩ = some y0 ∧ w.cell? ⟨g, 1, none⟩ = some y1) :
    w'.cell? ⟨h, 0, none⟩ = some x0 ∧ w'.cell? ⟨h, 1, none⟩ = some x1 ∧ w'.cell? ⟨g, 0, none⟩ = some y0 ∧ w'.cell? ⟨g, 1, none⟩ = some y1 :=
  ⟨(World.cell?_of_block (w := w) hb).trans hk.1, (World.cell?_of_block (w := w) hb).trans hk.2.1, (World.cell?_of_block (w := w) hb').trans hk.2.2.1, (World.cell?_of_block (w := w) hb').trans hk.2.2.2⟩

set_option maxHeartbeats 4000000 in
theorem links_no (n s : Int) (A : Option Addr) (cap : Nat) (ws : List Wy) (w : World) (hr : RW w w.heap.size A ws) (hlen : ws.length ≤ 9223372036854775807) (hm : ws.length ≤ 1048576) {tb : Bool} (ho : (endLinks n ws s = none ∧ tb = false) ∨ (endLinks n ws s = some [] ∧ tb = true)) :
    Calls Try.prog 3 #[.agg #[.int .i64 n, .slice A ws.length cap], .int .i64 s] w fun e w' => e = .returned (.bool true) ∧ Below w.heap.size w w' := by
  have HR := Lib.hid hr
  clear hr
  have INO : Hid (∀ (A : Option Addr) (cap : Nat) (W : World), RW W W.heap.size A ws → Calls Try.prog 8 #[.agg #[.int .i64 n, .slice A ws.length cap], .int .i64 s] W fun en w' => ∃ A1 c1, en = .returned (.tuple #[.slice A1 0 c1, .bool tb]) ∧ Below W.heap.size W w') := fun A cap W h => (EndLinks_any n s A cap ws W h).mono fun en w' hh => newLinks_zero ho hh
  have SNO : Hid (∀ (A : Option Addr) (cap : Nat) (W : World), RW W W.heap.size A ws → Calls Try.prog 6 #[.agg #[.int .i64 n, .slice A ws.length cap], .int .i64 s] W fun en w' => ∃ A1 c1, en = .returned (.tuple #[.slice A1 0 c1, .bool tb]) ∧ Below W.heap.size W w') := fun A cap W h => (sEndLinks_any n s A cap ws W h (by omega)).mono fun en w' hh => newLinks_zero ho hh
  clear ho
  go_enter Try.func3, Try.ntmps3
  go_wp2_with fail
  refine (szNet_any _ _ _ _ _ hlen).mono ?_; rintro e w1 ⟨rfl, hb1⟩
  rw [if_pos hm]
  obtain ⟨hc1, hf1⟩ := bcell hb1
  have hz1_0 : w.heap.size < w1.heap.size := by have hq := hb1.size; (try simp at hq); omega
  have HK1 := Lib.hid hb1
  have HB1 := Lib.hid (bstep (B := w.heap.size) (W := w) (by (try have hp := HB0.out); go_grown) (by go_size) hb1); clear hb1
  go_wp2_with fail
  refine (toNet_any _ _ _ _ _ (HR.out.later (by have := HB1.out; go_grown)) hm).mono ?_; rintro e w2 ⟨b2, hbl2, hbh2, rfl, hrw2, hb2⟩
  obtain ⟨hc2, hf2⟩ := bcell hb2
  have hz2_0 : w.heap.size < w2.heap.size := by have hq := hb2.size; (try simp at hq); omega
  have HK2 := Lib.hid hb2
  have HB2 := Lib.hid (bstep (B := w.heap.size) (W := w) (by have hp := HB1.out; go_grown) (by go_size) hb2); clear hb2
  go_wp2_with fail
  refine (SNO.out _ _ _ (hrw2.later (by go_grown))).mono ?_; rintro e w3 ⟨A3, c3, rfl, hb3⟩
  obtain ⟨hc3, hf3⟩ := bcell hb3
  have hz3_0 : w.heap.size < w3.heap.size := by have hq := hb3.size; (try simp at hq); omega
  have HK3 := Lib.hid hb3
  have HB3 := Lib.hid (bstep (B := w.heap.size) (W := w) (by have hp := HB2.out; go_grown) (by go_size) hb3); clear hb3
  go_wp2_with fail
  refine (toNet_row _ _ _ _ _ (HR.out.later (by have := HB3.out; go_grown)) hm).mono ?_; rintro e w4 ⟨b4, hbl4, hbh4, rfl, hrw4, hb4⟩
  obtain ⟨hc4, hf4⟩ := bcell hb4
  have hz4_0 : w.heap.size < w4.heap.size := by have hq := hb4.size; (try simp at hq); omega
  have HK4 := Lib.hid hb4
  have HB4 := Lib.hid (bstep (B := w.heap.size) (W := w) (by have hp := HB3.out; go_grown) (by go_size) hb4); clear hb4
  go_wp2_with fail
  refine (INO.out _ _ _ (hrw4.rw.later (by go_grown))).mono ?_; rintro e w5 ⟨A5, c5, rfl, hb5⟩
  obtain ⟨hc5, hf5⟩ := bcell hb5
  have hz5_0 : w.heap.size < w5.heap.size := by have hq := hb5.size; (try simp at hq); omega
  have hz5_1 : w4.heap.size < w5.heap.size := by have hq := hb5.size; (try simp at hq); omega
  have HK5 := Lib.hid hb5
  have HB5 := Lib.hid (bstep (B := w.heap.size) (W := w) (by have hp := HB4.out; go_grown) (by go_size) hb5); clear hb5
  have d0 : w5.cell? ⟨w.heap.size, 0, none⟩ = some (.int .i64 n) := by go_simp
  have d1 : w5.cell? ⟨w.heap.size, 1, none⟩ = some (.slice A ws.length cap) := by go_simp
  have d2 : w5.cell? ⟨w4.heap.size, 0, none⟩ = some (.int .i64 n) := by go_simp
  have d3 : w5.cell? ⟨w4.heap.size, 1, none⟩ = some (.slice (some ⟨b4, 0, none⟩) ws.length ws.length) := by go_simp
  have hz45 : w4.heap.size + 1 ≤ w5.heap.size := by have h9 := HK5.out.size; simpa using h9
  have HX5 := Lib.hid ((hrw4.below ((Below.refl _ _).alloc (Nat.le_refl _) _)).below HK5.out)
  have q5 := (⟨d0, d1, d2, d3⟩ : _ ∧ _ ∧ _ ∧ _)
  have l3 : w3.heap.size ≤ b4 := hbl4
  have l4 : b4 < w4.heap.size := hbh4
  have l23 : w2.heap.size ≤ w3.heap.size := HK3.out.size
  have l34 : w3.heap.size ≤ w4.heap.size := HK4.out.size
  have l02 : w.heap.size < w2.heap.size := hz2_0
  clear d0 d1 d2 d3 hrw4 hc1 hc2 hc3 hc4 hc5 hf1 hf2 hf3 hf4 hf5
  go_wp2_with fail
  refine (eqIntSS_0 A5 A3 c5 c3 _).mono ?_; rintro e w6 ⟨rfl, hb6⟩
  have q6 := keep4x (hb6.block w.heap.size (by omega)) (hb6.block w4.heap.size (by omega)) q5
  have z6 : w4.heap.size + 1 ≤ w6.heap.size := Nat.le_trans hz45 hb6.size
  have HB6 := Lib.hid (bstep (B := w.heap.size) (W := w) HB5.out (by omega) hb6)
  have HX6 := Lib.hid (HX5.out.below hb6)
  have HRW6 := Lib.hid (HR.out.later HB6.out)
  clear hb6 q5 HX5
  go_wp2_with fail
  go_region_held3 (fun w' => w'.cell? ⟨w.heap.size, 0, none⟩ = some (.int .i64 n) ∧ w'.cell? ⟨w.heap.size, 1, none⟩ = some (.slice A ws.length cap) ∧ w'.cell? ⟨w4.heap.size, 0, none⟩ = some (.int .i64 n) ∧ w'.cell? ⟨w4.heap.size, 1, none⟩ = some (.slice (some ⟨b4, 0, none⟩) ws.length ws.length))
    (first | exact q8 | exact q7 | exact q6)
    (first
      | (go_at_call 7; refine (toNet_any _ _ _ _ _ (HRW6.out.drewNR _) hm).mono ?_; rintro e w7 ⟨b7, hbl7, hbh7, rfl, hrw7, hb7⟩; have g7 : Below w6.heap.size w6 w7 := und hb7; have q7 := keep4x (g7.block w.heap.size (by omega)) (g7.block w4.heap.size (by omega)) q6)
      | (go_at_call 10; refine (eqNet_any _ _ _ _ _ _ _ ((HX6.out.below g7).rw) hrw7 hm).mono ?_; rintro e w8 ⟨rfl, hb8⟩; have q8 := keep4x (hb8.block w.heap.size (by have := g7.size; omega)) (hb8.block w4.heap.size (by have := g7.size; omega)) q7))
  have z8 : w4.heap.size + 1 ≤ w8.heap.size := Nat.le_trans z6 (Nat.le_trans g7.size hb8.size)
  have HB8 := Lib.hid (bstep (B := w.heap.size) (W := w) (bstep HB6.out (by omega) g7) (by have := g7.size; omega) hb8)
  have HX8 := Lib.hid ((HX6.out.below g7).below hb8)
  clear g7 hb7 hb8 q6 q7 HX6 HRW6 hrw7
  go_wp2_with fail
  refine (markNet_any n b4 ws.length ws 1 _ HX8.out.zero hm (by omega) (by omega)).mono ?_; rintro e w9 ⟨rfl, ho9⟩
  have q9 := keep4x (ho9.block w.heap.size (by omega) (by omega)) (ho9.block w4.heap.size (by omega) (by omega)) q8
  have z9 : w4.heap.size + 1 ≤ w9.heap.size := Nat.le_trans z8 ho9.size
  have HB9 := Lib.hid (Below.only_ HB8.out (by omega) (by omega) ho9)
  clear ho9 q8 HX8
  go_wp2_with fail
  refine (eqIntSS_0 A5 A3 c5 c3 _).mono ?_; rintro e w10 ⟨rfl, hb10⟩
  have q10 := keep4x (hb10.block w.heap.size (by omega)) (hb10.block w4.heap.size (by omega)) q9
  have z10 : w4.heap.size + 1 ≤ w10.heap.size := Nat.le_trans z9 hb10.size
  have HB10 := Lib.hid (bstep (B := w.heap.size) (W := w) HB9.out (by omega) hb10)
  clear hb10 q9
  go_wp2_with fail
  refine (markIntSS_0 A5 c5 1 _).mono ?_; rintro e w11 ⟨rfl, hb11⟩
  have q11 := keep4x (hb11.block w.heap.size (by omega)) (hb11.block w4.heap.size (by omega)) q10
  have z11 : w4.heap.size + 1 ≤ w11.heap.size := Nat.le_trans z10 hb11.size
  have HB11 := Lib.hid (bstep (B := w.heap.size) (W := w) HB10.out (by omega) hb11)
  clear hb11 q10
  go_wp2_with fail
  refine (heldIntSS_0 A5 c5 1 _).mono ?_; rintro e w12 ⟨rfl, hb12⟩
  have q12 := keep4x (hb12.block w.heap.size (by omega)) (hb12.block w4.heap.size (by omega)) q11
  have z12 : w4.heap.size + 1 ≤ w12.heap.size := Nat.le_trans z11 hb12.size
  have HB12 := Lib.hid (bstep (B := w.heap.size) (W := w) HB11.out (by omega) hb12)
  have HRW12 := Lib.hid (HR.out.later HB12.out)
  clear hb12 q11
  go_wp2_with fail
  refine (toNet_any _ _ _ _ _ HRW12.out hm).mono ?_; rintro e w13 ⟨b13, hbl13, hbh13, rfl, hrw13, hb13⟩
  have HB13 := Lib.hid (bstep (B := w.heap.size) (W := w) HB12.out (by omega) hb13)
  have z13 := Nat.le_trans z12 hb13.size
  clear hb13 q12
  go_wp2_with fail
  refine (INO.out _ _ _ hrw13).mono ?_; rintro e w14 ⟨A14, c14, rfl, hb14⟩
  have HB14 := Lib.hid (bstep (B := w.heap.size) (W := w) HB13.out (by omega) hb14)
  have z14 := Nat.le_trans z13 hb14.size
  clear hb14
  go_wp2_with fail
  refine (eqIntSS_0 A14 A3 c14 c3 _).mono ?_; rintro e w15 ⟨rfl, hb15⟩
  have HB15 := Lib.hid (bstep (B := w.heap.size) (W := w) HB14.out (by omega) hb15)
  have z15 := Nat.le_trans z14 hb15.size
  clear hb15
  go_wp2_with fail
  refine (heldIntSS_0 A5 c5 1 _).mono ?_; rintro e w16 ⟨rfl, hb16⟩
  have HB16 := Lib.hid (bstep (B := w.heap.size) (W := w) HB15.out (by omega) hb16)
  clear hb16
  go_wp2_with fail
  go_ret
  exact ⟨rfl, HB16.out⟩

set_option maxHeartbeats 4000000 in
theorem links_ok (n s : Int) (A : Option Addr) (cap : Nat) (ws : List Wy) (w : World) (hr : RW w w.heap.size A ws) (hlen : ws.length ≤ 9223372036854775807) (hm : ws.length ≤ 1048576) {L : List (Nat × Nat)} (hlk : endLinks n ws s = some L) (hL : L ≠ []) (hN64 : L.length ≤ 64) :
    Calls Try.prog 3 #[.agg #[.int .i64 n, .slice A ws.length cap], .int .i64 s] w fun e w' => e = .returned (.bool true) ∧ Below w.heap.size w w' := by
  have HR := Lib.hid hr
  clear hr
  have IOK : Hid (∀ (A : Option Addr) (cap : Nat) (W : World), RW W W.heap.size A ws → Calls Try.prog 8 #[.agg #[.int .i64 n, .slice A ws.length cap], .int .i64 s] W fun en w' => ∃ T cT lo hi R C, en = .returned (.tuple #[.slice (some ⟨T, 0, none⟩) L.length cT, .bool true]) ∧ TabR w' lo hi T L.length 2 R C (lkF L) ∧ W.heap.size ≤ lo ∧ Below W.heap.size W w') := fun A cap W h => (EndLinks_any n s A cap ws W h).mono fun en w' hh => newLinks_rows hL (by rw [← hlk]; exact hh)
  have SOK : Hid (∀ (A : Option Addr) (cap : Nat) (W : World), RW W W.heap.size A ws → Calls Try.prog 6 #[.agg #[.int .i64 n, .slice A ws.length cap], .int .i64 s] W fun en w' => ∃ T cT lo hi R C, en = .returned (.tuple #[.slice (some ⟨T, 0, none⟩) L.length cT, .bool true]) ∧ TabR w' lo hi T L.length 2 R C (lkF L) ∧ W.heap.size ≤ lo ∧ Below W.heap.size W w') := fun A cap W h => (sEndLinks_any n s A cap ws W h (by omega)).mono fun en w' hh => newLinks_rows hL (by rw [← hlk]; exact hh)
  have h26 : (2 : Nat) ≤ 6 := by omega
  have hNl : 0 < L.length := List.length_pos_iff.2 hL
  obtain ⟨N, hN⟩ : ∃ N, L.length = N := ⟨_, rfl⟩
  obtain ⟨f, hf⟩ : ∃ f, lkF L = f := ⟨_, rfl⟩
  rw [hN, hf] at IOK SOK
  rw [hN] at hN64 hNl
  clear hlk hL hN hf
  go_enter Try.func3, Try.ntmps3
  go_wp2_with fail
  refine (szNet_any _ _ _ _ _ hlen).mono ?_; rintro e w1 ⟨rfl, hb1⟩
  rw [if_pos hm]
  obtain ⟨hc1, hf1⟩ := bcell hb1
  have hz1_0 : w.heap.size < w1.heap.size := by have hq := hb1.size; (try simp at hq); omega
  have HK1 := Lib.hid hb1
  have HB1 := Lib.hid (bstep (B := w.heap.size) (W := w) (by (try have hp := HB0.out); go_grown) (by go_size) hb1); clear hb1
  go_wp2_with fail
  refine (toNet_any _ _ _ _ _ (HR.out.later (by have := HB1.out; go_grown)) hm).mono ?_; rintro e w2 ⟨b2, hbl2, hbh2, rfl, hrw2, hb2⟩
  obtain ⟨hc2, hf2⟩ := bcell hb2
  have hz2_0 : w.heap.size < w2.heap.size := by have hq := hb2.size; (try simp at hq); omega
  have HK2 := Lib.hid hb2
  have HB2 := Lib.hid (bstep (B := w.heap.size) (W := w) (by have hp := HB1.out; go_grown) (by go_size) hb2); clear hb2
  go_wp2_with fail
  refine (SOK.out _ _ _ (hrw2.later (by go_grown))).mono ?_; rintro e w3 ⟨T3, cT3, lo3, hi3, R3, C3, rfl, ht3, hl3, hb3⟩
  obtain ⟨hc3, hf3⟩ := bcell hb3
  have hz3_0 : w.heap.size < w3.heap.size := by have hq := hb3.size; (try simp at hq); omega
  have HK3 := Lib.hid hb3
  have HB3 := Lib.hid (bstep (B := w.heap.size) (W := w) (by have hp := HB2.out; go_grown) (by go_size) hb3); clear hb3
  go_wp2_with fail
  refine (toNet_row _ _ _ _ _ (HR.out.later (by have := HB3.out; go_grown)) hm).mono ?_; rintro e w4 ⟨b4, hbl4, hbh4, rfl, hrw4, hb4⟩
  obtain ⟨hc4, hf4⟩ := bcell hb4
  have hz4_0 : w.heap.size < w4.heap.size := by have hq := hb4.size; (try simp at hq); omega
  have HK4 := Lib.hid hb4
  have HB4 := Lib.hid (bstep (B := w.heap.size) (W := w) (by have hp := HB3.out; go_grown) (by go_size) hb4); clear hb4
  go_wp2_with fail
  refine (IOK.out _ _ _ (hrw4.rw.later (by go_grown))).mono ?_; rintro e w5 ⟨T5, cT5, lo5, hi5, R5, C5, rfl, ht5, hl5, hb5⟩
  obtain ⟨hc5, hf5⟩ := bcell hb5
  have hz5_0 : w.heap.size < w5.heap.size := by have hq := hb5.size; (try simp at hq); omega
  have hz5_1 : w4.heap.size < w5.heap.size := by have hq := hb5.size; (try simp at hq); omega
  have HK5 := Lib.hid hb5
  have HB5 := Lib.hid (bstep (B := w.heap.size) (W := w) (by have hp := HB4.out; go_grown) (by go_size) hb5); clear hb5
  have d0 : w5.cell? ⟨w.heap.size, 0, none⟩ = some (.int .i64 n) := by go_simp
  have d1 : w5.cell? ⟨w.heap.size, 1, none⟩ = some (.slice A ws.length cap) := by go_simp
  have d2 : w5.cell? ⟨w4.heap.size, 0, none⟩ = some (.int .i64 n) := by go_simp
  have d3 : w5.cell? ⟨w4.heap.size, 1, none⟩ = some (.slice (some ⟨b4, 0, none⟩) ws.length ws.length) := by go_simp
  have hz45 : w4.heap.size + 1 ≤ w5.heap.size := by have h9 := HK5.out.size; simpa using h9
  have HX5 := Lib.hid ((hrw4.below ((Below.refl _ _).alloc (Nat.le_refl _) _)).below HK5.out)
  simp only [World.size_alloc] at hl5
  have hi3s := ht3.his
  have hi5s := ht5.his
  have HT3 := Lib.hid (((ht3.below HK4.out).below ((Below.refl _ _).alloc (Nat.le_refl _) _)).below HK5.out)
  have HT5 := Lib.hid ht5
  have q5 := (⟨d0, d1, d2, d3⟩ : _ ∧ _ ∧ _ ∧ _)
  have l3 : w3.heap.size ≤ b4 := hbl4
  have l4 : b4 < w4.heap.size := hbh4
  have l23 : w2.heap.size ≤ w3.heap.size := HK3.out.size
  have l34 : w3.heap.size ≤ w4.heap.size := HK4.out.size
  have l02 : w.heap.size < w2.heap.size := hz2_0
  clear d0 d1 d2 d3 ht3 ht5 hrw4 hc1 hc2 hc3 hc4 hc5 hf1 hf2 hf3 hf4 hf5
  go_wp2_with fail
  refine (eqIntSSR_any HT5.out HT3.out h26 hN64).mono ?_; rintro e w6 ⟨rfl, hb6⟩
  have q6 := keep4x (hb6.block w.heap.size (by omega)) (hb6.block w4.heap.size (by omega)) q5
  have z6 : w4.heap.size + 1 ≤ w6.heap.size := Nat.le_trans hz45 hb6.size
  have HB6 := Lib.hid (bstep (B := w.heap.size) (W := w) HB5.out (by omega) hb6)
  have HX6 := Lib.hid (HX5.out.below hb6)
  have S3 := Lib.hid (HT3.out.below hb6)
  have S5 := Lib.hid (HT5.out.below hb6)
  have HRW6 := Lib.hid (HR.out.later HB6.out)
  clear hb6 q5 HX5 HT3 HT5
  go_wp2_with fail
  go_region_held3 (fun w' => w'.cell? ⟨w.heap.size, 0, none⟩ = some (.int .i64 n) ∧ w'.cell? ⟨w.heap.size, 1, none⟩ = some (.slice A ws.length cap) ∧ w'.cell? ⟨w4.heap.size, 0, none⟩ = some (.int .i64 n) ∧ w'.cell? ⟨w4.heap.size, 1, none⟩ = some (.slice (some ⟨b4, 0, none⟩) ws.length ws.length))
    (first | exact q8 | exact q7 | exact q6)
    (first
      | (go_at_call 7; refine (toNet_any _ _ _ _ _ (HRW6.out.drewNR _) hm).mono ?_; rintro e w7 ⟨b7, hbl7, hbh7, rfl, hrw7, hb7⟩; have g7 : Below w6.heap.size w6 w7 := und hb7; have q7 := keep4x (g7.block w.heap.size (by omega)) (g7.block w4.heap.size (by omega)) q6)
      | (go_at_call 10; refine (eqNet_any _ _ _ _ _ _ _ ((HX6.out.below g7).rw) hrw7 hm).mono ?_; rintro e w8 ⟨rfl, hb8⟩; have q8 := keep4x (hb8.block w.heap.size (by have := g7.size; omega)) (hb8.block w4.heap.size (by have := g7.size; omega)) q7))
  have z8 : w4.heap.size + 1 ≤ w8.heap.size := Nat.le_trans z6 (Nat.le_trans g7.size hb8.size)
  have HB8 := Lib.hid (bstep (B := w.heap.size) (W := w) (bstep HB6.out (by omega) g7) (by have := g7.size; omega) hb8)
  have HX8 := Lib.hid ((HX6.out.below g7).below hb8)
  have U3 := Lib.hid ((S3.out.below g7).below hb8)
  have U5 := Lib.hid ((S5.out.below g7).below hb8)
  clear g7 hb7 hb8 q6 q7 HX6 S3 S5 HRW6 hrw7
  go_wp2_with fail
  refine (markNet_any n b4 ws.length ws 1 _ HX8.out.zero hm (by omega) (by omega)).mono ?_; rintro e w9 ⟨rfl, ho9⟩
  have q9 := keep4x (ho9.block w.heap.size (by omega) (by omega)) (ho9.block w4.heap.size (by omega) (by omega)) q8
  have z9 : w4.heap.size + 1 ≤ w9.heap.size := Nat.le_trans z8 ho9.size
  have HB9 := Lib.hid (Below.only_ HB8.out (by omega) (by omega) ho9)
  have V3 := Lib.hid (U3.out.only ho9 (.inl (by omega)))
  have V5 := Lib.hid (U5.out.only ho9 (.inr (by omega)))
  clear ho9 q8 U3 U5 HX8
  go_wp2_with fail
  refine (eqIntSSR_any V5.out V3.out h26 hN64).mono ?_; rintro e w10 ⟨rfl, hb10⟩
  have q10 := keep4x (hb10.block w.heap.size (by omega)) (hb10.block w4.heap.size (by omega)) q9
  have z10 : w4.heap.size + 1 ≤ w10.heap.size := Nat.le_trans z9 hb10.size
  have HB10 := Lib.hid (bstep (B := w.heap.size) (W := w) HB9.out (by omega) hb10)
  have W3 := Lib.hid (V3.out.below hb10)
  have W5 := Lib.hid (V5.out.below hb10)
  clear hb10 q9 V3 V5
  go_wp2_with fail
  refine (markIntSSR_any W5.out h26 hN64).mono ?_; rintro e w11 ⟨rfl, hr11, ho11⟩
  have q11 := keep4x (ho11.block w.heap.size (by omega) (by omega)) (ho11.block w4.heap.size (by omega) (by omega)) q10
  have z11 : w4.heap.size + 1 ≤ w11.heap.size := Nat.le_trans z10 ho11.size
  have HB11 := Lib.hid (Below.only_ HB10.out (by omega) (by omega) ho11)
  have X3 := Lib.hid (W3.out.only ho11 (.inl (by omega)))
  have X5 := Lib.hid hr11
  clear ho11 hr11 q10 W3 W5
  obtain ⟨M, hM⟩ : ∃ M : Int, 1 + ((N * 2 : Nat) : Int) = M := ⟨_, rfl⟩
  have hM0 : ¬ M < 0 := by rw [← hM]; exact Int.not_lt.2 (by exact Int.add_nonneg (by omega) (Int.natCast_nonneg _))
  have hcon : ∀ W : World, TabR W lo5 hi5 T5 N 2 R5 C5 (fun i j => 1 + ((i * 2 + j : Nat) : Int)) → Calls Try.prog 13 #[.slice (some ⟨T5, 0, none⟩) N cT5, .int .i64 1] W fun e w' => e = .returned (.int .i64 M) ∧ Below W.heap.size W w' := fun W h => by rw [← hM]; exact heldIntSSR_any h h26 hN64
  have HCON := Lib.hid hcon
  rw [hM]
  clear hM hcon
  go_wp2_with fail
  refine (HCON.out _ X5.out).mono ?_; rintro e w12 ⟨rfl, hb12⟩
  have q12 := keep4x (hb12.block w.heap.size (by omega)) (hb12.block w4.heap.size (by omega)) q11
  have z12 : w4.heap.size + 1 ≤ w12.heap.size := Nat.le_trans z11 hb12.size
  have HB12 := Lib.hid (bstep (B := w.heap.size) (W := w) HB11.out (by omega) hb12)
  have Y3 := Lib.hid (X3.out.below hb12)
  have Y5 := Lib.hid (X5.out.below hb12)
  have HRW12 := Lib.hid (HR.out.later HB12.out)
  clear hb12 q11 X3 X5
  go_wp2_with fail
  refine (toNet_any _ _ _ _ _ HRW12.out hm).mono ?_; rintro e w13 ⟨b13, hbl13, hbh13, rfl, hrw13, hb13⟩
  have HB13 := Lib.hid (bstep (B := w.heap.size) (W := w) HB12.out (by omega) hb13)
  have Z3 := Lib.hid (Y3.out.below hb13)
  have Z5 := Lib.hid (Y5.out.below hb13)
  have z13 := Nat.le_trans z12 hb13.size
  clear hb13 q12 Y3 Y5
  go_wp2_with fail
  refine (IOK.out _ _ _ hrw13).mono ?_; rintro e w14 ⟨T14, cT14, lo14, hi14, R14, C14, rfl, ht14, hl14, hb14⟩
  have HB14 := Lib.hid (bstep (B := w.heap.size) (W := w) HB13.out (by omega) hb14)
  have A3 := Lib.hid (Z3.out.below hb14)
  have A5 := Lib.hid (Z5.out.below hb14)
  have A14 := Lib.hid ht14
  have z14 := Nat.le_trans z13 hb14.size
  clear hb14 ht14 Z3 Z5
  go_wp2_with fail
  refine (eqIntSSR_any A14.out A3.out h26 hN64).mono ?_; rintro e w15 ⟨rfl, hb15⟩
  have HB15 := Lib.hid (bstep (B := w.heap.size) (W := w) HB14.out (by omega) hb15)
  have P5 := Lib.hid (A5.out.below hb15)
  have z15 := Nat.le_trans z14 hb15.size
  clear hb15 A3 A5 A14
  go_wp2_with fail
  refine (HCON.out _ P5.out).mono ?_; rintro e w16 ⟨rfl, hb16⟩
  have HB16 := Lib.hid (bstep (B := w.heap.size) (W := w) HB15.out (by omega) hb16)
  clear hb16
  go_wp2_with fail
  go_ret
  exact ⟨rfl, HB16.out⟩

set_option maxHeartbeats 1000000 in
theorem FnExactEndLinks_walk (n : Int) (A : Option Addr) (cap : Nat) (ws : List Wy) (s : Int) (w : World) (hr : RW w w.heap.size A ws) (hlen : ws.length ≤ 9223372036854775807) :
    Calls Try.prog 3 #[.agg #[.int .i64 n, .slice A ws.length cap], .int .i64 s] w fun e w' => e = .returned (.bool true) ∧ Below w.heap.size w w' := by
  by_cases hm : ws.length ≤ 1048576
  · cases hl : endLinks n ws s with
    | none => exact links_no n s A cap ws w hr hlen hm (.inl ⟨hl, rfl⟩)
    | some L =>
      by_cases hL : L = []
      · subst hL
        exact links_no n s A cap ws w hr hlen hm (.inr ⟨hl, rfl⟩)
      · obtain ⟨h1, h2, h3⟩ := endLinks_told hl
        have hni := netOk_t h1
        obtain ⟨e0, e1⟩ := plOk_t h2
        have hlo := hni.lo
        obtain ⟨m, rfl⟩ : ∃ m : Nat, n = m := ⟨n.toNat, by omega⟩
        rw [Int.toNat_natCast] at e1 h3
        have := (lnks_all hni e0 e1 h3).1
        exact links_ok m s A cap ws w hr hlen hm hl hL (by omega)
  · have HR := Lib.hid hr
    clear hr
    go_enter Try.func3, Try.ntmps3
    go_wp2_with fail
    refine (szNet_any _ _ _ _ _ hlen).mono ?_; rintro e w1 ⟨rfl, hb1⟩
    rw [if_neg hm]
    obtain ⟨hc1, hf1⟩ := bcell hb1
    have hz1_0 : w.heap.size < w1.heap.size := by have hq := hb1.size; (try simp at hq); omega
    have HK1 := Lib.hid hb1
    have HB1 := Lib.hid (bstep (B := w.heap.size) (W := w) (by (try have hp := HB0.out); go_grown) (by go_size) hb1); clear hb1
    go_wp2_with fail
    go_ret
    exact ⟨rfl, HB1.out⟩
end Go.Proofs.Ytcpefijmcajebaa
