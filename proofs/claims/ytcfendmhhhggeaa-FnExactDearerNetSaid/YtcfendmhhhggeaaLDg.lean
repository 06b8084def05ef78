/- The walk of the exact law of DearerNet: the program's answer is the model's, in memory of its own. -/
import Derived.Test.YtcfendmhhhggeaaDwIa
import Derived.Test.YtcfendmhhhggeaaDwE
import Derived.Test.YtcfendmhhhggeaaGnA
import Derived.Test.YtcfendmhhhggeaaXA
set_option linter.unusedSimpArgs false
set_option linter.unusedVariables false
namespace Go.Proofs.Ytcfendmhhhggeaa
open Go.ChangeShapes Go.WideShapes Go.ChangeAt Go.RowKit

theorem dearer_len {n : Int} {ws : List Wy} {k b : Int} : dearerNet n ws k b = none ∨ ∃ N L, dearerNet n ws k b = some (N, L) ∧ L.length = ws.length := by
  unfold dearerNet
  split
  · exact .inr ⟨_, _, rfl, List.length_set⟩
  · exact .inl rfl
/-- four boxes of two cells -/
structure K4 (w : World) (a b c d : Nat) (x0 x1 y0 y1 z0 z1 u0 u1 : Value) : Prop where
  a0 : w.cell? ⟨a, 0, none⟩ = some x0
  a1 : w.cell? ⟨a, 1, none⟩ = some x1
  b0 : w.cell? ⟨b, 0, none⟩ = some y0
  b1 : w.cell? ⟨b, 1, none⟩ = some y1
  c0 : w.cell? ⟨c, 0, none⟩ = some z0
  c1 : w.cell? ⟨c, 1, none⟩ = some z1
  d0 : w.cell? ⟨d, 0, none⟩ = some u0
  d1 : w.cell? ⟨d, 1, none⟩ = some u1
theorem K4.keep {w w' : World} {a b c d : Nat} {x0 x1 y0 y1 z0 z1 u0 u1 : Value} (h : K4 w a b c d x0 x1 y0 y1 z0 z1 u0 u1) (ha : w'.heap[a]? = w.heap[a]?) (hb : w'.heap[b]? = w.heap[b]?) (hc : w'.heap[c]? = w.heap[c]?) (hd : w'.heap[d]? = w.heap[d]?) : K4 w' a b c d x0 x1 y0 y1 z0 z1 u0 u1 :=
  ⟨(World.cell?_of_block (w := w) ha).trans h.a0, (World.cell?_of_block (w := w) ha).trans h.a1, (World.cell?_of_block (w := w) hb).trans h.b0, (World.cell?_of_block (w := w) hb).trans h.b1, (World.cell?_of_block (w := w) hc).trans h.c0, (World.cell?_of_block (w := w) hc).trans h.c1, (World.cell?_of_block (w := w) hd).trans h.d0, (World.cell?_of_block (w := w) hd).trans h.d1⟩
set_option maxRecDepth 100000 in
set_option maxHeartbeats 8000000 in
theorem dearer_exact (n k b : Int) (A : Option Addr) (cap : Nat) (ws : List Wy) (w : World) (hr : RW w w.heap.size A ws) (hlen : ws.length ≤ 9223372036854775807) (hm : ws.length ≤ 1048576) {N : Int} {L : List Wy} {tb : Bool} (ho : (dearerNet n ws k b = none ∧ N = 0 ∧ L = [] ∧ tb = false) ∨ (dearerNet n ws k b = some (N, L) ∧ tb = true)) (hcm : L.length ≤ 1048576) :
    Calls Try.prog 3 #[.agg #[.int .i64 n, .slice A ws.length cap], .int .i64 k, .int .i64 b] w fun e w' => e = .returned (.bool true) ∧ Below w.heap.size w w' := by
  have HR := Lib.hid hr
  clear hr
  have IOK : Hid (∀ (A : Option Addr) (cap : Nat) (W : World), RW W W.heap.size A ws → Calls Try.prog 7 #[.agg #[.int .i64 n, .slice A ws.length cap], .int .i64 k, .int .i64 b] W fun en w' => ∃ A1 c1 lo hi, en = .returned (.tuple #[.agg #[.int .i64 N, .slice A1 L.length c1], .bool tb]) ∧ RowF w' lo hi A1 (L.length * 3) (wyF L) ∧ W.heap.size ≤ lo ∧ Below W.heap.size W w') := fun A cap W h => (DearerNet_any n k b A cap ws W h).mono fun e w' h => newNet_any ho h
  have SOK : Hid (∀ (A : Option Addr) (cap : Nat) (W : World), RW W W.heap.size A ws → Calls Try.prog 5 #[.agg #[.int .i64 n, .slice A ws.length cap], .int .i64 k, .int .i64 b] W fun en w' => ∃ A1 c1 lo hi, en = .returned (.tuple #[.agg #[.int .i64 N, .slice A1 L.length c1], .bool tb]) ∧ RowF w' lo hi A1 (L.length * 3) (wyF L) ∧ W.heap.size ≤ lo ∧ Below W.heap.size W w') := fun A cap W h => (sDearerNet_any n k b A cap ws W h (by omega)).mono fun e w' h => newNet_any ho h
  clear ho
  go_enter Try.func3, Try.ntmps3
  go_wp2_with fail
  refine (szNet_any _ _ _ _ _ hlen).mono ?_; rintro e w1 ⟨rfl, hb1⟩
  rw [if_pos hm]
  obtain ⟨hc1, hf1⟩ := bcell hb1
  have hz1_0 : w.heap.size < w1.heap.size := by have hq := hb1.size; (try simp at hq); omega
  have HK1 := Lib.hid hb1
  have HB1 := Lib.hid (bstep (B := w.heap.size) (W := w) (by (try have hp := HB0.out); go_grown) (by go_size) hb1); clear hb1
  go_wp2_with fail
  refine (toNet_any _ _ _ _ _ (HR.out.later (by have := HB1.out; go_grown)) hm).mono ?_; rintro e w2 ⟨b2, hbl2, hbh2, rfl, hrw2, hb2⟩
  obtain ⟨hc2, hf2⟩ := bcell hb2
  have hz2_0 : w.heap.size < w2.heap.size := by have hq := hb2.size; (try simp at hq); omega
  have HK2 := Lib.hid hb2
  have HB2 := Lib.hid (bstep (B := w.heap.size) (W := w) (by have hp := HB1.out; go_grown) (by go_size) hb2); clear hb2
  go_wp2_with fail
  refine (SOK.out _ _ _ (hrw2.later (by go_grown))).mono ?_; rintro e w3 ⟨T3, cT3, lo3, hi3, rfl, ht3, hl3, hb3⟩
  obtain ⟨hc3, hf3⟩ := bcell hb3
  have hz3_0 : w.heap.size < w3.heap.size := by have hq := hb3.size; (try simp at hq); omega
  have HK3 := Lib.hid hb3
  have HB3 := Lib.hid (bstep (B := w.heap.size) (W := w) (by have hp := HB2.out; go_grown) (by go_size) hb3); clear hb3
  go_wp2_with fail
  refine (toNet_row _ _ _ _ _ (HR.out.later (by have := HB3.out; go_grown)) hm).mono ?_; rintro e w4 ⟨b4, hbl4, hbh4, rfl, hrw4, hb4⟩
  obtain ⟨hc4, hf4⟩ := bcell hb4
  have hz4_0 : w.heap.size < w4.heap.size := by have hq := hb4.size; (try simp at hq); omega
  have hz4_1 : w3.heap.size < w4.heap.size := by have hq := hb4.size; (try simp at hq); omega
  have HK4 := Lib.hid hb4
  have HB4 := Lib.hid (bstep (B := w.heap.size) (W := w) (by have hp := HB3.out; go_grown) (by go_size) hb4); clear hb4
  go_wp2_with fail
  refine (IOK.out _ _ _ (hrw4.rw.later (by go_grown))).mono ?_; rintro e w5 ⟨T5, cT5, lo5, hi5, rfl, ht5, hl5, hb5⟩
  obtain ⟨hc5, hf5⟩ := bcell hb5
  have hz5_0 : w.heap.size < w5.heap.size := by have hq := hb5.size; (try simp at hq); omega
  have hz5_1 : w3.heap.size < w5.heap.size := by have hq := hb5.size; (try simp at hq); omega
  have hz5_2 : w4.heap.size < w5.heap.size := by have hq := hb5.size; (try simp at hq); omega
  have HK5 := Lib.hid hb5
  have HB5 := Lib.hid (bstep (B := w.heap.size) (W := w) (by have hp := HB4.out; go_grown) (by go_size) hb5); clear hb5
  have a0 : w5.cell? ⟨w.heap.size, 0, none⟩ = some (.int .i64 n) := by go_simp
  have a1 : w5.cell? ⟨w.heap.size, 1, none⟩ = some (.slice A ws.length cap) := by go_simp
  have b0 : w5.cell? ⟨w3.heap.size, 0, none⟩ = some (.int .i64 N) := by go_simp
  have b1 : w5.cell? ⟨w3.heap.size, 1, none⟩ = some (.slice T3 L.length cT3) := by go_simp
  have c0 : w5.cell? ⟨w4.heap.size, 0, none⟩ = some (.int .i64 n) := by go_simp
  have c1 : w5.cell? ⟨w4.heap.size, 1, none⟩ = some (.slice (some ⟨b4, 0, none⟩) ws.length ws.length) := by go_simp
  have BG := Lib.hid ((Below.refl w5.heap.size w5).alloc (Nat.le_refl _) (.cells #[.int .i64 N, .slice T5 L.length cT5] 28))
  have hi3s := ht3.top
  have hi5s := ht5.top
  have l34 : w3.heap.size + 1 ≤ b4 := by have h9 := hbl4; simp at h9; omega
  have l4 : b4 < w4.heap.size := hbh4
  have l45 : w4.heap.size + 1 ≤ lo5 := by have h9 := hl5; simp at h9; omega
  have l02 : w.heap.size < w3.heap.size := hz3_0
  have l05 : w4.heap.size + 1 ≤ w5.heap.size := by have h9 := HK5.out.size; simp at h9; omega
  have Q5 : Hid (K4 (w5.alloc (.cells #[.int .i64 N, .slice T5 L.length cT5] 28)) w.heap.size w3.heap.size w4.heap.size w5.heap.size (.int .i64 n) (.slice A ws.length cap) (.int .i64 N) (.slice T3 L.length cT3) (.int .i64 n) (.slice (some ⟨b4, 0, none⟩) ws.length ws.length) (.int .i64 N) (.slice T5 L.length cT5)) :=
    ⟨(BG.out.cell (p := ⟨w.heap.size, 0, none⟩) (by show w.heap.size < w5.heap.size; omega)).trans a0, (BG.out.cell (p := ⟨w.heap.size, 1, none⟩) (by show w.heap.size < w5.heap.size; omega)).trans a1, (BG.out.cell (p := ⟨w3.heap.size, 0, none⟩) (by show w3.heap.size < w5.heap.size; omega)).trans b0, (BG.out.cell (p := ⟨w3.heap.size, 1, none⟩) (by show w3.heap.size < w5.heap.size; omega)).trans b1, (BG.out.cell (p := ⟨w4.heap.size, 0, none⟩) (by show w4.heap.size < w5.heap.size; omega)).trans c0, (BG.out.cell (p := ⟨w4.heap.size, 1, none⟩) (by show w4.heap.size < w5.heap.size; omega)).trans c1, cell_of_row _ _ 0 _ _ (0, 0) (heap_alloc_new w5 _), cell_of_row _ _ 1 _ _ (0, 0) (heap_alloc_new w5 _)⟩
  have X5 := Lib.hid (((hrw4.below ((Below.refl _ _).alloc (Nat.le_refl _) _)).below HK5.out).below BG.out)
  have R3_5 := Lib.hid (((((ht3.below ((Below.refl _ _).alloc (Nat.le_refl _) _)).below HK4.out).below ((Below.refl _ _).alloc (Nat.le_refl _) _)).below HK5.out).below BG.out)
  have R5_5 := Lib.hid (ht5.below BG.out)
  have HBV := Lib.hid (bstep (B := w.heap.size) (W := w) HB5.out HB5.out.size BG.out)
  have z5 : w5.heap.size + 1 ≤ (w5.alloc (.cells #[.int .i64 N, .slice T5 L.length cT5] 28)).heap.size := by simp
  clear ht3 ht5 hrw4 hc1 hc2 hc3 hc4 hc5 hf1 hf2 hf3 hf4 hf5 BG HB5
  have HB5 := HBV
  cases tb <;>
  · skip
    go_wp2_with fail
    refine (eqNet_any N _ _ _ _ L _ R5_5.out.rw3 R3_5.out.rw3 hcm).mono ?_; rintro e6 w6 ⟨rfl, hb6⟩
    clear a0 a1 b0 b1 c0 c1
    obtain ⟨V5, hV5⟩ : ∃ V, w5.alloc (.cells #[.int .i64 N, .slice T5 L.length cT5] 28) = V := ⟨_, rfl⟩
    rw [hV5] at Q5 X5 R3_5 R5_5 HB5 z5 hb6
    clear hV5
    obtain ⟨S5, hS5⟩ : ∃ s, w5.heap.size = s := ⟨_, rfl⟩
    obtain ⟨S4, hS4⟩ : ∃ s, w4.heap.size = s := ⟨_, rfl⟩
    obtain ⟨S3, hS3⟩ : ∃ s, w3.heap.size = s := ⟨_, rfl⟩
    rw [hS3, hS4, hS5] at Q5 ⊢
    rw [hS3] at l34 l02 hi3s
    rw [hS4] at l4 l45 l05
    rw [hS5] at hi5s z5 l05
    clear hS3 hS4 hS5 hz3_0 hz4_0 hz4_1 hz5_0 hz5_1 hz5_2 hz1_0 hz2_0
    have Q6 := Lib.hid (Q5.out.keep (hb6.block _ (by omega)) (hb6.block _ (by omega)) (hb6.block _ (by omega)) (hb6.block _ (by omega)))
    have z6 : S5 + 1 ≤ w6.heap.size := Nat.le_trans z5 hb6.size
    have HB6 := Lib.hid (bstep (B := w.heap.size) (W := w) HB5.out (by omega) hb6)
    have R3_6 := Lib.hid (R3_5.out.below hb6)
    have R5_6 := Lib.hid (R5_5.out.below hb6)
    clear Q5 R3_5 R5_5
    have X6 := Lib.hid (X5.out.below hb6)
    have HRW6 := Lib.hid (HR.out.later HB6.out)
    clear hb6 X5
    obtain ⟨a0, a1, b0, b1, c0, c1, d0, d1⟩ := Q6.out
    go_wp2_with fail
    refine wp_region_held_drew (S := (fun w' => w'.cell? ⟨w.heap.size, 0, none⟩ = some (.int .i64 n) ∧ w'.cell? ⟨w.heap.size, 1, none⟩ = some (.slice A ws.length cap) ∧ w'.cell? ⟨S4, 0, none⟩ = some (.int .i64 n) ∧ w'.cell? ⟨S4, 1, none⟩ = some (.slice (some ⟨b4, 0, none⟩) ws.length ws.length))) (by kernel_rfl) ?_ (fun hHeld => ?_)
    · exact ⟨a0, a1, c0, c1⟩
    refine wpAnyH_take (i := 0) (v := ?_) rfl (by kernel_rfl) (by kernel_rfl) (by kernel_rfl) (fun _ _ _ h => h) (Or.inl ⟨by rfl, ?_⟩) (by assumption) ?_
    rotate_left
    · (intro w hSw; (try dsimp only at hSw); (try simp only [List.getElem_toArray, List.getElem_cons_succ, List.getElem_cons_zero]); first | (go_simp; done) | (go_simp; with_reducible rfl))
    try simp only [Act.put, List.getElem_toArray, List.getElem_cons_succ, List.getElem_cons_zero, List.setIfInBounds_toArray, List.set_cons_zero, List.set_cons_succ]
    refine wpAnyH_take (i := 1) (v := ?_) rfl (by kernel_rfl) (by kernel_rfl) (by kernel_rfl) (fun _ _ _ h => h) (Or.inl ⟨by rfl, ?_⟩) (by assumption) ?_
    rotate_left
    · (intro w hSw; (try dsimp only at hSw); (try simp only [List.getElem_toArray, List.getElem_cons_succ, List.getElem_cons_zero]); first | (go_simp; done) | (go_simp; with_reducible rfl))
    try simp only [Act.put, List.getElem_toArray, List.getElem_cons_succ, List.getElem_cons_zero, List.setIfInBounds_toArray, List.set_cons_zero, List.set_cons_succ]
    refine wpAnyH_ready (rs := [2]) (by kernel_rfl) (by simp) ?_
    refine AllReadyH.cons rfl (fun K hK => ?_) AllReadyH.nil
    try simp only [List.getElem_toArray, List.getElem_cons_succ, List.getElem_cons_zero]
    go_simp
    go_at_call 6; refine (toNet_any _ _ _ _ _ (HRW6.out.drewNR _) hm).mono ?_; rintro e w7 ⟨b7, hbl7, hbh7, rfl, hrw7, hb7⟩; have g7 : Below w6.heap.size w6 w7 := und hb7; have q7 := (⟨(g7.cell (p := ⟨w.heap.size, 0, none⟩) (by show w.heap.size < w6.heap.size; omega)).trans a0, (g7.cell (p := ⟨w.heap.size, 1, none⟩) (by show w.heap.size < w6.heap.size; omega)).trans a1, (g7.cell (p := ⟨S4, 0, none⟩) (by show S4 < w6.heap.size; omega)).trans c0, (g7.cell (p := ⟨S4, 1, none⟩) (by show S4 < w6.heap.size; omega)).trans c1⟩ : _ ∧ _ ∧ _ ∧ _)
    refine hK.out _ _ ?_ (fun hHeld => ?_)
    · exact q7
    clear hK K
    try simp only [Act.put, List.getElem_toArray, List.getElem_cons_succ, List.getElem_cons_zero, List.setIfInBounds_toArray, List.set_cons_zero, List.set_cons_succ]
    refine wpAnyH_ready (rs := [3]) (by kernel_rfl) (by simp) ?_
    refine AllReadyH.cons rfl (fun K hK => ?_) AllReadyH.nil
    try simp only [List.getElem_toArray, List.getElem_cons_succ, List.getElem_cons_zero]
    go_simp
    go_at_call 8; refine (eqNet_any _ _ _ _ _ _ _ ((X6.out.below g7).rw) hrw7 hm).mono ?_; rintro e w8 ⟨rfl, hb8⟩; have g8 : Below w6.heap.size w6 w8 := bstep g7 g7.size hb8; have q8 := (⟨(g8.cell (p := ⟨w.heap.size, 0, none⟩) (by show w.heap.size < w6.heap.size; omega)).trans a0, (g8.cell (p := ⟨w.heap.size, 1, none⟩) (by show w.heap.size < w6.heap.size; omega)).trans a1, (g8.cell (p := ⟨S4, 0, none⟩) (by show S4 < w6.heap.size; omega)).trans c0, (g8.cell (p := ⟨S4, 1, none⟩) (by show S4 < w6.heap.size; omega)).trans c1⟩ : _ ∧ _ ∧ _ ∧ _)
    refine hK.out _ _ ?_ (fun hHeld => ?_)
    · exact q8
    clear hK K
    try simp only [Act.put, List.getElem_toArray, List.getElem_cons_succ, List.getElem_cons_zero, List.setIfInBounds_toArray, List.set_cons_zero, List.set_cons_succ]
    refine wpAnyH_take (i := 4) (v := ?_) rfl (by kernel_rfl) (by kernel_rfl) (by kernel_rfl) (fun _ _ _ h => h) (Or.inl ⟨by rfl, ?_⟩) (by assumption) ?_
    rotate_left
    · (intro w hSw; (try dsimp only at hSw); (try simp only [List.getElem_toArray, List.getElem_cons_succ, List.getElem_cons_zero]); first | (go_simp; done) | (go_simp; with_reducible rfl))
    try simp only [Act.put, List.getElem_toArray, List.getElem_cons_succ, List.getElem_cons_zero, List.setIfInBounds_toArray, List.set_cons_zero, List.set_cons_succ]
    refine wpAnyH_done (by kernel_rfl) ?_ _
    have Q8 := Lib.hid (Q6.out.keep (g8.block _ (by omega)) (g8.block _ (by omega)) (g8.block _ (by omega)) (g8.block _ (by omega)))
    have z8 : S5 + 1 ≤ w8.heap.size := Nat.le_trans z6 g8.size
    have HB8 := Lib.hid (bstep (B := w.heap.size) (W := w) HB6.out (by omega) g8)
    have R3_8 := Lib.hid (R3_6.out.below g8)
    have R5_8 := Lib.hid (R5_6.out.below g8)
    clear Q6 R3_6 R5_6
    have X8 := Lib.hid (X6.out.below g8)
    clear g7 g8 q7 q8 hb7 hb8 hHeld X6 HRW6 hrw7
    clear a0 a1 b0 b1 c0 c1 d0 d1
    obtain ⟨a0, a1, b0, b1, c0, c1, d0, d1⟩ := Q8.out
    go_wp2_with fail
    refine (markNet_any n b4 ws.length ws 1 _ X8.out.zero hm (by omega) (by omega)).mono ?_; rintro e9 w9 ⟨rfl, ho9⟩
    have Q9 := Lib.hid (Q8.out.keep (ho9.block _ (by omega) (by omega)) (ho9.block _ (by omega) (by omega)) (ho9.block _ (by omega) (by omega)) (ho9.block _ (by omega) (by omega)))
    have z9 : S5 + 1 ≤ w9.heap.size := Nat.le_trans z8 ho9.size
    have HB9 := Lib.hid (Below.only_ HB8.out (by omega) (by omega) ho9)
    have R3_9 := Lib.hid (R3_8.out.only ho9 (.inl (by omega)))
    have R5_9 := Lib.hid (R5_8.out.only ho9 (.inr (by omega)))
    clear ho9 Q8 R3_8 R5_8 X8
    clear a0 a1 b0 b1 c0 c1 d0 d1
    obtain ⟨a0, a1, b0, b1, c0, c1, d0, d1⟩ := Q9.out
    go_wp2_with fail
    refine (eqNet_any N _ _ _ _ L _ R5_9.out.rw3 R3_9.out.rw3 hcm).mono ?_; rintro e10 w10 ⟨rfl, hb10⟩
    have Q10 := Lib.hid (Q9.out.keep (hb10.block _ (by omega)) (hb10.block _ (by omega)) (hb10.block _ (by omega)) (hb10.block _ (by omega)))
    have z10 : S5 + 1 ≤ w10.heap.size := Nat.le_trans z9 hb10.size
    have HB10 := Lib.hid (bstep (B := w.heap.size) (W := w) HB9.out (by omega) hb10)
    have R3_10 := Lib.hid (R3_9.out.below hb10)
    have R5_10 := Lib.hid (R5_9.out.below hb10)
    clear Q9 R3_9 R5_9
    clear hb10
    clear a0 a1 b0 b1 c0 c1 d0 d1
    obtain ⟨a0, a1, b0, b1, c0, c1, d0, d1⟩ := Q10.out
    go_wp2_with fail
    refine (markNetR_any N T5 cT5 L.length _ 1 lo5 hi5 _ R5_10.out hcm (by decide) (by decide) (by omega)).mono ?_; rintro e11 w11 ⟨rfl, hr11, ho11⟩
    have Q11 := Lib.hid (Q10.out.keep (ho11.block _ (by omega) (by omega)) (ho11.block _ (by omega) (by omega)) (ho11.block _ (by omega) (by omega)) (ho11.block _ (by omega) (by omega)))
    have z11 : S5 + 1 ≤ w11.heap.size := Nat.le_trans z10 ho11.size
    have HB11 := Lib.hid (Below.only_ HB10.out (by omega) (by omega) ho11)
    have R3_11 := Lib.hid (R3_10.out.only ho11 (.inl (by omega)))
    have R5_11 := Lib.hid hr11
    clear ho11 hr11 Q10 R3_10 R5_10
    clear a0 a1 b0 b1 c0 c1 d0 d1
    obtain ⟨a0, a1, b0, b1, c0, c1, d0, d1⟩ := Q11.out
    obtain ⟨M, hM⟩ : ∃ M : Int, 1 + (L.length : Int) * 3 = M := ⟨_, rfl⟩
    have hM0 : ¬ M < 0 := by omega
    have hcon : ∀ W : World, RowF W lo5 hi5 T5 (L.length * 3) (fun j => 1 + (j : Int)) → Calls Try.prog 10 #[.agg #[.int .i64 N, .slice T5 L.length cT5], .int .i64 1] W fun e w' => e = .returned (.int .i64 M) ∧ Below W.heap.size W w' := fun W h => by rw [← hM]; exact heldNetR_any N T5 cT5 L.length 1 lo5 hi5 W h hcm (by decide) (by decide)
    have HCON := Lib.hid hcon
    rw [hM]
    clear hM hcon
    go_wp2_with fail
    refine (HCON.out _ R5_11.out).mono ?_; rintro e12 w12 ⟨rfl, hb12⟩
    have Q12 := Lib.hid (Q11.out.keep (hb12.block _ (by omega)) (hb12.block _ (by omega)) (hb12.block _ (by omega)) (hb12.block _ (by omega)))
    have z12 : S5 + 1 ≤ w12.heap.size := Nat.le_trans z11 hb12.size
    have HB12 := Lib.hid (bstep (B := w.heap.size) (W := w) HB11.out (by omega) hb12)
    have R3_12 := Lib.hid (R3_11.out.below hb12)
    have R5_12 := Lib.hid (R5_11.out.below hb12)
    clear Q11 R3_11 R5_11
    have HRW12 := Lib.hid (HR.out.later HB12.out)
    clear hb12
    clear a0 a1 b0 b1 c0 c1 d0 d1
    obtain ⟨a0, a1, b0, b1, c0, c1, d0, d1⟩ := Q12.out
    go_wp2_with fail
    refine (toNet_any _ _ _ _ _ HRW12.out hm).mono ?_; rintro e13 w13 ⟨b13, hbl13, hbh13, rfl, hrw13, hb13⟩
    have Q13 := Lib.hid (Q12.out.keep (hb13.block _ (by omega)) (hb13.block _ (by omega)) (hb13.block _ (by omega)) (hb13.block _ (by omega)))
    have z13 : S5 + 1 ≤ w13.heap.size := Nat.le_trans z12 hb13.size
    have HB13 := Lib.hid (bstep (B := w.heap.size) (W := w) HB12.out (by omega) hb13)
    have R3_13 := Lib.hid (R3_12.out.below hb13)
    have R5_13 := Lib.hid (R5_12.out.below hb13)
    clear Q12 R3_12 R5_12
    clear hb13 HRW12
    clear a0 a1 b0 b1 c0 c1 d0 d1
    obtain ⟨a0, a1, b0, b1, c0, c1, d0, d1⟩ := Q13.out
    go_wp2_with fail
    refine (IOK.out _ _ _ hrw13).mono ?_; rintro e14 w14 ⟨T14, cT14, lo14, hi14, rfl, ht14, hl14, hb14⟩
    have Q14 := Lib.hid (Q13.out.keep (hb14.block _ (by omega)) (hb14.block _ (by omega)) (hb14.block _ (by omega)) (hb14.block _ (by omega)))
    have z14 : S5 + 1 ≤ w14.heap.size := Nat.le_trans z13 hb14.size
    have HB14 := Lib.hid (bstep (B := w.heap.size) (W := w) HB13.out (by omega) hb14)
    have R3_14 := Lib.hid (R3_13.out.below hb14)
    have R5_14 := Lib.hid (R5_13.out.below hb14)
    clear Q13 R3_13 R5_13
    clear hb14 hrw13
    have BA14 := Lib.hid ((Below.refl w14.heap.size w14).alloc (Nat.le_refl _) (.cells #[.int .i64 N, .slice T14 L.length cT14] 28))
    have h0 : (w14.alloc (.cells #[.int .i64 N, .slice T14 L.length cT14] 28)).cell? ⟨w14.heap.size, 0, none⟩ = some (.int .i64 N) := cell_of_row _ _ 0 _ _ (0, 0) (heap_alloc_new w14 _)
    have h1 : (w14.alloc (.cells #[.int .i64 N, .slice T14 L.length cT14] 28)).cell? ⟨w14.heap.size, 1, none⟩ = some (.slice T14 L.length cT14) := cell_of_row _ _ 1 _ _ (0, 0) (heap_alloc_new w14 _)
    have Q15 := Lib.hid (Q14.out.keep (BA14.out.block _ (by omega)) (BA14.out.block _ (by omega)) (BA14.out.block _ (by omega)) (BA14.out.block _ (by omega)))
    have R3_15 := Lib.hid (R3_14.out.below BA14.out)
    have R5_15 := Lib.hid (R5_14.out.below BA14.out)
    have R14 := Lib.hid (ht14.below BA14.out)
    have HB15 := Lib.hid (bstep (B := w.heap.size) (W := w) HB14.out (by omega) BA14.out)
    have z15 : S5 + 1 ≤ (w14.alloc (.cells #[.int .i64 N, .slice T14 L.length cT14] 28)).heap.size := Nat.le_trans z14 BA14.out.size
    clear ht14 R3_14 R5_14
    clear a0 a1 b0 b1 c0 c1 d0 d1
    obtain ⟨a0, a1, b0, b1, c0, c1, d0, d1⟩ := Q14.out
    have y3 : S3 < w14.heap.size := by omega
    have y0 : w.heap.size < w14.heap.size := by omega
    have y4 : S4 < w14.heap.size := by omega
    have y5 : S5 < w14.heap.size := by omega
    clear Q14
    go_wp2_with fail
    refine (eqNet_any N _ _ _ _ L _ R14.out.rw3 R3_15.out.rw3 hcm).mono ?_; rintro e16 w16 ⟨rfl, hb16⟩
    obtain ⟨V15, hV15⟩ : ∃ V, w14.alloc (.cells #[.int .i64 N, .slice T14 L.length cT14] 28) = V := ⟨_, rfl⟩
    rw [hV15] at Q15 R3_15 R5_15 R14 HB15 z15 hb16
    clear hV15 h0 h1
    clear a0 a1 b0 b1 c0 c1 d0 d1
    have Q16 := Lib.hid (Q15.out.keep (hb16.block _ (by omega)) (hb16.block _ (by omega)) (hb16.block _ (by omega)) (hb16.block _ (by omega)))
    have z16 : S5 + 1 ≤ w16.heap.size := Nat.le_trans z15 hb16.size
    have HB16 := Lib.hid (bstep (B := w.heap.size) (W := w) HB15.out (by omega) hb16)
    have R3_16 := Lib.hid (R3_15.out.below hb16)
    have R5_16 := Lib.hid (R5_15.out.below hb16)
    clear Q15 R3_15 R5_15
    clear hb16 R14
    obtain ⟨a0, a1, b0, b1, c0, c1, d0, d1⟩ := Q16.out
    go_wp2_with fail
    refine (HCON.out _ R5_16.out).mono ?_; rintro e17 w17 ⟨rfl, hb17⟩
    have Q17 := Lib.hid (Q16.out.keep (hb17.block _ (by omega)) (hb17.block _ (by omega)) (hb17.block _ (by omega)) (hb17.block _ (by omega)))
    have z17 : S5 + 1 ≤ w17.heap.size := Nat.le_trans z16 hb17.size
    have HB17 := Lib.hid (bstep (B := w.heap.size) (W := w) HB16.out (by omega) hb17)
    have R3_17 := Lib.hid (R3_16.out.below hb17)
    have R5_17 := Lib.hid (R5_16.out.below hb17)
    clear Q16 R3_16 R5_16
    clear hb17
    clear a0 a1 b0 b1 c0 c1 d0 d1
    go_wp2_with fail
    go_ret
    exact ⟨rfl, HB17.out⟩
theorem FnExactDearerNet_walk (n : Int) (A : Option Addr) (cap : Nat) (ws : List Wy) (k b : Int) (w : World) (hr : RW w w.heap.size A ws) (hlen : ws.length ≤ 9223372036854775807) :
    Calls Try.prog 3 #[.agg #[.int .i64 n, .slice A ws.length cap], .int .i64 k, .int .i64 b] w fun e w' => e = .returned (.bool true) ∧ Below w.heap.size w w' := by
  by_cases hm : ws.length ≤ 1048576
  · rcases dearer_len (n := n) (ws := ws) (k := k) (b := b) with h | ⟨N, L, h, hl⟩
    · exact dearer_exact n k b A cap ws w hr hlen hm (N := 0) (L := []) (tb := false) (.inl ⟨h, rfl, rfl, rfl⟩) (by simp)
    · exact dearer_exact n k b A cap ws w hr hlen hm (.inr ⟨h, rfl⟩) (by omega)
  · go_enter Try.func3, Try.ntmps3
    have HR := Lib.hid hr
    clear hr
    go_wp2_with fail
    refine (szNet_any _ _ _ _ _ hlen).mono ?_; rintro e w1 ⟨rfl, hb1⟩
    rw [if_neg hm]
    obtain ⟨hc1, hf1⟩ := bcell hb1
    have hz1_0 : w.heap.size < w1.heap.size := by have hq := hb1.size; (try simp at hq); omega
    have HK1 := Lib.hid hb1
    have HB1 := Lib.hid (bstep (B := w.heap.size) (W := w) (by (try have hp := HB0.out); go_grown) (by go_size) hb1); clear hb1
    go_wp2_with fail
    go_ret
    exact ⟨rfl, HB1.out⟩
end Go.Proofs.Ytcfendmhhhggeaa
