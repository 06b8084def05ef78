/- RootOf and RootCost, of the program and of its model. -/
import Derived.Test.YtbbomajgmgmigaaDoorDT
set_option linter.unusedSimpArgs false
set_option linter.unusedVariables false
namespace Go.Proofs.YtbbomajgmgmigaaDoor
open Go.ChangeShapes Go.WideShapes Go.ChangeAt Go.RowKit

noncomputable def rootOf (n : Int) (ws : List Wy) (e : Int) : Int := if (netOk n ws && plOk n e) = true then best ws e else -1
noncomputable def rootCost (n : Int) (ws : List Wy) (e : Int) : Int := costOf n ws (rootOf n ws e)
theorem best_bd' (ws : List Wy) (e : Int) : -1 ≤ best ws e ∧ best ws e < 2 ^ ws.length := by
  have h := bestTo_bd ws e (2 ^ ws.length)
  have e2 : ((2 : Int) ^ ws.length) = ((2 ^ ws.length : Nat) : Int) := by simp
  unfold best
  omega
theorem rootCost_is {n : Int} {ws : List Wy} {e : Int} (h : (netOk n ws && plOk n e) = true) : rootCost n ws e = if best ws e < 0 then -1 else cost ws (best ws e) := by
  have hb := best_bd' ws e
  have hn : netOk n ws = true := by rw [Bool.and_eq_true] at h; exact h.1
  unfold rootCost rootOf costOf
  rw [if_pos h]
  split
  · rename_i h1
    rw [if_neg]
    have := (setOk_t h1).2.1
    omega
  · rename_i h1
    rw [if_pos]
    cases hq : decide (best ws e < 0)
    · exfalso
      have h0 : ¬ best ws e < 0 := of_decide_eq_false hq
      apply h1
      unfold setOk
      rw [hn]
      unfold full
      simp
      omega
    · exact of_decide_eq_true hq
theorem rootCost_not {n : Int} {ws : List Wy} {e : Int} (h : (netOk n ws && plOk n e) = false) : rootCost n ws e = -1 := by
  unfold rootCost rootOf costOf
  have hx : ¬ (netOk n ws && plOk n e) = true := by rw [h]; simp
  rw [if_neg hx, if_neg]
  intro h1
  have := (setOk_t h1).2.1
  omega
set_option maxHeartbeats 400000 in
theorem endsOk_any (n e : Int) (A : Option Addr) (cap : Nat) (ws : List Wy) (w : World) (hr : RW w w.heap.size A ws) :
    Calls Tryd.prog 49 #[.agg #[.int .i64 n, .slice A ws.length cap], .int .i64 e] w fun en w' => en = .returned (.bool (netOk n ws && plOk n e)) ∧ Below w.heap.size w w' := by
  have HR := Lib.hid hr
  clear hr
  cases hn : netOk n ws
  · have HN := Lib.hid hn
    rw [Bool.false_and]
    clear hn
    go_enter Tryd.func49, Tryd.ntmps49
    go_wp2_with fail
    refine (NetOk_any _ _ _ _ _ (HR.out.later (by go_grown))).mono ?_; rintro e w1 ⟨rfl, hb1⟩
    rw [HN.out]
    obtain ⟨hc1, hf1⟩ := bcell hb1
    have hz1_0 : w.heap.size < w1.heap.size := by have hq := hb1.size; (try simp at hq); omega
    have HK1 := Lib.hid hb1
    have HB1 := Lib.hid (bstep (B := w.heap.size) (W := w) (by (try have hp := HB0.out); go_grown) (by go_size) hb1); clear hb1
    go_wp2_with fail
    go_ret
    exact ⟨rfl, HB1.out⟩
  · have HN := Lib.hid hn
    have hn2 := (netOk_t hn).lo
    have hn6 := (netOk_t hn).hi
    rw [Bool.true_and]
    clear hn
    go_enter Tryd.func49, Tryd.ntmps49
    go_wp2_with fail
    refine (NetOk_any _ _ _ _ _ (HR.out.later (by go_grown))).mono ?_; rintro e w1 ⟨rfl, hb1⟩
    rw [HN.out]
    obtain ⟨hc1, hf1⟩ := bcell hb1
    have hz1_0 : w.heap.size < w1.heap.size := by have hq := hb1.size; (try simp at hq); omega
    have HK1 := Lib.hid hb1
    have HB1 := Lib.hid (bstep (B := w.heap.size) (W := w) (by (try have hp := HB0.out); go_grown) (by go_size) hb1); clear hb1
    go_wp2_with fail
    refine (hasPlaces_any _ _ _ (by omega) (by omega) _).mono ?_; rintro e w2 ⟨rfl, hb2⟩
    obtain ⟨hc2, hf2⟩ := bcell hb2
    have hz2_0 : w.heap.size < w2.heap.size := by have hq := hb2.size; (try simp at hq); omega
    have HK2 := Lib.hid hb2
    have HB2 := Lib.hid (bstep (B := w.heap.size) (W := w) (by have hp := HB1.out; go_grown) (by go_size) hb2); clear hb2
    go_wp2_with fail
    go_ret
    exact ⟨rfl, HB2.out⟩
set_option maxHeartbeats 1000000 in
theorem RootOf_any (n e : Int) (A : Option Addr) (cap : Nat) (ws : List Wy) (w : World) (hr : RW w w.heap.size A ws) (hT : Tab w) :
    Calls Tryd.prog 21 #[.agg #[.int .i64 n, .slice A ws.length cap], .int .i64 e] w fun en w' => en = .returned (.int .i64 (rootOf n ws e)) ∧ Below w.heap.size w w' := by
  have HR := Lib.hid hr
  have HT := Lib.hid hT
  clear hr hT
  unfold rootOf
  cases hn : netOk n ws && plOk n e
  · have HN := Lib.hid hn
    rw [if_neg (by simp)]
    clear hn
    go_enter Tryd.func21, Tryd.ntmps21
    go_wp2_with fail
    refine (endsOk_any _ _ _ _ _ _ (HR.out.later (by go_grown))).mono ?_; rintro e w1 ⟨rfl, hb1⟩
    rw [HN.out]
    obtain ⟨hc1, hf1⟩ := bcell hb1
    have hz1_0 : w.heap.size < w1.heap.size := by have hq := hb1.size; (try simp at hq); omega
    have HK1 := Lib.hid hb1
    have HB1 := Lib.hid (bstep (B := w.heap.size) (W := w) (by (try have hp := HB0.out); go_grown) (by go_size) hb1); clear hb1
    go_wp2_with fail
    go_ret
    exact ⟨rfl, HB1.out⟩
  · have HN := Lib.hid hn
    obtain ⟨hn1, hn2⟩ : netOk n ws = true ∧ plOk n e = true := by simpa using hn
    have HS := Lib.hid (netOk_t hn1)
    obtain ⟨he0, he1⟩ := plOk_t hn2
    have HE := Lib.hid he1
    rw [if_pos rfl]
    clear hn hn1 hn2 he1
    go_enter Tryd.func21, Tryd.ntmps21
    go_wp2_with fail
    refine (endsOk_any _ _ _ _ _ _ (HR.out.later (by go_grown))).mono ?_; rintro e w1 ⟨rfl, hb1⟩
    rw [HN.out]
    obtain ⟨hc1, hf1⟩ := bcell hb1
    have hz1_0 : w.heap.size < w1.heap.size := by have hq := hb1.size; (try simp at hq); omega
    have HK1 := Lib.hid hb1
    have HB1 := Lib.hid (bstep (B := w.heap.size) (W := w) (by (try have hp := HB0.out); go_grown) (by go_size) hb1); clear hb1
    go_wp2_with fail
    refine (leastJoining_any n e A cap ws _ (HR.out.later (by have := HB1.out; go_grown)) HS.out he0 HE.out (HT.out.later (by have := HB1.out; go_grown))).mono ?_; rintro e w2 ⟨rfl, hb2⟩
    obtain ⟨hc2, hf2⟩ := bcell hb2
    have hz2_0 : w.heap.size < w2.heap.size := by have hq := hb2.size; (try simp at hq); omega
    have HK2 := Lib.hid hb2
    have HB2 := Lib.hid (bstep (B := w.heap.size) (W := w) (by have hp := HB1.out; go_grown) (by go_size) hb2); clear hb2
    go_wp2_with fail
    go_ret
    exact ⟨rfl, HB2.out⟩
set_option maxHeartbeats 1000000 in
theorem RootCost_any (n e : Int) (A : Option Addr) (cap : Nat) (ws : List Wy) (w : World) (hr : RW w w.heap.size A ws) (hT : Tab w) :
    Calls Tryd.prog 10 #[.agg #[.int .i64 n, .slice A ws.length cap], .int .i64 e] w fun en w' => en = .returned (.int .i64 (rootCost n ws e)) ∧ Below w.heap.size w w' := by
  have HR := Lib.hid hr
  have HT := Lib.hid hT
  have HRA := Lib.hid (HR.out.later ((Below.refl _ _).alloc (Nat.le_refl _) (.cells #[.int .i64 n, .slice A ws.length cap] 25)))
  have HTA := Lib.hid (HT.out.later ((Below.refl _ _).alloc (Nat.le_refl _) (.cells #[.int .i64 n, .slice A ws.length cap] 25)))
  have k0 : (w.alloc (.cells #[.int .i64 n, .slice A ws.length cap] 25)).cell? ⟨w.heap.size, 0, none⟩ = some (.int .i64 n) ∧ (w.alloc (.cells #[.int .i64 n, .slice A ws.length cap] 25)).cell? ⟨w.heap.size, 1, none⟩ = some (.slice A ws.length cap) :=
    ⟨cell_of_row _ _ 0 _ _ (0, 0) (heap_alloc_new w _), cell_of_row _ _ 1 _ _ (0, 0) (heap_alloc_new w _)⟩
  have z0 : w.heap.size < (w.alloc (.cells #[.int .i64 n, .slice A ws.length cap] 25)).heap.size := by simp
  unfold rootCost
  clear hr hT
  go_enter Tryd.func10, Tryd.ntmps10
  go_wp2_with fail
  go_region_held3 (fun w' => w'.cell? ⟨w.heap.size, 0, none⟩ = some (.int .i64 n) ∧ w'.cell? ⟨w.heap.size, 1, none⟩ = some (.slice A ws.length cap))
    (first | exact k4 | exact k3 | exact k0)
    (first
      | (go_at_call 22; refine (CostOf_any n (rootOf n ws e) A cap ws w3 r3.out).mono ?_; rintro e4 w4 ⟨rfl, hb4⟩; have k4 := keep2 hb4 k3 z3)
      | (go_at_call 21; refine (RootOf_any n e A cap ws _ (HRA.out.drewNR _) (HTA.out.drewNR _)).mono ?_; rintro e3 w3 ⟨rfl, hb3⟩; have g3 : Below (w.alloc (.cells #[.int .i64 n, .slice A ws.length cap] 25)).heap.size (w.alloc (.cells #[.int .i64 n, .slice A ws.length cap] 25)) w3 := und hb3; have k3 := keep2 g3 k0 z0; have r3 := Lib.hid (HRA.out.later g3); have z3 := Nat.lt_of_lt_of_le z0 g3.size))
  have HB4 := Lib.hid (bstep (B := w.heap.size) (W := w) (bstep ((Below.refl _ _).alloc (Nat.le_refl _) (.cells #[.int .i64 n, .slice A ws.length cap] 25)) (by simp) g3) (by omega) hb4)
  clear g3 hb3 hb4
  go_wp2_with fail
  go_ret
  exact ⟨rfl, HB4.out⟩
set_option maxHeartbeats 1000000 in
theorem sRootCost_any (n e : Int) (A : Option Addr) (cap : Nat) (ws : List Wy) (w : World) (hr : RW w w.heap.size A ws) (hm : ws.length ≤ 1073741824) :
    Calls Tryd.prog 11 #[.agg #[.int .i64 n, .slice A ws.length cap], .int .i64 e] w fun en w' => en = .returned (.int .i64 (rootCost n ws e)) ∧ Below w.heap.size w w' := by
  have HR := Lib.hid hr
  clear hr
  cases hn : netOk n ws && plOk n e
  · have HN := Lib.hid hn
    rw [rootCost_not hn]
    clear hn
    go_enter Tryd.func11, Tryd.ntmps11
    go_wp2_with fail
    refine (l1EndsOk_any _ _ _ _ _ _ (HR.out.later (by go_grown)) hm).mono ?_; rintro e w1 ⟨rfl, hb1⟩
    rw [HN.out]
    obtain ⟨hc1, hf1⟩ := bcell hb1
    have hz1_0 : w.heap.size < w1.heap.size := by have hq := hb1.size; (try simp at hq); omega
    have HK1 := Lib.hid hb1
    have HB1 := Lib.hid (bstep (B := w.heap.size) (W := w) (by (try have hp := HB0.out); go_grown) (by go_size) hb1); clear hb1
    go_wp2_with fail
    go_ret
    exact ⟨rfl, HB1.out⟩
  · have HN := Lib.hid hn
    obtain ⟨hn1, hn2⟩ : netOk n ws = true ∧ plOk n e = true := by simpa using hn
    have HS := Lib.hid (netOk_t hn1)
    have hl9 := (netOk_t hn1).len
    have hpl := pow_bd (ws.length : Int) 9 (by omega)
    rw [Int.toNat_natCast] at hpl
    obtain ⟨he0, he1⟩ := plOk_t hn2
    have HE := Lib.hid he1
    have hbb := best_bd' ws e
    rw [rootCost_is hn]
    clear hn hn1 hn2 he1
    by_cases hneg : best ws e < 0
    · rw [if_pos hneg]
      go_enter Tryd.func11, Tryd.ntmps11
      go_wp2_with fail
      refine (l1EndsOk_any _ _ _ _ _ _ (HR.out.later (by go_grown)) hm).mono ?_; rintro e w1 ⟨rfl, hb1⟩
      rw [HN.out]
      obtain ⟨hc1, hf1⟩ := bcell hb1
      have hz1_0 : w.heap.size < w1.heap.size := by have hq := hb1.size; (try simp at hq); omega
      have HK1 := Lib.hid hb1
      have HB1 := Lib.hid (bstep (B := w.heap.size) (W := w) (by (try have hp := HB0.out); go_grown) (by go_size) hb1); clear hb1
      go_wp2_with fail
      refine (l1Best_any n e A cap ws _ (HR.out.later (by have := HB1.out; go_grown)) HS.out he0 HE.out).mono ?_; rintro e w2 ⟨rfl, hb2⟩
      obtain ⟨hc2, hf2⟩ := bcell hb2
      have hz2_0 : w.heap.size < w2.heap.size := by have hq := hb2.size; (try simp at hq); omega
      have HK2 := Lib.hid hb2
      have HB2 := Lib.hid (bstep (B := w.heap.size) (W := w) (by have hp := HB1.out; go_grown) (by go_size) hb2); clear hb2
      go_wp2_with fail
      go_ret
      exact ⟨rfl, HB2.out⟩
    · rw [if_neg hneg]
      go_enter Tryd.func11, Tryd.ntmps11
      go_wp2_with fail
      refine (l1EndsOk_any _ _ _ _ _ _ (HR.out.later (by go_grown)) hm).mono ?_; rintro e w1 ⟨rfl, hb1⟩
      rw [HN.out]
      obtain ⟨hc1, hf1⟩ := bcell hb1
      have hz1_0 : w.heap.size < w1.heap.size := by have hq := hb1.size; (try simp at hq); omega
      have HK1 := Lib.hid hb1
      have HB1 := Lib.hid (bstep (B := w.heap.size) (W := w) (by (try have hp := HB0.out); go_grown) (by go_size) hb1); clear hb1
      go_wp2_with fail
      refine (l1Best_any n e A cap ws _ (HR.out.later (by have := HB1.out; go_grown)) HS.out he0 HE.out).mono ?_; rintro e w2 ⟨rfl, hb2⟩
      obtain ⟨hc2, hf2⟩ := bcell hb2
      have hz2_0 : w.heap.size < w2.heap.size := by have hq := hb2.size; (try simp at hq); omega
      have HK2 := Lib.hid hb2
      have HB2 := Lib.hid (bstep (B := w.heap.size) (W := w) (by have hp := HB1.out; go_grown) (by go_size) hb2); clear hb2
      go_wp2_with fail
      refine (l1Cost_any n (best ws e) A cap ws _ (HR.out.later (by have := HB2.out; go_grown)) HS.out (by omega) (by omega)).mono ?_; rintro e w3 ⟨rfl, hb3⟩
      obtain ⟨hc3, hf3⟩ := bcell hb3
      have hz3_0 : w.heap.size < w3.heap.size := by have hq := hb3.size; (try simp at hq); omega
      have HK3 := Lib.hid hb3
      have HB3 := Lib.hid (bstep (B := w.heap.size) (W := w) (by have hp := HB2.out; go_grown) (by go_size) hb3); clear hb3
      go_wp2_with fail
      go_ret
      exact ⟨rfl, HB3.out⟩
end Go.Proofs.YtbbomajgmgmigaaDoor
