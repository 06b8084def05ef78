/- The model's least dearest way, and dearest way of a set. -/
import Derived.Test.YthadehgpeafniaaDoorNxM
import Derived.Test.YthadehgpeafniaaDoorMD
import Derived.Test.YthadehgpeafniaaDoorME
import Derived.Test.YthadehgpeafniaaDoorWC
set_option linter.unusedSimpArgs false
set_option linter.unusedVariables false
attribute [local go_sem ↓] Go.wp_at_zero Go.wp_at_succ
namespace Go.Proofs.YthadehgpeafniaaDoor
open Go.ChangeShapes Go.WideShapes Go.ChangeAt Go.RowKit

set_option maxHeartbeats 2000000 in
theorem l13Upto_any (n c : Int) (A : Option Addr) (cap : Nat) (ws : List Wy) (w : World) (hr : RW w w.heap.size A ws) (hl9 : ws.length ≤ 9) :
    Calls Tryd.prog 38 #[.agg #[.int .i64 n, .slice A ws.length cap], .int .i64 c] w fun e w' => e = .returned (.int .i64 (upto ws c)) ∧ Below w.heap.size w w' := by
  have HR := Lib.hid hr
  clear hr
  go_enter Tryd.func38, Tryd.ntmps38
  go_wp2_with fail
  go_loopw [5, 6] (fun o i wr => ∃ k : Nat, k ≤ ws.length ∧ i = .int .i64 k ∧ o = .int .i64 (uptoTo ws c k) ∧ wr.cell? ⟨w.heap.size, 0, none⟩ = some (.int .i64 n) ∧ wr.cell? ⟨w.heap.size, 1, none⟩ = some (.slice A ws.length cap) ∧ Below w.heap.size w wr) (fun _ i _ => ws.length - (intOf i).toNat)
  case atStart => exact ⟨0, Nat.zero_le _, rfl, rfl, by go_simp, by go_simp, by go_grown⟩
  case round =>
    obtain ⟨k, hk, rfl, rfl, b0, b1, hb⟩ := hrel
    have HB0 := Lib.hid hb
    have hk0 : (0 : Int) ≤ (k : Int) := by omega
    have hub := uptoTo_bd ws c k
    by_cases hlt : k < ws.length
    · have hk1 : (k : Int) < (ws.length : Int) := by omega
      obtain ⟨x, hx⟩ : ∃ x, ws[k]? = some x := ⟨_, List.getElem?_eq_getElem hlt⟩
      obtain ⟨ob, oo, rfl, hOB, g0, g1, g2⟩ := HR.out.below hb k x hx
      have hpk := pow_bd (k : Int) 9 (by omega)
      rw [Int.toNat_natCast] at hpk
      have hp9 := pow_bd (k : Int) 9 (by omega)
      have HP1 : Hid (IntKind.i64.wrap (2 ^ k) = 2 ^ k) := IntWalk.i64_in _ ⟨by omega, by omega⟩
      have HP2 : Hid (wrap64 (2 ^ k) = 2 ^ k) := IntWalk.wrap64_in _ ⟨by omega, by omega⟩
      obtain ⟨X, hX⟩ : ∃ X, uptoTo ws c k = X := ⟨_, rfl⟩
      rw [hX] at hub ⊢
      have HOR : Hid (bits .or .i64 X (2 ^ k) = ior X (2 ^ k)) := bits_or _ _ hub.1 (by omega) (by omega) (by omega)
      by_cases hc : x.c ≤ c
      · have HY : Hid (uptoTo ws c (k + 1) = ior X (2 ^ k)) := by show _ = _; rw [uptoTo_yes hx hc, hX]
        clear hx hX hub hpk hp9 hb
        have hp1 := HP1.out
        have hp2 := HP2.out
        go_wp2_with fail
        clear hp1 hp2
        go_roundw
        case rel => exact ⟨k + 1, by omega, by go_num, by rw [HY.out, HOR.out], b0, b1, HB0.out⟩
        case measure => (simp [intOf]) <;> omega
      · have HY : Hid (uptoTo ws c (k + 1) = X) := by show _ = _; rw [uptoTo_no hx hc, hX]
        clear hx hX hub hpk hp9 hb
        go_wp2_with fail
        go_roundw
        case rel => exact ⟨k + 1, by omega, by go_num, by rw [HY.out], b0, b1, HB0.out⟩
        case measure => (simp [intOf]) <;> omega
    · obtain rfl : k = ws.length := by omega
      have HU : Hid (uptoTo ws c ws.length = upto ws c) := rfl
      rw [HU.out]
      clear hub
      go_wp2_with fail
      go_ret
      exact ⟨rfl, hb⟩
theorem ldF_none {ws : List Wy} {e : Int} (h : ∀ j : Nat, j < 10 → joins ws (upto ws j) e = false) : ld ws e = -1 := by
  rcases ldF_ok ws e 10 0 with ⟨h1, _⟩ | ⟨i, h1, _, h3, h4, _⟩
  · exact h1
  · rw [h i (by omega)] at h4; cases h4
theorem ldF_at {ws : List Wy} {e : Int} {k : Nat} (hk : k < 10) (h : ∀ j : Nat, j < k → joins ws (upto ws j) e = false) (hj : joins ws (upto ws k) e = true) : ld ws e = k := by
  rcases ldF_ok ws e 10 0 with ⟨_, h2⟩ | ⟨i, h1, _, h3, h4, h5⟩
  · rw [h2 k (by omega) (by omega)] at hj; cases hj
  · unfold ld
    rw [h1]
    by_cases e1 : i < k
    · rw [h i e1] at h4; cases h4
    · by_cases e2 : k < i
      · rw [h5 k (by omega) e2] at hj; cases hj
      · omega
set_option maxHeartbeats 4000000 in
theorem sLeastDearest_any (n e : Int) (A : Option Addr) (cap : Nat) (ws : List Wy) (w : World) (hr : RW w w.heap.size A ws) (hm : ws.length ≤ 1073741824) :
    Calls Tryd.prog 10 #[.agg #[.int .i64 n, .slice A ws.length cap], .int .i64 e] w fun en w' => en = .returned (.int .i64 (leastDearest n ws e)) ∧ Below w.heap.size w w' := by
  have HR := Lib.hid hr
  clear hr
  unfold leastDearest
  cases hok : netOk n ws && plOk n e
  · have HOK := Lib.hid hok
    rw [if_neg (by simp)]
    clear hok
    go_enter Tryd.func10, Tryd.ntmps10
    go_wp2_with fail
    refine (l1EndsOk_any _ _ _ _ _ _ (HR.out.later (by go_grown)) hm).mono ?_; rintro e w1 ⟨rfl, hb1⟩
    rw [HOK.out]
    obtain ⟨hc1, hf1⟩ := bcell hb1
    have hz1_0 : w.heap.size < w1.heap.size := by have hq := hb1.size; (try simp at hq); omega
    have HK1 := Lib.hid hb1
    have HB1 := Lib.hid (bstep (B := w.heap.size) (W := w) (by (try have hp := HB0.out); go_grown) (by go_size) hb1); clear hb1
    go_wp2_with fail
    go_ret
    exact ⟨rfl, HB1.out⟩
  · have HOK := Lib.hid hok
    obtain ⟨hno, hpe⟩ : netOk n ws = true ∧ plOk n e = true := by simpa using hok
    have hn := netOk_t hno
    have HN := Lib.hid hn
    obtain ⟨e0, e1⟩ := plOk_t hpe
    have HE1 := Lib.hid e1
    have hl9 := hn.len
    rw [if_pos rfl]
    clear hok hno hpe hn e1
    go_enter Tryd.func10, Tryd.ntmps10
    go_wp2_with fail
    refine (l1EndsOk_any _ _ _ _ _ _ (HR.out.later (by go_grown)) hm).mono ?_; rintro e w1 ⟨rfl, hb1⟩
    rw [HOK.out]
    obtain ⟨hc1, hf1⟩ := bcell hb1
    have hz1_0 : w.heap.size < w1.heap.size := by have hq := hb1.size; (try simp at hq); omega
    have HK1 := Lib.hid hb1
    have HB1 := Lib.hid (bstep (B := w.heap.size) (W := w) (by (try have hp := HB0.out); go_grown) (by go_size) hb1); clear hb1
    have k10 : w1.cell? ⟨w.heap.size, 0, none⟩ = some (.int .i64 n) := by go_simp
    have k11 : w1.cell? ⟨w.heap.size, 1, none⟩ = some (.slice A ws.length cap) := by go_simp
    clear hc1 hf1
    go_wp2_with fail
    go_loopw [5] (fun i wr => ∃ k : Nat, k ≤ 10 ∧ i = .int .i64 k ∧ Hid (∀ j : Nat, j < k → joins ws (upto ws j) e = false) ∧ wr.cell? ⟨w.heap.size, 0, none⟩ = some (.int .i64 n) ∧ wr.cell? ⟨w.heap.size, 1, none⟩ = some (.slice A ws.length cap) ∧ Below w.heap.size w wr ∧ w.heap.size < wr.heap.size) (fun i _ => 10 - (intOf i).toNat)
    case atStart => exact ⟨0, Nat.zero_le _, rfl, Lib.hid (fun j hj => absurd hj (Nat.not_lt_zero j)), k10, k11, HB1.out, hz1_0⟩
    case round =>
      clear k10 k11 HB1 HK1 hz1_0
      obtain ⟨k, hk, rfl, HALL, b0, b1, hb, hz⟩ := hrel
      have HB0 := Lib.hid hb
      have hk0 : (0 : Int) ≤ (k : Int) := by omega
      have hu := upto_bd ws (k : Int)
      have hfb := full_bd ws.length hl9
      have hu9 : upto ws (k : Int) ≤ 511 := by omega
      clear hb hfb
      by_cases hlt : k < 10
      · have hk1 : (k : Int) ≤ 9 := by omega
        cases hj : joins ws (upto ws (k : Int)) e
        · have HJ := Lib.hid hj
          clear hj
          go_wp2_with fail
          refine wp_region_held_drew (S := (fun w' => w'.cell? ⟨w.heap.size, 0, none⟩ = some (.int .i64 n) ∧ w'.cell? ⟨w.heap.size, 1, none⟩ = some (.slice A ws.length cap))) (by kernel_rfl) ?_ (fun hHeld => ?_)
          · exact ⟨b0, b1⟩
          refine wpAnyH_take (i := 0) (v := ?_) rfl (by kernel_rfl) (by kernel_rfl) (by kernel_rfl) (fun _ _ _ h => h) (Or.inl ⟨by rfl, ?_⟩) (by assumption) ?_
          rotate_left
          · (intro w hSw; (try dsimp only at hSw); (try simp only [List.getElem_toArray, List.getElem_cons_succ, List.getElem_cons_zero]); first | (go_simp; done) | (go_simp; with_reducible rfl))
          try simp only [Act.put, List.getElem_toArray, List.getElem_cons_succ, List.getElem_cons_zero, List.setIfInBounds_toArray, List.set_cons_zero, List.set_cons_succ]
          refine wpAnyH_take (i := 1) (v := ?_) rfl (by kernel_rfl) (by kernel_rfl) (by kernel_rfl) (fun _ _ _ h => h) (Or.inl ⟨by rfl, ?_⟩) (by assumption) ?_
          rotate_left
          · (intro w hSw; (try dsimp only at hSw); (try simp only [List.getElem_toArray, List.getElem_cons_succ, List.getElem_cons_zero]); first | (go_simp; done) | (go_simp; with_reducible rfl))
          try simp only [Act.put, List.getElem_toArray, List.getElem_cons_succ, List.getElem_cons_zero, List.setIfInBounds_toArray, List.set_cons_zero, List.set_cons_succ]
          refine wpAnyH_take (i := 2) (v := ?_) rfl (by kernel_rfl) (by kernel_rfl) (by kernel_rfl) (fun _ _ _ h => h) (Or.inl ⟨by rfl, ?_⟩) (by assumption) ?_
          rotate_left
          · (intro w hSw; (try dsimp only at hSw); (try simp only [List.getElem_toArray, List.getElem_cons_succ, List.getElem_cons_zero]); first | (go_simp; done) | (go_simp; with_reducible rfl))
          try simp only [Act.put, List.getElem_toArray, List.getElem_cons_succ, List.getElem_cons_zero, List.setIfInBounds_toArray, List.set_cons_zero, List.set_cons_succ]
          refine wpAnyH_take (i := 4) (v := ?_) rfl (by kernel_rfl) (by kernel_rfl) (by kernel_rfl) (fun _ _ _ h => h) (Or.inl ⟨by rfl, ?_⟩) (by assumption) ?_
          rotate_left
          · (intro w hSw; (try dsimp only at hSw); (try simp only [List.getElem_toArray, List.getElem_cons_succ, List.getElem_cons_zero]); first | (go_simp; done) | (go_simp; with_reducible rfl))
          try simp only [Act.put, List.getElem_toArray, List.getElem_cons_succ, List.getElem_cons_zero, List.setIfInBounds_toArray, List.set_cons_zero, List.set_cons_succ]
          refine wpAnyH_ready (rs := [3]) (by kernel_rfl) (by simp) ?_
          refine AllReadyH.cons rfl (fun K hK => ?_) AllReadyH.nil
          try simp only [List.getElem_toArray, List.getElem_cons_succ, List.getElem_cons_zero]
          go_simp
          go_at_call 38; refine (l13Upto_any n k A cap ws _ (HR.out.later (by have := HB0.out; go_grown)) hl9).mono ?_; rintro e2 w2 ⟨rfl, hb2⟩; have gg2 := und hb2; have k2 := keep2 gg2 ⟨b0, b1⟩ hz; have z2 := Nat.lt_of_lt_of_le hz gg2.size; have HB2 := Lib.hid (bstep (B := w.heap.size) (W := w) HB0.out (Nat.le_of_lt hz) gg2); clear hb2
          refine hK.out _ _ ?_ (fun hHeld => ?_)
          · exact k2
          clear hK K
          try simp only [Act.put, List.getElem_toArray, List.getElem_cons_succ, List.getElem_cons_zero, List.setIfInBounds_toArray, List.set_cons_zero, List.set_cons_succ]
          refine wpAnyH_ready (rs := [5]) (by kernel_rfl) (by simp) ?_
          refine AllReadyH.cons rfl (fun K hK => ?_) AllReadyH.nil
          try simp only [List.getElem_toArray, List.getElem_cons_succ, List.getElem_cons_zero]
          go_simp
          go_at_call 37; refine (l1Joins_any n (upto ws k) e A cap ws _ (HR.out.later (by have := HB2.out; go_grown)) HN.out hu.1 (by omega) e0 HE1.out).mono ?_; rintro e3 w3 ⟨rfl, hb3⟩; rw [HJ.out]; have gg3 := und (k := 0) hb3; have k3 := keep2 gg3 k2 z2; have z3 := Nat.lt_of_lt_of_le z2 gg3.size; have HB3 := Lib.hid (bstep (B := w.heap.size) (W := w) HB2.out (Nat.le_of_lt z2) gg3); clear hb3
          refine hK.out _ _ ?_ (fun hHeld => ?_)
          · exact k3
          clear hK K
          try simp only [Act.put, List.getElem_toArray, List.getElem_cons_succ, List.getElem_cons_zero, List.setIfInBounds_toArray, List.set_cons_zero, List.set_cons_succ]
          refine wpAnyH_done (by kernel_rfl) ?_ _
          go_wp2_with fail
          go_roundw
          case rel =>
            refine ⟨k + 1, by omega, by go_num, Lib.hid (fun j hj => ?_), k3.1, k3.2, HB3.out, z3⟩
            by_cases e9 : j = k
            · subst e9; exact HJ.out
            · exact HALL.out j (by omega)
          case measure => (simp [intOf]) <;> omega
        · have HV : Hid (ld ws e = (k : Int)) := ldF_at hlt HALL.out hj
          have HJ := Lib.hid hj
          clear hj
          go_wp2_with fail
          refine wp_region_held_drew (S := (fun w' => w'.cell? ⟨w.heap.size, 0, none⟩ = some (.int .i64 n) ∧ w'.cell? ⟨w.heap.size, 1, none⟩ = some (.slice A ws.length cap))) (by kernel_rfl) ?_ (fun hHeld => ?_)
          · exact ⟨b0, b1⟩
          refine wpAnyH_take (i := 0) (v := ?_) rfl (by kernel_rfl) (by kernel_rfl) (by kernel_rfl) (fun _ _ _ h => h) (Or.inl ⟨by rfl, ?_⟩) (by assumption) ?_
          rotate_left
          · (intro w hSw; (try dsimp only at hSw); (try simp only [List.getElem_toArray, List.getElem_cons_succ, List.getElem_cons_zero]); first | (go_simp; done) | (go_simp; with_reducible rfl))
          try simp only [Act.put, List.getElem_toArray, List.getElem_cons_succ, List.getElem_cons_zero, List.setIfInBounds_toArray, List.set_cons_zero, List.set_cons_succ]
          refine wpAnyH_take (i := 1) (v := ?_) rfl (by kernel_rfl) (by kernel_rfl) (by kernel_rfl) (fun _ _ _ h => h) (Or.inl ⟨by rfl, ?_⟩) (by assumption) ?_
          rotate_left
          · (intro w hSw; (try dsimp only at hSw); (try simp only [List.getElem_toArray, List.getElem_cons_succ, List.getElem_cons_zero]); first | (go_simp; done) | (go_simp; with_reducible rfl))
          try simp only [Act.put, List.getElem_toArray, List.getElem_cons_succ, List.getElem_cons_zero, List.setIfInBounds_toArray, List.set_cons_zero, List.set_cons_succ]
          refine wpAnyH_take (i := 2) (v := ?_) rfl (by kernel_rfl) (by kernel_rfl) (by kernel_rfl) (fun _ _ _ h => h) (Or.inl ⟨by rfl, ?_⟩) (by assumption) ?_
          rotate_left
          · (intro w hSw; (try dsimp only at hSw); (try simp only [List.getElem_toArray, List.getElem_cons_succ, List.getElem_cons_zero]); first | (go_simp; done) | (go_simp; with_reducible rfl))
          try simp only [Act.put, List.getElem_toArray, List.getElem_cons_succ, List.getElem_cons_zero, List.setIfInBounds_toArray, List.set_cons_zero, List.set_cons_succ]
          refine wpAnyH_take (i := 4) (v := ?_) rfl (by kernel_rfl) (by kernel_rfl) (by kernel_rfl) (fun _ _ _ h => h) (Or.inl ⟨by rfl, ?_⟩) (by assumption) ?_
          rotate_left
          · (intro w hSw; (try dsimp only at hSw); (try simp only [List.getElem_toArray, List.getElem_cons_succ, List.getElem_cons_zero]); first | (go_simp; done) | (go_simp; with_reducible rfl))
          try simp only [Act.put, List.getElem_toArray, List.getElem_cons_succ, List.getElem_cons_zero, List.setIfInBounds_toArray, List.set_cons_zero, List.set_cons_succ]
          refine wpAnyH_ready (rs := [3]) (by kernel_rfl) (by simp) ?_
          refine AllReadyH.cons rfl (fun K hK => ?_) AllReadyH.nil
          try simp only [List.getElem_toArray, List.getElem_cons_succ, List.getElem_cons_zero]
          go_simp
          go_at_call 38; refine (l13Upto_any n k A cap ws _ (HR.out.later (by have := HB0.out; go_grown)) hl9).mono ?_; rintro e2 w2 ⟨rfl, hb2⟩; have gg2 := und hb2; have k2 := keep2 gg2 ⟨b0, b1⟩ hz; have z2 := Nat.lt_of_lt_of_le hz gg2.size; have HB2 := Lib.hid (bstep (B := w.heap.size) (W := w) HB0.out (Nat.le_of_lt hz) gg2); clear hb2
          refine hK.out _ _ ?_ (fun hHeld => ?_)
          · exact k2
          clear hK K
          try simp only [Act.put, List.getElem_toArray, List.getElem_cons_succ, List.getElem_cons_zero, List.setIfInBounds_toArray, List.set_cons_zero, List.set_cons_succ]
          refine wpAnyH_ready (rs := [5]) (by kernel_rfl) (by simp) ?_
          refine AllReadyH.cons rfl (fun K hK => ?_) AllReadyH.nil
          try simp only [List.getElem_toArray, List.getElem_cons_succ, List.getElem_cons_zero]
          go_simp
          go_at_call 37; refine (l1Joins_any n (upto ws k) e A cap ws _ (HR.out.later (by have := HB2.out; go_grown)) HN.out hu.1 (by omega) e0 HE1.out).mono ?_; rintro e3 w3 ⟨rfl, hb3⟩; rw [HJ.out]; have gg3 := und (k := 0) hb3; have k3 := keep2 gg3 k2 z2; have z3 := Nat.lt_of_lt_of_le z2 gg3.size; have HB3 := Lib.hid (bstep (B := w.heap.size) (W := w) HB2.out (Nat.le_of_lt z2) gg3); clear hb3
          refine hK.out _ _ ?_ (fun hHeld => ?_)
          · exact k3
          clear hK K
          try simp only [Act.put, List.getElem_toArray, List.getElem_cons_succ, List.getElem_cons_zero, List.setIfInBounds_toArray, List.set_cons_zero, List.set_cons_succ]
          refine wpAnyH_done (by kernel_rfl) ?_ _
          go_wp2_with fail
          go_ret
          exact ⟨ret_int HV.out.symm, HB3.out⟩
      · obtain rfl : k = 10 := by omega
        have HV : Hid (ld ws e = -1) := ldF_none HALL.out
        go_wp2_with fail
        go_ret
        exact ⟨ret_int HV.out.symm, HB0.out⟩
theorem dear_end {ws : List Wy} {s : Int} : dearTo ws s ws.length = dear ws s := rfl
end Go.Proofs.YthadehgpeafniaaDoor
