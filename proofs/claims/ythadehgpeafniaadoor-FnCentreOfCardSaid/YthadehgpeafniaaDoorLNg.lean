/- Walk of the law FnCentreOf. -/
import Derived.Test.YthadehgpeafniaaDoorNxI
import Derived.Test.YthadehgpeafniaaDoorNxD
import Derived.Test.YthadehgpeafniaaDoorWC
import Derived.Test.YthadehgpeafniaaDoorMC
import Derived.Test.YthadehgpeafniaaDoorME
import Derived.Test.YthadehgpeafniaaDoorWNa
import Derived.Test.YthadehgpeafniaaDoorST
import Derived.Test.YthadehgpeafniaaDoorNxF
import Derived.Test.YthadehgpeafniaaDoorNxJ
set_option linter.unusedSimpArgs false
set_option linter.unusedVariables false
attribute [local go_sem ↓] Go.wp_at_zero Go.wp_at_succ
namespace Go.Proofs.YthadehgpeafniaaDoor
open Go.ChangeShapes Go.WideShapes Go.ChangeAt Go.RowKit

theorem centre_no {n : Int} {ws : List Wy} (h : (netOk n ws && joins ws (span ws (allPl n)) (allPl n)) = false) : centreOf n ws = -1 ∧ spanTreeOf n ws = -1 := by
  refine ⟨by unfold centreOf; rw [if_neg (by rw [h]; simp)], ?_⟩
  unfold spanTreeOf
  cases h1 : netOk n ws
  · rfl
  · rw [h1, Bool.true_and] at h
    rw [if_pos rfl, h]; rfl
structure CeW (m : Nat) (ws : List Wy) (a : Nat) (f : Nat → Int) : Prop where
  is : centreOf (m : Int) ws = (a : Int)
  lt : a < m
  cov : ∀ k : Nat, k < m → coverCost (m : Int) ws (2 ^ k) = f k
  nn : ∀ k : Nat, k < m → 0 ≤ f k ∧ f k ≤ 81
  least : ∀ k : Nat, k < m → f a ≤ f k
  one : fewestEnds (m : Int) ws (f a) = 1
  more : 0 < f a → 1 < fewestEnds (m : Int) ws (f a - 1)
theorem centre_words {m : Nat} {ws : List Wy} (hno : netOk (m : Int) ws = true) (hj : joins ws (span ws (allPl (m : Int))) (allPl (m : Int)) = true) : ∃ (a : Nat) (f : Nat → Int), CeW m ws a f := by
  have hn := netOk_t hno
  have h2 := hn.lo
  have h6 := hn.hi
  have hw := far_whole hn hj
  have hs := far_sym hn
  have hm : 0 < m := by omega
  have hm6 : m ≤ 6 := by omega
  have hd : ∀ a, a < m → farF ws m a a = 0 := fun a ha => farF_diag hn ha
  obtain ⟨c0, _, c2, _⟩ := ceTo_ok (fun a => fhTo (farF ws m) a m) m
  have hlt := ceTo_lt (f := fun a => fhTo (farF ws m) a m) hm
  obtain ⟨a, ha⟩ := Int.eq_ofNat_of_zero_le c0
  rw [ha] at c2 hlt
  rw [Int.toNat_natCast] at c2
  have ham : a < m := by omega
  have hmin : ∀ b, b < m → fhTo (farF ws m) a m ≤ fhTo (farF ws m) b m := fun b hb => c2 b hb
  obtain ⟨f1, f2⟩ := centre_fe hm hm6 hd hs hw ham hmin
  have hbd : ∀ k, k < m → 0 ≤ fhTo (farF ws m) k m ∧ fhTo (farF ws m) k m ≤ 81 := fun k hk => ⟨fh_nn _ _ _, (fhTo_le m).2 ⟨by omega, fun j hj => far_bd81 hn hk hj⟩⟩
  refine ⟨a, fun k => fhTo (farF ws m) k m, ?_, ham, fun k hk => ?_, hbd, hmin, ?_, fun h => ?_⟩
  · unfold centreOf
    rw [hno, hj, if_pos (show (true && true) = true from rfl), Int.toNat_natCast, ha]
  · have h9 := Nat.pow_lt_pow_right (a := 2) (by omega) hk
    have e2 : ((2 : Int) ^ k) = ((2 ^ k : Nat) : Int) := by simp
    have e3 : ((2 : Int) ^ m) = ((2 ^ m : Nat) : Int) := by simp
    have hp : plOk (m : Int) (2 ^ k) = true := by
      unfold plOk
      rw [Int.toNat_natCast, decide_eq_true (show (0 : Int) ≤ 2 ^ k by rw [e2]; exact Int.natCast_nonneg _), decide_eq_true (show (2 : Int) ^ k < 2 ^ m by rw [e2, e3]; exact Int.ofNat_lt.2 h9)]; rfl
    unfold coverCost
    rw [hno, hp, if_pos (show (true && true) = true from rfl), Int.toNat_natCast, cv_one hm hs hw hk]
  · have := (hbd a ham).1
    unfold fewestEnds
    rw [hno, decide_eq_true (show (0 : Int) ≤ fhTo (farF ws m) a m from this), if_pos (show (true && true) = true from rfl), Int.toNat_natCast]
    exact f1
  · unfold fewestEnds
    (try simp only at h)
    rw [hno, decide_eq_true (show (0 : Int) ≤ fhTo (farF ws m) a m - 1 by omega), if_pos (show (true && true) = true from rfl), Int.toNat_natCast]
    exact f2 h
set_option maxRecDepth 100000 in
set_option maxHeartbeats 2000000 in
theorem FnCentreOf_walk (A : Option Addr) (len cap : Nat) (w : World) (hr : RB w w.heap.size A len) (hc : len ≤ cap) (hlen : len ≤ 9223372036854775807) (hT : Tab w) :
    Calls Tryd.prog 5 #[.slice A len cap] w fun e w' => e = .returned (.bool true) ∧ Below w.heap.size w w' := by
  have HR := Lib.hid hr
  have HT := Lib.hid hT
  clear hT
  clear hr
  by_cases hm : 1048576 < len
  · go_enter Tryd.func5, Tryd.ntmps5
    go_wp2_with fail
    go_ret
    exact ⟨rfl, Below.refl _ _⟩
  · go_enter Tryd.func5, Tryd.ntmps5
    go_wp2_with fail
    refine (DrawCentreOf_any A len cap _ HR.out hc (by omega)).mono ?_
    rintro e wd ⟨nn, A', c', ws, rfl, hrw, hl10, hcc, hn0, hn7, hbd⟩
    have HRW := Lib.hid hrw
    have HBD := Lib.hid hbd
    have HTD := Lib.hid (HT.out.later hbd)
    have hzd : w.heap.size ≤ wd.heap.size := hbd.size
    clear hrw hbd
    cases hok : netOk nn ws && joins ws (span ws (allPl nn)) (allPl nn)
    · obtain ⟨f1, f2⟩ := centre_no hok
      have HC := Lib.hid f1
      have HSP := Lib.hid f2
      clear hok f1 f2
      go_wp2_with fail
      refine (CentreOf_any _ _ _ _ _ (HRW.out.later (by go_grown)) (HTD.out.later (by go_grown))).mono ?_; rintro e w1 ⟨rfl, hb1⟩
      rw [HC.out]
      obtain ⟨hc1, hf1⟩ := bcell hb1
      have hz1_0 : wd.heap.size < w1.heap.size := by have hq := hb1.size; (try simp at hq); omega
      have HK1 := Lib.hid hb1
      have HB1 := Lib.hid (bstep (B := wd.heap.size) (W := wd) (by (try have hp := HB0.out); go_grown) (by go_size) hb1); clear hb1
      go_wp2_with fail
      refine (sCentreOf_any _ _ _ _ _ (HRW.out.later (by have := HB1.out; go_grown)) (by omega)).mono ?_; rintro e w2 ⟨rfl, hb2⟩
      rw [HC.out]
      obtain ⟨hc2, hf2⟩ := bcell hb2
      have hz2_0 : wd.heap.size < w2.heap.size := by have hq := hb2.size; (try simp at hq); omega
      have HK2 := Lib.hid hb2
      have HB2 := Lib.hid (bstep (B := wd.heap.size) (W := wd) (by have hp := HB1.out; go_grown) (by go_size) hb2); clear hb2
      go_wp2_with fail
      refine (SpanTree_any _ _ _ _ _ (HRW.out.later (by have := HB2.out; go_grown)) (HTD.out.later (by have := HB2.out; go_grown))).mono ?_; rintro e w3 ⟨rfl, hb3⟩
      rw [HSP.out]
      obtain ⟨hc3, hf3⟩ := bcell hb3
      have hz3_0 : wd.heap.size < w3.heap.size := by have hq := hb3.size; (try simp at hq); omega
      have HK3 := Lib.hid hb3
      have HB3 := Lib.hid (bstep (B := wd.heap.size) (W := wd) (by have hp := HB2.out; go_grown) (by go_size) hb3); clear hb3
      go_wp2_with fail
      refine (alive_any _).mono ?_; rintro e w4 ⟨rfl, hb4⟩
      obtain ⟨hc4, hf4⟩ := bcell hb4
      have hz4_0 : wd.heap.size < w4.heap.size := by have hq := hb4.size; (try simp at hq); omega
      have HK4 := Lib.hid hb4
      have HB4 := Lib.hid (bstep (B := wd.heap.size) (W := wd) (by have hp := HB3.out; go_grown) (by go_size) hb4); clear hb4
      go_wp2_with fail
      go_ret
      exact ⟨rfl, bstep HBD.out hzd HB4.out⟩
    · obtain ⟨hno, hj⟩ : netOk nn ws = true ∧ joins ws (span ws (allPl nn)) (allPl nn) = true := by simpa using hok
      obtain ⟨m, rfl⟩ := Int.eq_ofNat_of_zero_le (show 0 ≤ nn by have := (netOk_t hno).lo; omega)
      have h6 := (netOk_t hno).hi
      have hm6 : m ≤ 6 := by omega
      obtain ⟨a, f, hw⟩ := centre_words hno hj
      have HW := Lib.hid hw
      have ham := hw.lt
      have HC := Lib.hid hw.is
      have HCA := Lib.hid (hw.cov a hw.lt)
      have hfa := hw.nn a hw.lt
      have HONE := Lib.hid hw.one
      have HMORE := Lib.hid hw.more
      have ha0 : (0 : Int) ≤ (a : Int) := by omega
      have hpa := pow_bd (a : Int) 6 (by omega)
      rw [Int.toNat_natCast] at hpa
      have HP1 : Hid (IntKind.i64.wrap (2 ^ a) = 2 ^ a) := IntWalk.i64_in _ ⟨by omega, by omega⟩
      have HP2 : Hid (wrap64 (2 ^ a) = 2 ^ a) := IntWalk.wrap64_in _ ⟨by omega, by omega⟩
      obtain ⟨X, hX⟩ : ∃ X, f a = X := ⟨_, rfl⟩
      have HX := Lib.hid hX
      rw [hX] at HCA hfa HONE HMORE
      clear hok hno hj hw hpa hX
      go_wp2_with fail
      refine (CentreOf_any _ _ _ _ _ (HRW.out.later (by go_grown)) (HTD.out.later (by go_grown))).mono ?_; rintro e w1 ⟨rfl, hb1⟩
      rw [HC.out]
      obtain ⟨hc1, hf1⟩ := bcell hb1
      have hz1_0 : wd.heap.size < w1.heap.size := by have hq := hb1.size; (try simp at hq); omega
      have HK1 := Lib.hid hb1
      have HB1 := Lib.hid (bstep (B := wd.heap.size) (W := wd) (by (try have hp := HB0.out); go_grown) (by go_size) hb1); clear hb1
      go_wp2_with fail
      refine (sCentreOf_any _ _ _ _ _ (HRW.out.later (by have := HB1.out; go_grown)) (by omega)).mono ?_; rintro e w2 ⟨rfl, hb2⟩
      rw [HC.out]
      obtain ⟨hc2, hf2⟩ := bcell hb2
      have hz2_0 : wd.heap.size < w2.heap.size := by have hq := hb2.size; (try simp at hq); omega
      have HK2 := Lib.hid hb2
      have HB2 := Lib.hid (bstep (B := wd.heap.size) (W := wd) (by have hp := HB1.out; go_grown) (by go_size) hb2); clear hb2
      have k2 : w2.cell? ⟨wd.heap.size, 0, none⟩ = some (.int .i64 (m : Int)) ∧ w2.cell? ⟨wd.heap.size, 1, none⟩ = some (.slice A' ws.length c') := ⟨by go_simp, by go_simp⟩
      obtain ⟨b0, b1⟩ := k2
      have HRR := Lib.hid (HRW.out.later HB2.out)
      clear hc1 hf1 hc2 hf2
      have hp1 := HP1.out
      have hp2 := HP2.out
      go_wp2_with fail
      refine wp_region_held_drew (S := (fun w' => w'.cell? ⟨wd.heap.size, 0, none⟩ = some (.int .i64 (m : Int)) ∧ w'.cell? ⟨wd.heap.size, 1, none⟩ = some (.slice A' ws.length c'))) (by kernel_rfl) ?_ (fun hHeld => ?_)
      · exact ⟨b0, b1⟩
      refine wpAnyH_take (i := 0) (v := ?_) rfl (by kernel_rfl) (by kernel_rfl) (by kernel_rfl) (fun _ _ _ h => h) (Or.inl ⟨by rfl, ?_⟩) (by assumption) ?_
      rotate_left
      · (intro w hSw; (try dsimp only at hSw); (try simp only [List.getElem_toArray, List.getElem_cons_succ, List.getElem_cons_zero]); first | (go_simp; done) | (go_simp; with_reducible rfl))
      try simp only [Act.put, List.getElem_toArray, List.getElem_cons_succ, List.getElem_cons_zero, List.setIfInBounds_toArray, List.set_cons_zero, List.set_cons_succ]
      refine wpAnyH_take (i := 1) (v := ?_) rfl (by kernel_rfl) (by kernel_rfl) (by kernel_rfl) (fun _ _ _ h => h) (Or.inl ⟨by rfl, ?_⟩) (by assumption) ?_
      rotate_left
      · (intro w hSw; (try dsimp only at hSw); (try simp only [List.getElem_toArray, List.getElem_cons_succ, List.getElem_cons_zero]); first | (go_simp; done) | (go_simp; with_reducible rfl))
      try simp only [Act.put, List.getElem_toArray, List.getElem_cons_succ, List.getElem_cons_zero, List.setIfInBounds_toArray, List.set_cons_zero, List.set_cons_succ]
      refine wpAnyH_take (i := 2) (v := ?_) rfl (by kernel_rfl) (by kernel_rfl) (by kernel_rfl) (fun _ _ _ h => h) (Or.inl ⟨by rfl, ?_⟩) (by assumption) ?_
      rotate_left
      · (intro w hSw; (try dsimp only at hSw); (try simp only [List.getElem_toArray, List.getElem_cons_succ, List.getElem_cons_zero]); first | (go_simp; done) | (go_simp; with_reducible rfl))
      try simp only [Act.put, List.getElem_toArray, List.getElem_cons_succ, List.getElem_cons_zero, List.setIfInBounds_toArray, List.set_cons_zero, List.set_cons_succ]
      refine wpAnyH_ready (rs := [3]) (by kernel_rfl) (by simp) ?_
      refine AllReadyH.cons rfl (fun K hK => ?_) AllReadyH.nil
      try simp only [List.getElem_toArray, List.getElem_cons_succ, List.getElem_cons_zero]
      go_simp
      go_at_call 25; refine (CoverCost_any _ _ _ _ _ _ (HRR.out.drewNR _)).mono ?_; rintro e3 w3 ⟨rfl, hb3⟩; rw [HCA.out]; have g3 : Below w2.heap.size w2 w3 := und hb3; have k3 := keep2 g3 ⟨b0, b1⟩ hz2_0; have z3 := Nat.lt_of_lt_of_le hz2_0 g3.size; have HB3 := Lib.hid (bstep (B := wd.heap.size) (W := wd) HB2.out (Nat.le_of_lt hz2_0) g3); clear hb3
      refine hK.out _ _ ?_ (fun hHeld => ?_)
      · exact k3
      clear hK K
      try simp only [Act.put, List.getElem_toArray, List.getElem_cons_succ, List.getElem_cons_zero, List.setIfInBounds_toArray, List.set_cons_zero, List.set_cons_succ]
      refine wpAnyH_take (i := 4) (v := ?_) rfl (by kernel_rfl) (by kernel_rfl) (by kernel_rfl) (fun _ _ _ h => h) (Or.inl ⟨by rfl, ?_⟩) (by assumption) ?_
      rotate_left
      · (intro w hSw; (try dsimp only at hSw); (try simp only [List.getElem_toArray, List.getElem_cons_succ, List.getElem_cons_zero]); first | (go_simp; done) | (go_simp; with_reducible rfl))
      try simp only [Act.put, List.getElem_toArray, List.getElem_cons_succ, List.getElem_cons_zero, List.setIfInBounds_toArray, List.set_cons_zero, List.set_cons_succ]
      refine wpAnyH_done (by kernel_rfl) ?_ _
      clear hp1 hp2 b0 b1 HRR
      go_wp2_with fail
      go_loopw [6] (fun i wr => ∃ k : Nat, k ≤ m ∧ i = .int .i64 k ∧ (wr.cell? ⟨wd.heap.size, 0, none⟩ = some (.int .i64 (m : Int)) ∧ wr.cell? ⟨wd.heap.size, 1, none⟩ = some (.slice A' ws.length c')) ∧ Below wd.heap.size wd wr ∧ wd.heap.size < wr.heap.size) (fun i _ => m - (intOf i).toNat)
      case atStart => exact ⟨0, Nat.zero_le _, rfl, k3, HB3.out, z3⟩
      case round =>
        clear k3 HB3 z3 HB1 HB2 hz1_0 hz2_0
        obtain ⟨k, hk, rfl, ⟨b0, b1⟩, hb, hz⟩ := hrel
        have HB0 := Lib.hid hb
        have HRR := Lib.hid (HRW.out.later hb)
        have hk0 : (0 : Int) ≤ (k : Int) := by omega
        by_cases hlt : k < m
        · have hk1 : (k : Int) < (m : Int) := by omega
          have HCK := Lib.hid (HW.out.cov k hlt)
          have hle := HW.out.least k hlt
          rw [HX.out] at hle
          obtain ⟨Y, hY⟩ : ∃ Y, f k = Y := ⟨_, rfl⟩
          rw [hY] at HCK hle
          have hd1 : decide (Y < X) = false := by simp; omega
          have hpk := pow_bd (k : Int) 6 (by omega)
          rw [Int.toNat_natCast] at hpk
          have HQ1 : Hid (IntKind.i64.wrap (2 ^ k) = 2 ^ k) := IntWalk.i64_in _ ⟨by omega, by omega⟩
          have HQ2 : Hid (wrap64 (2 ^ k) = 2 ^ k) := IntWalk.wrap64_in _ ⟨by omega, by omega⟩
          have hnlt : ¬ Y < X := by omega
          clear hY hb hpk
          have hp1 := HQ1.out
          have hp2 := HQ2.out
          go_wp2_with fail
          refine wp_region_held_drew (S := (fun w' => w'.cell? ⟨wd.heap.size, 0, none⟩ = some (.int .i64 (m : Int)) ∧ w'.cell? ⟨wd.heap.size, 1, none⟩ = some (.slice A' ws.length c'))) (by kernel_rfl) ?_ (fun hHeld => ?_)
          · exact ⟨b0, b1⟩
          refine wpAnyH_take (i := 0) (v := ?_) rfl (by kernel_rfl) (by kernel_rfl) (by kernel_rfl) (fun _ _ _ h => h) (Or.inl ⟨by rfl, ?_⟩) (by assumption) ?_
          rotate_left
          · (intro w hSw; (try dsimp only at hSw); (try simp only [List.getElem_toArray, List.getElem_cons_succ, List.getElem_cons_zero]); first | (go_simp; done) | (go_simp; with_reducible rfl))
          try simp only [Act.put, List.getElem_toArray, List.getElem_cons_succ, List.getElem_cons_zero, List.setIfInBounds_toArray, List.set_cons_zero, List.set_cons_succ]
          refine wpAnyH_take (i := 1) (v := ?_) rfl (by kernel_rfl) (by kernel_rfl) (by kernel_rfl) (fun _ _ _ h => h) (Or.inl ⟨by rfl, ?_⟩) (by assumption) ?_
          rotate_left
          · (intro w hSw; (try dsimp only at hSw); (try simp only [List.getElem_toArray, List.getElem_cons_succ, List.getElem_cons_zero]); first | (go_simp; done) | (go_simp; with_reducible rfl))
          try simp only [Act.put, List.getElem_toArray, List.getElem_cons_succ, List.getElem_cons_zero, List.setIfInBounds_toArray, List.set_cons_zero, List.set_cons_succ]
          refine wpAnyH_take (i := 2) (v := ?_) rfl (by kernel_rfl) (by kernel_rfl) (by kernel_rfl) (fun _ _ _ h => h) (Or.inl ⟨by rfl, ?_⟩) (by assumption) ?_
          rotate_left
          · (intro w hSw; (try dsimp only at hSw); (try simp only [List.getElem_toArray, List.getElem_cons_succ, List.getElem_cons_zero]); first | (go_simp; done) | (go_simp; with_reducible rfl))
          try simp only [Act.put, List.getElem_toArray, List.getElem_cons_succ, List.getElem_cons_zero, List.setIfInBounds_toArray, List.set_cons_zero, List.set_cons_succ]
          refine wpAnyH_take (i := 4) (v := ?_) rfl (by kernel_rfl) (by kernel_rfl) (by kernel_rfl) (fun _ _ _ h => h) (Or.inl ⟨by rfl, ?_⟩) (by assumption) ?_
          rotate_left
          · (intro w hSw; (try dsimp only at hSw); (try simp only [List.getElem_toArray, List.getElem_cons_succ, List.getElem_cons_zero]); first | (go_simp; done) | (go_simp; with_reducible rfl))
          try simp only [Act.put, List.getElem_toArray, List.getElem_cons_succ, List.getElem_cons_zero, List.setIfInBounds_toArray, List.set_cons_zero, List.set_cons_succ]
          refine wpAnyH_ready (rs := [3]) (by kernel_rfl) (by simp) ?_
          refine AllReadyH.cons rfl (fun K hK => ?_) AllReadyH.nil
          try simp only [List.getElem_toArray, List.getElem_cons_succ, List.getElem_cons_zero]
          go_simp
          go_at_call 25; refine (CoverCost_any _ _ _ _ _ _ (HRR.out.drewNR _)).mono ?_; rintro e3 w3 ⟨rfl, hb3⟩; rw [HCK.out]; have g3 : Below wr.heap.size wr w3 := und hb3; have k3 := keep2 g3 ⟨b0, b1⟩ hz; have z3 := Nat.lt_of_lt_of_le hz g3.size; have HB3 := Lib.hid (bstep (B := wd.heap.size) (W := wd) HB0.out (Nat.le_of_lt hz) g3); clear hb3
          refine hK.out _ _ ?_ (fun hHeld => ?_)
          · exact k3
          clear hK K
          try simp only [Act.put, List.getElem_toArray, List.getElem_cons_succ, List.getElem_cons_zero, List.setIfInBounds_toArray, List.set_cons_zero, List.set_cons_succ]
          refine wpAnyH_take (i := 5) (v := ?_) rfl (by kernel_rfl) (by kernel_rfl) (by kernel_rfl) (fun _ _ _ h => h) (Or.inl ⟨by rfl, ?_⟩) (by assumption) ?_
          rotate_left
          · (intro w hSw; (try dsimp only at hSw); (try simp only [List.getElem_toArray, List.getElem_cons_succ, List.getElem_cons_zero]); first | (go_simp; done) | (go_simp; with_reducible rfl))
          try simp only [Act.put, List.getElem_toArray, List.getElem_cons_succ, List.getElem_cons_zero, List.setIfInBounds_toArray, List.set_cons_zero, List.set_cons_succ]
          refine wpAnyH_done (by kernel_rfl) ?_ _
          clear hp1 hp2
          go_wp2_with fail
          go_roundw
          case rel => exact ⟨k + 1, by omega, by go_num, k3, HB3.out, z3⟩
          case measure => (simp [intOf]) <;> omega
        · obtain rfl : k = m := by omega
          have hx0 := hfa.1
          have hx9 := hfa.2
          clear hb
          by_cases hz0 : X = 0
          · subst hz0
            go_wp2_with fail
            refine (FewestEnds_any _ _ _ _ _ _ HRR.out).mono ?_; rintro e5 w5 ⟨rfl, hb5⟩; rw [HONE.out]
            have HB5 := Lib.hid (bstep (B := wd.heap.size) (W := wd) HB0.out HB0.out.size hb5)
            clear hb5
            go_wp2_with fail
            go_ret
            exact ⟨rfl, bstep HBD.out hzd HB5.out⟩
          · have hzz : (X == 0) = false := by simpa using hz0
            have HM := Lib.hid (HMORE.out (by omega))
            obtain ⟨Q, hQ⟩ : ∃ Q, fewestEnds (k : Int) ws (X - 1) = Q := ⟨_, rfl⟩
            have HQ := Lib.hid hQ
            rw [hQ] at HM
            have hq1 : decide (1 < Q) = true := by simpa using HM.out
            have hq2 : 1 < Q := HM.out
            have HS1 : Hid (IntKind.i64.wrap (X - 1) = X - 1) := IntWalk.i64_in _ ⟨by omega, by omega⟩
            have HS2 : Hid (wrap64 (X - 1) = X - 1) := IntWalk.wrap64_in _ ⟨by omega, by omega⟩
            clear hQ
            go_wp2_with fail
            refine (FewestEnds_any _ _ _ _ _ _ HRR.out).mono ?_; rintro e5 w5 ⟨rfl, hb5⟩; rw [HONE.out]
            have k5 := keep2 hb5 ⟨b0, b1⟩ hz
            have HR5 := Lib.hid (HRR.out.later hb5)
            have HB5 := Lib.hid (bstep (B := wd.heap.size) (W := wd) HB0.out HB0.out.size hb5)
            clear hb5
            obtain ⟨k50, k51⟩ := k5
            have hs1 := HS1.out
            have hs2 := HS2.out
            go_wp2_with fail
            refine (FewestEnds_any _ _ _ _ _ _ HR5.out).mono ?_; rintro e6 w6 ⟨rfl, hb6⟩; rw [HQ.out]
            have HB6 := Lib.hid (bstep (B := wd.heap.size) (W := wd) HB5.out HB5.out.size hb6)
            clear hb6 hs1 hs2
            go_wp2_with fail
            go_ret
            exact ⟨rfl, bstep HBD.out hzd HB6.out⟩
end Go.Proofs.YthadehgpeafniaaDoor
