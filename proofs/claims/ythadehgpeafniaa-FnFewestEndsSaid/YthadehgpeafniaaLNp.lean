/- Walk of the law FnFewestEnds. -/
import Derived.Test.YthadehgpeafniaaNxI
import Derived.Test.YthadehgpeafniaaNxD
import Derived.Test.YthadehgpeafniaaWC
import Derived.Test.YthadehgpeafniaaMC
import Derived.Test.YthadehgpeafniaaME
import Derived.Test.YthadehgpeafniaaWNa
import Derived.Test.YthadehgpeafniaaWNb
import Derived.Test.YthadehgpeafniaaNxE
import Derived.Test.YthadehgpeafniaaMD
set_option linter.unusedSimpArgs false
set_option linter.unusedVariables false
attribute [local go_sem ↓] Go.wp_at_zero Go.wp_at_succ
namespace Go.Proofs.Ythadehgpeafniaa
open Go.ChangeShapes Go.WideShapes Go.ChangeAt Go.RowKit

structure FeW (m : Nat) (ws : List Wy) (far N P : Int) : Prop where
  m2 : 2 ≤ m
  m6 : m ≤ 6
  f0 : 0 ≤ far
  p0 : 0 ≤ P
  pn : P ≤ N
  nm : N ≤ m
  more : ∃ M, fewestEnds (m : Int) ws (far + 1) = M ∧ M ≤ N
  all : fewestEnds (m : Int) ws 81 = P
theorem fewest_minus {n : Int} {ws : List Wy} {c : Int} (h : fewestEnds n ws c < 0) : fewestEnds n ws c = -1 := by
  unfold fewestEnds at h ⊢
  split at h
  · rename_i h1
    rw [Bool.and_eq_true, decide_eq_true_eq] at h1
    have hn := netOk_t h1.1
    have h2 := hn.lo
    have h6 := hn.hi
    obtain ⟨m, rfl⟩ := Int.eq_ofNat_of_zero_le (show 0 ≤ n by omega)
    rw [Int.toNat_natCast] at h
    obtain ⟨e, e0, e1, -, he⟩ := fe_ex (F := farF ws m) (show 0 < m by omega) (fun a ha => farF_diag hn ha) (by omega) h1.2
    have := (pop_bd e).1
    omega
  · rename_i h1; rw [if_neg h1]
theorem fewest_words {n : Int} {ws : List Wy} {far N : Int} (hN : fewestEnds n ws far = N) (h : ¬ N < 0) : ∃ m : Nat, n = m ∧ netOk (m : Int) ws = true ∧ FeW m ws far N (partsAll ws m) := by
  have hok : (netOk n ws && decide (0 ≤ far)) = true := by
    cases h1 : netOk n ws && decide (0 ≤ far)
    · exfalso; unfold fewestEnds at hN; rw [if_neg (by rw [h1]; simp)] at hN; omega
    · rfl
  obtain ⟨hno, hf0⟩ : netOk n ws = true ∧ 0 ≤ far := by simpa using hok
  have hn := netOk_t hno
  have h2 := hn.lo
  have h6 := hn.hi
  obtain ⟨m, rfl⟩ := Int.eq_ofNat_of_zero_le (show 0 ≤ n by omega)
  have hd : ∀ a, a < m → farF ws m a a = 0 := fun a ha => farF_diag hn ha
  have hfe : ∀ c : Int, 0 ≤ c → fewestEnds (m : Int) ws c = fe (farF ws m) m c := fun c c0 => by
    unfold fewestEnds
    rw [hno, decide_eq_true c0, if_pos (show (true && true) = true from rfl), Int.toNat_natCast]
  rw [hfe far hf0] at hN
  obtain ⟨e, e0, e1, hc, he⟩ := fe_ex (F := farF ws m) (show 0 < m by omega) hd (by omega) hf0
  have hple := parts_le hn e0 e1 hc
  obtain ⟨u, u0, u1, hu, hup⟩ := parts_cov hn
  obtain ⟨v, v0, v1, hv, hve⟩ := fe_ex (F := farF ws m) (show 0 < m by omega) hd (by omega) (show (0 : Int) ≤ 81 by omega)
  have h81 := fe_le (F := farF ws m) (show 0 < m by omega) u0 u1 hu
  have h82 := parts_le hn v0 v1 hv
  have hpb := cnB_bd (lowB ws (full ws.length)) m
  refine ⟨m, rfl, hno, by omega, by omega, hf0, hpb.1, by omega, ?_, ⟨_, rfl, ?_⟩, ?_⟩
  · rw [← hN]; exact (feTo_ok (farF ws m) m far (2 ^ m)).1
  · rw [hfe _ (by omega), ← hN]; exact fe_mono (F := farF ws m) (show 0 < m by omega) hd (by omega) hf0 (by omega)
  · rw [hfe _ (by omega)]; omega
theorem reach_full {m : Nat} {ws : List Wy} (hno : netOk (m : Int) ws = true) {k : Nat} (hk : k < m) : reachOf (m : Int) ws (full ws.length) (k : Int) = reach ws (full ws.length) (k : Int) := by
  have hfb := full_bd ws.length (netOk_t hno).len
  unfold reachOf
  rw [if_pos ⟨setOk_mk hno hfb.1 (Int.le_refl _), by unfold hasPl; rw [decide_eq_true (by omega : (0 : Int) ≤ k), decide_eq_true (by omega : (k : Int) < m)]; rfl⟩]
set_option maxRecDepth 100000 in
set_option maxHeartbeats 2000000 in
theorem FnFewestEnds_walk (A : Option Addr) (len cap : Nat) (w : World) (hr : RB w w.heap.size A len) (hc : len ≤ cap) (hlen : len ≤ 9223372036854775807) :
    Calls Try.prog 6 #[.slice A len cap] w fun e w' => e = .returned (.bool true) ∧ Below w.heap.size w w' := by
  have HR := Lib.hid hr
  clear hr
  by_cases hm : 1048576 < len
  · go_enter Try.func6, Try.ntmps6
    go_wp2_with fail
    go_ret
    exact ⟨rfl, Below.refl _ _⟩
  · go_enter Try.func6, Try.ntmps6
    go_wp2_with fail
    refine (DrawFewestEnds_any A len cap _ HR.out hc (by omega)).mono ?_
    rintro e wd ⟨nn, far, A', c', ws, rfl, hrw, hl10, hcc, hn0, hn7, hf0, hf1, hbd⟩
    have HRW := Lib.hid hrw
    have HBD := Lib.hid hbd
    have hzd : w.heap.size ≤ wd.heap.size := hbd.size
    clear hrw hbd
    obtain ⟨N, hN⟩ : ∃ x, fewestEnds nn ws far = x := ⟨_, rfl⟩
    have HN := Lib.hid hN
    by_cases hneg : N < 0
    · have h1 := fewest_minus (n := nn) (ws := ws) (c := far) (by rw [hN]; exact hneg)
      rw [hN] at h1
      subst h1
      clear hN
      go_wp2_with fail
      refine (FewestEnds_any _ _ _ _ _ _ (HRW.out.later (by go_grown))).mono ?_; rintro e w1 ⟨rfl, hb1⟩
      rw [HN.out]
      obtain ⟨hc1, hf1⟩ := bcell hb1
      have hz1_0 : wd.heap.size < w1.heap.size := by have hq := hb1.size; (try simp at hq); omega
      have HK1 := Lib.hid hb1
      have HB1 := Lib.hid (bstep (B := wd.heap.size) (W := wd) (by (try have hp := HB0.out); go_grown) (by go_size) hb1); clear hb1
      go_wp2_with fail
      refine (sFewestEnds_any _ _ _ _ _ _ (HRW.out.later (by have := HB1.out; go_grown)) (by omega)).mono ?_; rintro e w2 ⟨rfl, hb2⟩
      rw [HN.out]
      obtain ⟨hc2, hf2⟩ := bcell hb2
      have hz2_0 : wd.heap.size < w2.heap.size := by have hq := hb2.size; (try simp at hq); omega
      have HK2 := Lib.hid hb2
      have HB2 := Lib.hid (bstep (B := wd.heap.size) (W := wd) (by have hp := HB1.out; go_grown) (by go_size) hb2); clear hb2
      go_wp2_with fail
      refine (alive_any _).mono ?_; rintro e w3 ⟨rfl, hb3⟩
      obtain ⟨hc3, hf3⟩ := bcell hb3
      have hz3_0 : wd.heap.size < w3.heap.size := by have hq := hb3.size; (try simp at hq); omega
      have HK3 := Lib.hid hb3
      have HB3 := Lib.hid (bstep (B := wd.heap.size) (W := wd) (by have hp := HB2.out; go_grown) (by go_size) hb3); clear hb3
      go_wp2_with fail
      go_ret
      exact ⟨rfl, bstep HBD.out hzd HB3.out⟩
    · obtain ⟨m, rfl, hno, hw⟩ := fewest_words hN hneg
      have HNO := Lib.hid hno
      obtain ⟨P, hP⟩ : ∃ P, partsAll ws m = P := ⟨_, rfl⟩
      rw [hP] at hw
      have HP := Lib.hid hP
      obtain ⟨m2, m6, hf9, p0, pn, nm, ⟨M, hM, hMN⟩, hall⟩ := hw
      have HMM := Lib.hid hM
      have HAL := Lib.hid hall
      have hnet := netOk_t hno
      have HNT := Lib.hid hnet
      have hl9 := hnet.len
      have hfb := full_bd ws.length hl9
      have hpl := pow_bd (ws.length : Int) 9 (by omega)
      rw [Int.toNat_natCast] at hpl
      obtain ⟨AL, hAL⟩ : ∃ AL : Int, full ws.length = AL := ⟨_, rfl⟩
      have HALL := Lib.hid hAL
      have HP1 : Hid (IntKind.i64.wrap (2 ^ ws.length) = 2 ^ ws.length) := IntWalk.i64_in _ ⟨by omega, by omega⟩
      have HP2 : Hid (wrap64 (2 ^ ws.length) = 2 ^ ws.length) := IntWalk.wrap64_in _ ⟨by omega, by omega⟩
      have HP3 : Hid (IntKind.i64.wrap (2 ^ ws.length - 1) = AL) := by show _ = _; rw [← hAL]; unfold full; exact IntWalk.i64_in _ ⟨by omega, by omega⟩
      have HP4 : Hid (wrap64 (2 ^ ws.length - 1) = AL) := by show _ = _; rw [← hAL]; unfold full; exact IntWalk.wrap64_in _ ⟨by omega, by omega⟩
      clear hN hM hall hpl hP hno hnet hAL
      go_wp2_with fail
      refine (FewestEnds_any _ _ _ _ _ _ (HRW.out.later (by go_grown))).mono ?_; rintro e w1 ⟨rfl, hb1⟩
      rw [HN.out]
      obtain ⟨hc1, hf1⟩ := bcell hb1
      have hz1_0 : wd.heap.size < w1.heap.size := by have hq := hb1.size; (try simp at hq); omega
      have HK1 := Lib.hid hb1
      have HB1 := Lib.hid (bstep (B := wd.heap.size) (W := wd) (by (try have hp := HB0.out); go_grown) (by go_size) hb1); clear hb1
      go_wp2_with fail
      refine (sFewestEnds_any _ _ _ _ _ _ (HRW.out.later (by have := HB1.out; go_grown)) (by omega)).mono ?_; rintro e w2 ⟨rfl, hb2⟩
      rw [HN.out]
      obtain ⟨hc2, hf2⟩ := bcell hb2
      have hz2_0 : wd.heap.size < w2.heap.size := by have hq := hb2.size; (try simp at hq); omega
      have HK2 := Lib.hid hb2
      have HB2 := Lib.hid (bstep (B := wd.heap.size) (W := wd) (by have hp := HB1.out; go_grown) (by go_size) hb2); clear hb2
      have k2 : w2.cell? ⟨wd.heap.size, 0, none⟩ = some (.int .i64 (m : Int)) ∧ w2.cell? ⟨wd.heap.size, 1, none⟩ = some (.slice A' ws.length c') := ⟨by go_simp, by go_simp⟩
      obtain ⟨k20, k21⟩ := k2
      have p1 := HP1.out
      have p2 := HP2.out
      have p3 := HP3.out
      have p4 := HP4.out
      clear hc1 hf1 hc2 hf2
      go_wp2_with fail
      clear p1 p2 p3 p4
      go_loopw [7, 8] (fun v7 v8 wr => ∃ k : Nat, k ≤ m ∧ v8 = .int .i64 k ∧ v7 = .int .i64 (cnB (lowB ws (full ws.length)) k) ∧ wr.cell? ⟨wd.heap.size, 0, none⟩ = some (.int .i64 (m : Int)) ∧ wr.cell? ⟨wd.heap.size, 1, none⟩ = some (.slice A' ws.length c') ∧ Below wd.heap.size wd wr ∧ wd.heap.size < wr.heap.size) (fun _ v _ => m - (intOf v).toNat)
      case atStart => exact ⟨0, Nat.zero_le _, rfl, rfl, k20, k21, HB2.out, hz2_0⟩
      case round =>
        clear k20 k21
        obtain ⟨k, hk, rfl, hv7, b0, b1, hb, hz⟩ := hrel
        have HB0 := Lib.hid hb
        have HRR := Lib.hid (HRW.out.later hb)
        obtain ⟨T, hT9⟩ : ∃ T, cnB (lowB ws (full ws.length)) k = T := ⟨_, rfl⟩
        have hTb := cnB_bd (lowB ws (full ws.length)) k
        rw [hT9] at hv7 hTb
        subst hv7
        have hk0 : (0 : Int) ≤ (k : Int) := by omega
        by_cases hlt : k < m
        · have hk1 : (k : Int) < (m : Int) := by omega
          have hre := reach_is (s := full ws.length) HNT.out (p := (k : Int)) (by omega) (by omega)
          obtain ⟨R, hR⟩ : ∃ R, reach ws (full ws.length) (k : Int) = R := ⟨_, rfl⟩
          have HRO : Hid (reachOf (m : Int) ws AL (k : Int) = R) := by show _ = _; rw [← HALL.out, reach_full HNO.out hlt]; exact hR
          have hpk := pow_bd (k : Int) 6 (by omega)
          rw [Int.toNat_natCast] at hpk
          have hR0 : 0 ≤ R := by rw [← hR]; exact hre.lo
          have hR1 : R ≤ 1048576 := by rw [← hR]; have := hre.hi; omega
          have hlo : lowB ws (full ws.length) k = decide (iand R (2 ^ k - 1) = 0) := by unfold lowB; rw [hR]
          have hst : cnB (lowB ws (full ws.length)) (k + 1) = T + if lowB ws (full ws.length) k = true then 1 else 0 := by rw [← hT9]; rfl
          have HW1 : Hid (IntKind.i64.wrap (2 ^ k) = 2 ^ k) := IntWalk.i64_in _ ⟨by omega, by omega⟩
          have HW2 : Hid (wrap64 (2 ^ k) = 2 ^ k) := IntWalk.wrap64_in _ ⟨by omega, by omega⟩
          have HW3 : Hid (IntKind.i64.wrap (2 ^ k - 1) = 2 ^ k - 1) := IntWalk.i64_in _ ⟨by omega, by omega⟩
          have HW4 : Hid (wrap64 (2 ^ k - 1) = 2 ^ k - 1) := IntWalk.wrap64_in _ ⟨by omega, by omega⟩
          have han0 : bits .and .i64 R (2 ^ k - 1) = iand R (2 ^ k - 1) := bits_and _ _ hR0 (by omega) (by omega) (by omega)
          obtain ⟨I, hI⟩ : ∃ I, iand R (2 ^ k - 1) = I := ⟨_, rfl⟩
          rw [hI] at han0 hlo
          have HAN := Lib.hid han0
          by_cases hI0 : I = 0
          · have HST : Hid (cnB (lowB ws (full ws.length)) (k + 1) = T + 1) := by show _ = _; rw [hst, hlo, decide_eq_true hI0]; rfl
            have i1 : (I == 0) = true := by rw [hI0]; rfl
            have hwt1 : IntKind.i64.wrap (T + 1) = T + 1 := IntWalk.i64_in _ ⟨by omega, by omega⟩
            have hwt2 : wrap64 (T + 1) = T + 1 := IntWalk.wrap64_in _ ⟨by omega, by omega⟩
            clear hre hR hpk hlo hst han0 hI hb hT9 hI0
            have hw1 := HW1.out
            have hw2 := HW2.out
            have hw3 := HW3.out
            have hw4 := HW4.out
            have han := HAN.out
            go_wp2_with fail
            refine wp_region_held_drew (S := (fun w' => w'.cell? ⟨wd.heap.size, 0, none⟩ = some (.int .i64 (m : Int)) ∧ w'.cell? ⟨wd.heap.size, 1, none⟩ = some (.slice A' ws.length c'))) (by kernel_rfl) ?_ (fun hHeld => ?_)
            · exact ⟨b0, b1⟩
            refine wpAnyH_take (i := 0) (v := ?_) rfl (by kernel_rfl) (by kernel_rfl) (by kernel_rfl) (fun _ _ _ h => h) (Or.inl ⟨by rfl, ?_⟩) (by assumption) ?_
            rotate_left
            · (intro w hSw; (try dsimp only at hSw); (try simp only [List.getElem_toArray, List.getElem_cons_succ, List.getElem_cons_zero]); first | (go_simp; done) | (go_simp; with_reducible rfl))
            try simp only [Act.put, List.getElem_toArray, List.getElem_cons_succ, List.getElem_cons_zero, List.setIfInBounds_toArray, List.set_cons_zero, List.set_cons_succ]
            refine wpAnyH_take (i := 1) (v := ?_) rfl (by kernel_rfl) (by kernel_rfl) (by kernel_rfl) (fun _ _ _ h => h) (Or.inl ⟨by rfl, ?_⟩) (by assumption) ?_
            rotate_left
            · (intro w hSw; (try dsimp only at hSw); (try simp only [List.getElem_toArray, List.getElem_cons_succ, List.getElem_cons_zero]); first | (go_simp; done) | (go_simp; with_reducible rfl))
            try simp only [Act.put, List.getElem_toArray, List.getElem_cons_succ, List.getElem_cons_zero, List.setIfInBounds_toArray, List.set_cons_zero, List.set_cons_succ]
            refine wpAnyH_take (i := 2) (v := ?_) rfl (by kernel_rfl) (by kernel_rfl) (by kernel_rfl) (fun _ _ _ h => h) (Or.inl ⟨by rfl, ?_⟩) (by assumption) ?_
            rotate_left
            · (intro w hSw; (try dsimp only at hSw); (try simp only [List.getElem_toArray, List.getElem_cons_succ, List.getElem_cons_zero]); first | (go_simp; done) | (go_simp; with_reducible rfl))
            try simp only [Act.put, List.getElem_toArray, List.getElem_cons_succ, List.getElem_cons_zero, List.setIfInBounds_toArray, List.set_cons_zero, List.set_cons_succ]
            refine wpAnyH_take (i := 4) (v := ?_) rfl (by kernel_rfl) (by kernel_rfl) (by kernel_rfl) (fun _ _ _ h => h) (Or.inl ⟨by rfl, ?_⟩) (by assumption) ?_
            rotate_left
            · (intro w hSw; (try dsimp only at hSw); (try simp only [List.getElem_toArray, List.getElem_cons_succ, List.getElem_cons_zero]); first | (go_simp; done) | (go_simp; with_reducible rfl))
            try simp only [Act.put, List.getElem_toArray, List.getElem_cons_succ, List.getElem_cons_zero, List.setIfInBounds_toArray, List.set_cons_zero, List.set_cons_succ]
            refine wpAnyH_take (i := 5) (v := ?_) rfl (by kernel_rfl) (by kernel_rfl) (by kernel_rfl) (fun _ _ _ h => h) (Or.inl ⟨by rfl, ?_⟩) (by assumption) ?_
            rotate_left
            · (intro w hSw; (try dsimp only at hSw); (try simp only [List.getElem_toArray, List.getElem_cons_succ, List.getElem_cons_zero]); first | (go_simp; done) | (go_simp; with_reducible rfl))
            try simp only [Act.put, List.getElem_toArray, List.getElem_cons_succ, List.getElem_cons_zero, List.setIfInBounds_toArray, List.set_cons_zero, List.set_cons_succ]
            refine wpAnyH_take (i := 6) (v := ?_) rfl (by kernel_rfl) (by kernel_rfl) (by kernel_rfl) (fun _ _ _ h => h) (Or.inl ⟨by rfl, ?_⟩) (by assumption) ?_
            rotate_left
            · (intro w hSw; (try dsimp only at hSw); (try simp only [List.getElem_toArray, List.getElem_cons_succ, List.getElem_cons_zero]); first | (go_simp; done) | (go_simp; with_reducible rfl))
            try simp only [Act.put, List.getElem_toArray, List.getElem_cons_succ, List.getElem_cons_zero, List.setIfInBounds_toArray, List.set_cons_zero, List.set_cons_succ]
            refine wpAnyH_ready (rs := [3]) (by kernel_rfl) (by simp) ?_
            refine AllReadyH.cons rfl (fun K hK => ?_) AllReadyH.nil
            try simp only [List.getElem_toArray, List.getElem_cons_succ, List.getElem_cons_zero]
            go_simp
            go_at_call 26; refine (ReachOf_any _ _ _ _ _ _ _ (HRR.out.drewNR _)).mono ?_; rintro e3 w4 ⟨rfl, hb4⟩; rw [HRO.out]; have g4 : Below wr.heap.size wr w4 := und hb4; have k4 := keep2 g4 ⟨b0, b1⟩ hz; clear hb4
            refine hK.out _ _ ?_ (fun hHeld => ?_)
            · exact k4
            clear hK K
            try simp only [Act.put, List.getElem_toArray, List.getElem_cons_succ, List.getElem_cons_zero, List.setIfInBounds_toArray, List.set_cons_zero, List.set_cons_succ]
            refine wpAnyH_take (i := 7) (v := ?_) rfl (by kernel_rfl) (by kernel_rfl) (by kernel_rfl) (fun _ _ _ h => h) (Or.inl ⟨by rfl, ?_⟩) (by assumption) ?_
            rotate_left
            · (intro w hSw; (try dsimp only at hSw); (try simp only [List.getElem_toArray, List.getElem_cons_succ, List.getElem_cons_zero]); first | (go_simp; done) | (go_simp; with_reducible rfl))
            try simp only [Act.put, List.getElem_toArray, List.getElem_cons_succ, List.getElem_cons_zero, List.setIfInBounds_toArray, List.set_cons_zero, List.set_cons_succ]
            refine wpAnyH_take (i := 8) (v := ?_) rfl (by kernel_rfl) (by kernel_rfl) (by kernel_rfl) (fun _ _ _ h => h) (Or.inl ⟨by rfl, ?_⟩) (by assumption) ?_
            rotate_left
            · (intro w hSw; (try dsimp only at hSw); (try simp only [List.getElem_toArray, List.getElem_cons_succ, List.getElem_cons_zero]); first | (go_simp; done) | (go_simp; with_reducible rfl))
            try simp only [Act.put, List.getElem_toArray, List.getElem_cons_succ, List.getElem_cons_zero, List.setIfInBounds_toArray, List.set_cons_zero, List.set_cons_succ]
            refine wpAnyH_done (by kernel_rfl) ?_ _
            clear hw1 hw2 hw3 hw4 han
            go_wp2_with fail
            go_roundw
            case rel => exact ⟨k + 1, by omega, by go_num, by rw [HST.out], k4.1, k4.2, bstep HB0.out (Nat.le_of_lt hz) g4, Nat.lt_of_lt_of_le hz g4.size⟩
            case measure => (simp [intOf]) <;> omega
          · have HST : Hid (cnB (lowB ws (full ws.length)) (k + 1) = T) := by show _ = _; rw [hst, hlo, decide_eq_false hI0]; simp
            have i1 : (I == 0) = false := by rw [beq_eq_false_iff_ne]; exact hI0
            clear hre hR hpk hlo hst han0 hI hb hT9 hI0
            have hw1 := HW1.out
            have hw2 := HW2.out
            have hw3 := HW3.out
            have hw4 := HW4.out
            have han := HAN.out
            go_wp2_with fail
            refine wp_region_held_drew (S := (fun w' => w'.cell? ⟨wd.heap.size, 0, none⟩ = some (.int .i64 (m : Int)) ∧ w'.cell? ⟨wd.heap.size, 1, none⟩ = some (.slice A' ws.length c'))) (by kernel_rfl) ?_ (fun hHeld => ?_)
            · exact ⟨b0, b1⟩
            refine wpAnyH_take (i := 0) (v := ?_) rfl (by kernel_rfl) (by kernel_rfl) (by kernel_rfl) (fun _ _ _ h => h) (Or.inl ⟨by rfl, ?_⟩) (by assumption) ?_
            rotate_left
            · (intro w hSw; (try dsimp only at hSw); (try simp only [List.getElem_toArray, List.getElem_cons_succ, List.getElem_cons_zero]); first | (go_simp; done) | (go_simp; with_reducible rfl))
            try simp only [Act.put, List.getElem_toArray, List.getElem_cons_succ, List.getElem_cons_zero, List.setIfInBounds_toArray, List.set_cons_zero, List.set_cons_succ]
            refine wpAnyH_take (i := 1) (v := ?_) rfl (by kernel_rfl) (by kernel_rfl) (by kernel_rfl) (fun _ _ _ h => h) (Or.inl ⟨by rfl, ?_⟩) (by assumption) ?_
            rotate_left
            · (intro w hSw; (try dsimp only at hSw); (try simp only [List.getElem_toArray, List.getElem_cons_succ, List.getElem_cons_zero]); first | (go_simp; done) | (go_simp; with_reducible rfl))
            try simp only [Act.put, List.getElem_toArray, List.getElem_cons_succ, List.getElem_cons_zero, List.setIfInBounds_toArray, List.set_cons_zero, List.set_cons_succ]
            refine wpAnyH_take (i := 2) (v := ?_) rfl (by kernel_rfl) (by kernel_rfl) (by kernel_rfl) (fun _ _ _ h => h) (Or.inl ⟨by rfl, ?_⟩) (by assumption) ?_
            rotate_left
            · (intro w hSw; (try dsimp only at hSw); (try simp only [List.getElem_toArray, List.getElem_cons_succ, List.getElem_cons_zero]); first | (go_simp; done) | (go_simp; with_reducible rfl))
            try simp only [Act.put, List.getElem_toArray, List.getElem_cons_succ, List.getElem_cons_zero, List.setIfInBounds_toArray, List.set_cons_zero, List.set_cons_succ]
            refine wpAnyH_take (i := 4) (v := ?_) rfl (by kernel_rfl) (by kernel_rfl) (by kernel_rfl) (fun _ _ _ h => h) (Or.inl ⟨by rfl, ?_⟩) (by assumption) ?_
            rotate_left
            · (intro w hSw; (try dsimp only at hSw); (try simp only [List.getElem_toArray, List.getElem_cons_succ, List.getElem_cons_zero]); first | (go_simp; done) | (go_simp; with_reducible rfl))
            try simp only [Act.put, List.getElem_toArray, List.getElem_cons_succ, List.getElem_cons_zero, List.setIfInBounds_toArray, List.set_cons_zero, List.set_cons_succ]
            refine wpAnyH_take (i := 5) (v := ?_) rfl (by kernel_rfl) (by kernel_rfl) (by kernel_rfl) (fun _ _ _ h => h) (Or.inl ⟨by rfl, ?_⟩) (by assumption) ?_
            rotate_left
            · (intro w hSw; (try dsimp only at hSw); (try simp only [List.getElem_toArray, List.getElem_cons_succ, List.getElem_cons_zero]); first | (go_simp; done) | (go_simp; with_reducible rfl))
            try simp only [Act.put, List.getElem_toArray, List.getElem_cons_succ, List.getElem_cons_zero, List.setIfInBounds_toArray, List.set_cons_zero, List.set_cons_succ]
            refine wpAnyH_take (i := 6) (v := ?_) rfl (by kernel_rfl) (by kernel_rfl) (by kernel_rfl) (fun _ _ _ h => h) (Or.inl ⟨by rfl, ?_⟩) (by assumption) ?_
            rotate_left
            · (intro w hSw; (try dsimp only at hSw); (try simp only [List.getElem_toArray, List.getElem_cons_succ, List.getElem_cons_zero]); first | (go_simp; done) | (go_simp; with_reducible rfl))
            try simp only [Act.put, List.getElem_toArray, List.getElem_cons_succ, List.getElem_cons_zero, List.setIfInBounds_toArray, List.set_cons_zero, List.set_cons_succ]
            refine wpAnyH_ready (rs := [3]) (by kernel_rfl) (by simp) ?_
            refine AllReadyH.cons rfl (fun K hK => ?_) AllReadyH.nil
            try simp only [List.getElem_toArray, List.getElem_cons_succ, List.getElem_cons_zero]
            go_simp
            go_at_call 26; refine (ReachOf_any _ _ _ _ _ _ _ (HRR.out.drewNR _)).mono ?_; rintro e3 w4 ⟨rfl, hb4⟩; rw [HRO.out]; have g4 : Below wr.heap.size wr w4 := und hb4; have k4 := keep2 g4 ⟨b0, b1⟩ hz; clear hb4
            refine hK.out _ _ ?_ (fun hHeld => ?_)
            · exact k4
            clear hK K
            try simp only [Act.put, List.getElem_toArray, List.getElem_cons_succ, List.getElem_cons_zero, List.setIfInBounds_toArray, List.set_cons_zero, List.set_cons_succ]
            refine wpAnyH_take (i := 7) (v := ?_) rfl (by kernel_rfl) (by kernel_rfl) (by kernel_rfl) (fun _ _ _ h => h) (Or.inl ⟨by rfl, ?_⟩) (by assumption) ?_
            rotate_left
            · (intro w hSw; (try dsimp only at hSw); (try simp only [List.getElem_toArray, List.getElem_cons_succ, List.getElem_cons_zero]); first | (go_simp; done) | (go_simp; with_reducible rfl))
            try simp only [Act.put, List.getElem_toArray, List.getElem_cons_succ, List.getElem_cons_zero, List.setIfInBounds_toArray, List.set_cons_zero, List.set_cons_succ]
            refine wpAnyH_take (i := 8) (v := ?_) rfl (by kernel_rfl) (by kernel_rfl) (by kernel_rfl) (fun _ _ _ h => h) (Or.inl ⟨by rfl, ?_⟩) (by assumption) ?_
            rotate_left
            · (intro w hSw; (try dsimp only at hSw); (try simp only [List.getElem_toArray, List.getElem_cons_succ, List.getElem_cons_zero]); first | (go_simp; done) | (go_simp; with_reducible rfl))
            try simp only [Act.put, List.getElem_toArray, List.getElem_cons_succ, List.getElem_cons_zero, List.setIfInBounds_toArray, List.set_cons_zero, List.set_cons_succ]
            refine wpAnyH_done (by kernel_rfl) ?_ _
            clear hw1 hw2 hw3 hw4 han
            go_wp2_with fail
            go_roundw
            case rel => exact ⟨k + 1, by omega, by go_num, by rw [HST.out], k4.1, k4.2, bstep HB0.out (Nat.le_of_lt hz) g4, Nat.lt_of_lt_of_le hz g4.size⟩
            case measure => (simp [intOf]) <;> omega
        · obtain rfl : k = m := by omega
          have hkk : ¬ (k : Int) < (k : Int) := by omega
          have HTP : Hid (T = P) := by show _ = _; rw [← hT9, ← HP.out]; rfl
          have q1 : IntKind.i64.wrap (far + 1) = far + 1 := IntWalk.i64_in _ ⟨by omega, by omega⟩
          have q2 : wrap64 (far + 1) = far + 1 := IntWalk.wrap64_in _ ⟨by omega, by omega⟩
          have hnk : N ≤ (k : Int) := nm
          have htn : T ≤ N := by rw [HTP.out]; exact pn
          have htp : (P == T) = true := by rw [HTP.out]; simp
          clear hT9 hb
          go_wp2_with fail
          refine (FewestEnds_any _ _ _ _ _ _ HRR.out).mono ?_; rintro e5 w5 ⟨rfl, hb5⟩; rw [HMM.out]
          have k5 := keep2 hb5 ⟨b0, b1⟩ hz
          obtain ⟨k50, k51⟩ := k5
          have HR5 := Lib.hid (HRR.out.later hb5)
          have HB5 := Lib.hid (bstep (B := wd.heap.size) (W := wd) HB0.out (Nat.le_of_lt hz) hb5)
          have hz5 := Nat.lt_of_lt_of_le hz hb5.size
          clear hb5
          go_wp2_with fail
          refine (FewestEnds_any _ _ _ _ _ _ HR5.out).mono ?_; rintro e6 w6 ⟨rfl, hb6⟩; rw [HAL.out]
          have HB6 := Lib.hid (bstep (B := wd.heap.size) (W := wd) HB5.out (Nat.le_of_lt hz5) hb6)
          clear hb6
          go_wp2_with fail
          go_ret
          exact ⟨rfl, bstep HBD.out hzd HB6.out⟩
end Go.Proofs.Ythadehgpeafniaa
