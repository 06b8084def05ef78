/- The law of DegreeRow: each way is counted at both places; leaves have one, forks three or more, places of the set one or more. -/
import Derived.Test.YtnbihejoglgdhaaChJ
import Derived.Test.YtnbihejoglgdhaaChD
import Derived.Test.YtnbihejoglgdhaaChC
import Derived.Test.YtnbihejoglgdhaaWVf
import Derived.Test.YtnbihejoglgdhaaWL
import Derived.Test.YtnbihejoglgdhaaWG
import Derived.Test.YtnbihejoglgdhaaWS
import Derived.Test.YtnbihejoglgdhaaLN
import Derived.Test.YtnbihejoglgdhaaLO
set_option linter.unusedSimpArgs false
set_option linter.unusedVariables false
namespace Go.Proofs.Ytnbihejoglgdhaa
open Go.ChangeShapes Go.WideShapes Go.ChangeAt Go.RowKit

set_option maxRecDepth 100000 in
set_option maxHeartbeats 16000000 in
theorem FnDegreeRow_walk (A : Option Addr) (len cap : Nat) (w : World) (hr : RB w w.heap.size A len) (hc : len ≤ cap) (hlen : len ≤ 9223372036854775807) :
    Calls Try.prog 3 #[.slice A len cap] w fun e w' => e = .returned (.bool true) ∧ Below w.heap.size w w' := by
  have HR := Lib.hid hr
  clear hr
  by_cases hm : 1048576 < len
  · go_enter Try.func3, Try.ntmps3
    go_wp2_with fail
    go_ret
    exact ⟨rfl, Below.refl _ _⟩
  · go_enter Try.func3, Try.ntmps3
    go_wp2_with fail
    refine (DrawDegreeRow_any A len cap _ HR.out hc (by omega)).mono ?_
    rintro e wd ⟨nn, ss, A', c', ws, rfl, hrw, hl10, hcc, hn0, hn7, hs0, hs1, hbd⟩
    have HRW := Lib.hid hrw
    have HBD := Lib.hid hbd
    have hzd : w.heap.size ≤ wd.heap.size := hbd.size
    clear hrw hbd
    obtain ⟨M, hM⟩ : ∃ M, degLen nn ws ss = M := ⟨_, rfl⟩
    have hM6 : M ≤ 6 := by
      rw [← hM]
      unfold degLen
      split
      · rename_i h
        have := (setOk_t h).1.hi
        omega
      · omega
    go_wp2_with fail
    refine (DegreeRow_any _ _ _ _ _ _ (HRW.out.later (by go_grown))).mono ?_; rintro e w1 ⟨A1, c1, rfl, hrow1, hb1⟩
    rw [hM] at hrow1
    rw [hM]
    have k1 : w1.cell? ⟨wd.heap.size, 0, none⟩ = some (.int .i64 nn) ∧ w1.cell? ⟨wd.heap.size, 1, none⟩ = some (.slice A' ws.length c') := by
      obtain ⟨hc1, hf1⟩ := bcell hb1
      exact ⟨by go_simp, by go_simp⟩
    have hz1 : wd.heap.size < w1.heap.size := by have hq := hb1.size; (try simp at hq); omega
    have HB1 := Lib.hid (bstep (B := wd.heap.size) (W := wd) (by go_grown) (by go_size) hb1)
    have HROW1 := Lib.hid hrow1
    clear hb1 hrow1
    obtain ⟨k10, k11⟩ := k1
    go_wp2_with fail
    refine (sDegreeRow_any _ _ _ _ _ _ (HRW.out.later HB1.out) (by omega)).mono ?_; rintro e w2 ⟨A2, c2, rfl, hrow2, hb2⟩
    rw [hM] at hrow2
    rw [hM]
    obtain ⟨k20, k21⟩ := keep2 hb2 ⟨k10, k11⟩ hz1
    have hz2 : wd.heap.size < w2.heap.size := Nat.lt_of_lt_of_le hz1 hb2.size
    have HROW2 := Lib.hid (HROW1.out.below hb2)
    have HROW22 := Lib.hid hrow2
    have HB2 := Lib.hid (bstep (B := wd.heap.size) (W := wd) HB1.out (Nat.le_of_lt hz1) hb2)
    clear hb2 hrow2
    go_wp2_with fail
    refine (sameInts_any _ _ _ _ _ _ _ _ _ _ _ HROW2.out HROW22.out (by omega)).mono ?_; rintro e w3 ⟨rfl, hb3⟩
    obtain ⟨k30, k31⟩ := keep2 hb3 ⟨k20, k21⟩ hz2
    have hz3 : wd.heap.size < w3.heap.size := Nat.lt_of_lt_of_le hz2 hb3.size
    have HROW3 := Lib.hid (HROW2.out.below hb3)
    have HB3 := Lib.hid (bstep (B := wd.heap.size) (W := wd) HB2.out (Nat.le_of_lt hz2) hb3)
    clear hb3 HROW22 HROW1 HROW2 k10 k11 k20 k21
    cases hset : setOk nn ws ss
    · have hM0 : M = 0 := by rw [← hM]; unfold degLen; rw [hset]; rfl
      subst hM0
      clear hset hM
      go_wp2_with fail
      refine (alive_any _).mono ?_; rintro e w4 ⟨rfl, hb4⟩
      have HB4 := Lib.hid (bstep (B := wd.heap.size) (W := wd) HB3.out (Nat.le_of_lt hz3) hb4)
      go_wp2_with fail
      go_ret
      exact ⟨rfl, bstep HBD.out hzd HB4.out⟩
    · obtain ⟨hni, s0, s1, s5⟩ := setOk_t hset
      obtain ⟨m, rfl⟩ : ∃ m : Nat, nn = m := ⟨nn.toNat, by omega⟩
      have hm2 : 2 ≤ m := by have := hni.lo; omega
      have hMm : M = m := by rw [← hM]; unfold degLen; rw [hset]; simp
      subst hMm
      have hmz : ((M : Int) == 0) = false := by simp; omega
      have hp6 := pow_bd (M : Int) 6 (by omega)
      have HF0 : Hid (forksOf (M : Int) ws ss = fks (M : Int) ws ss) := by show _ = _; unfold forksOf; rw [hset]; rfl
      have HN0 : Hid (nodesOf (M : Int) ws ss = nds ws ss) := by show _ = _; unfold nodesOf; rw [hset]; rfl
      have HL0 : Hid (leavesOf (M : Int) ws ss = lvs ws ss) := by show _ = _; unfold leavesOf; rw [hset]; rfl
      have hfb := fks_bd (n := (M : Int)) ws ss
      have hnb := nds_bd hni ss
      have hlb : 0 ≤ lvs ws ss := by
        unfold lvs
        exact (idiff_bd _ _ (lvTo_bd hni ss ws.length).1.1).1
      have HDG : Hid (∀ k : Nat, k < M → ∃ (R : Int) (t1 t3 t0 : Bool), dg ws ss k = R ∧ 0 ≤ R ∧ R ≤ 9 ∧ (R == 1) = t1 ∧ decide (3 ≤ R) = t3 ∧ decide (0 < R) = t0 ∧ ((lvs ws ss / 2 ^ k).tmod 2 == 1) = t1 ∧ ((fks (M : Int) ws ss / 2 ^ k).tmod 2 == 1) = t3 ∧ ((nds ws ss / 2 ^ k).tmod 2 == 1) = t0) := fun k hk => by
        have hd := dg_bd hni ss k
        have tm : ∀ v : Int, 0 ≤ v → ((v / 2 ^ k).tmod 2 == 1) = bit v k := fun v hv => by
          cases hb : bit v (k : Int)
          · have hz := bit_zero (i := (k : Int)) (by omega) hv hb
            rw [Int.toNat_natCast] at hz
            rw [hz.2]; rfl
          · have hz := bit_one (i := (k : Int)) (by omega) hv hb
            rw [Int.toNat_natCast] at hz
            rw [hz.2]; rfl
        refine ⟨_, _, _, _, rfl, hd.1, hd.2, rfl, rfl, rfl, ?_, ?_, ?_⟩
        · rw [tm _ hlb, lvs_dg hni ss k (by omega), Bool.eq_iff_iff]; simp
        · rw [tm _ hfb.1]
          unfold fks
          rw [Int.toNat_natCast, fkTo_bit]; simp [hk]
        · rw [tm _ hnb.1, nds_dg hni ss k (by omega), Bool.eq_iff_iff]; simp only [decide_eq_true_eq]; omega
      obtain ⟨LV, hLV⟩ : ∃ V, lvs ws ss = V := ⟨_, rfl⟩
      obtain ⟨FK, hFK⟩ : ∃ V, fks (M : Int) ws ss = V := ⟨_, rfl⟩
      obtain ⟨ND, hND⟩ : ∃ V, nds ws ss = V := ⟨_, rfl⟩
      have HSUM : Hid (sumTo (fun p => dg ws ss p) M = 2 * pop ss) := dg_all hni s0 s1
      have hsb : ∀ j : Nat, j ≤ 6 → 0 ≤ sumTo (fun p => dg ws ss p) j ∧ sumTo (fun p => dg ws ss p) j ≤ 9 * j := fun j hj => by
        clear HF0 HN0 HL0 HDG HSUM
        induction j with
        | zero => simp [sumTo]
        | succ j ih =>
          have := dg_bd hni ss j
          have := ih (by omega)
          rw [sumTo]; omega
      rw [hLV] at HL0 HDG hlb
      rw [hFK] at HF0 HDG hfb
      rw [hND] at HN0 HDG hnb
      have HSB := Lib.hid hsb
      have lv0 : 0 ≤ LV := hlb
      have fk0 : 0 ≤ FK := hfb.1
      have nd0 : 0 ≤ ND := hnb.1
      have hm0 : 0 < M := by omega
      obtain ⟨rb, ro, rfl, -, -, -, -⟩ := HROW3.out.at_ 0 hm0
      obtain ⟨G, hG⟩ : ∃ G : Nat → Int, (fun j : Nat => dg ws ss j) = G := ⟨_, rfl⟩
      have HGG := Lib.hid hG
      clear hset hni s1 hp6 hfb hnb hlb hLV hFK hND hsb hG
      go_wp2_with fail
      go_loopw [6, 7] (fun c i wr => ∃ (k : Nat) (q : Int), k ≤ M ∧ c = .int .i64 q ∧ q = sumTo (fun p => dg ws ss p) k ∧ i = .int .i64 k ∧ wr.cell? ⟨wd.heap.size, 0, none⟩ = some (.int .i64 M) ∧ wr.cell? ⟨wd.heap.size, 1, none⟩ = some (.slice A' ws.length c') ∧ Below wd.heap.size wd wr ∧ wd.heap.size < wr.heap.size ∧ (∀ j, j < M → rb < wr.heap.size ∧ wr.cell? ⟨rb, ro + j, none⟩ = some (.int .i64 (dg ws ss j)))) (fun _ i _ => M - (intOf i).toNat)
      case atStart =>
        refine ⟨0, 0, Nat.zero_le _, rfl, rfl, rfl, k30, k31, HB3.out, hz3, fun j hj => ?_⟩
        obtain ⟨b, o, hbo, hl, hh, hcl, -⟩ := HROW3.out.at_ j hj
        injection hbo with hbo; injection hbo with e1 e2
        subst e1; subst e2
        exact ⟨Nat.lt_of_lt_of_le hh HROW3.out.top, hcl⟩
      case round =>
        clear k30 k31
        obtain ⟨k, q, hk, rfl, hq, rfl, b0, b1, hb, hz, hrow⟩ := hrel
        have HRR := Lib.hid (HRW.out.later hb)
        have HB0 := Lib.hid hb
        have HROW := Lib.hid hrow
        have HQ := Lib.hid hq
        have hqb := HSB.out k (by omega)
        rw [← hq] at hqb
        clear hb hrow hq
        by_cases hlk : k < M
        · have hk0 : (0 : Int) ≤ (k : Int) := by omega
          have hk1 : (k : Int) < (M : Int) := by omega
          have hk5 : k ≤ 5 := by omega
          obtain ⟨hzr, r0⟩ := HROW.out k hlk
          obtain ⟨R, t1, t3, t0, hR, hR0, hR9, d1, d3, d0, x1, x3, x0⟩ := HDG.out k hlk
          rw [hR] at r0
          have HR1 := Lib.hid hR
          have y1 : 0 ≤ LV / 2 ^ k := (div_pow_bd LV k lv0).1
          have y3 : 0 ≤ FK / 2 ^ k := (div_pow_bd FK k fk0).1
          have y0 : 0 ≤ ND / 2 ^ k := (div_pow_bd ND k nd0).1
          clear hR
          go_wp2_with fail
          refine wp_region_held_drew (S := (fun w' => w'.cell? ⟨wd.heap.size, 0, none⟩ = some (.int .i64 M) ∧ w'.cell? ⟨wd.heap.size, 1, none⟩ = some (.slice A' ws.length c') ∧ w'.cell? ⟨rb, ro + k, none⟩ = some (.int .i64 R))) (by kernel_rfl) ?_ (fun hHeld => ?_)
          · exact ⟨b0, b1, r0⟩
          refine wpAnyH_take (i := 0) (v := ?_) rfl (by kernel_rfl) (by kernel_rfl) (by kernel_rfl) (fun _ _ _ h => h) (Or.inl ⟨by rfl, ?_⟩) (by assumption) ?_
          rotate_left
          · (intro w hSw; (try dsimp only at hSw); (try simp only [List.getElem_toArray, List.getElem_cons_succ, List.getElem_cons_zero]); first | (go_simp; done) | (go_simp; with_reducible rfl))
          try simp only [Act.put, List.getElem_toArray, List.getElem_cons_succ, List.getElem_cons_zero, List.setIfInBounds_toArray, List.set_cons_zero, List.set_cons_succ]
          refine wpAnyH_take (i := 1) (v := ?_) rfl (by kernel_rfl) (by kernel_rfl) (by kernel_rfl) (fun _ _ _ h => h) (Or.inl ⟨by rfl, ?_⟩) (by assumption) ?_
          rotate_left
          · (intro w hSw; (try dsimp only at hSw); (try simp only [List.getElem_toArray, List.getElem_cons_succ, List.getElem_cons_zero]); first | (go_simp; done) | (go_simp; with_reducible rfl))
          try simp only [Act.put, List.getElem_toArray, List.getElem_cons_succ, List.getElem_cons_zero, List.setIfInBounds_toArray, List.set_cons_zero, List.set_cons_succ]
          refine wpAnyH_take (i := 2) (v := ?_) rfl (by kernel_rfl) (by kernel_rfl) (by kernel_rfl) (fun _ _ _ h => h) (Or.inl ⟨by rfl, ?_⟩) (by assumption) ?_
          rotate_left
          · (intro w hSw; (try dsimp only at hSw); (try simp only [List.getElem_toArray, List.getElem_cons_succ, List.getElem_cons_zero]); first | (go_simp; done) | (go_simp; with_reducible rfl))
          try simp only [Act.put, List.getElem_toArray, List.getElem_cons_succ, List.getElem_cons_zero, List.setIfInBounds_toArray, List.set_cons_zero, List.set_cons_succ]
          refine wpAnyH_take (i := 3) (v := ?_) rfl (by kernel_rfl) (by kernel_rfl) (by kernel_rfl) (fun _ _ _ h => h) (Or.inl ⟨by rfl, ?_⟩) (by assumption) ?_
          rotate_left
          · (intro w hSw; (try dsimp only at hSw); (try simp only [List.getElem_toArray, List.getElem_cons_succ, List.getElem_cons_zero]); first | (go_simp; done) | (go_simp; with_reducible rfl))
          try simp only [Act.put, List.getElem_toArray, List.getElem_cons_succ, List.getElem_cons_zero, List.setIfInBounds_toArray, List.set_cons_zero, List.set_cons_succ]
          refine wpAnyH_take (i := 4) (v := ?_) rfl (by kernel_rfl) (by kernel_rfl) (by kernel_rfl) (fun _ _ _ h => h) (Or.inl ⟨by rfl, ?_⟩) (by assumption) ?_
          rotate_left
          · (intro w hSw; (try dsimp only at hSw); (try simp only [List.getElem_toArray, List.getElem_cons_succ, List.getElem_cons_zero]); first | (go_simp; done) | (go_simp; with_reducible rfl))
          try simp only [Act.put, List.getElem_toArray, List.getElem_cons_succ, List.getElem_cons_zero, List.setIfInBounds_toArray, List.set_cons_zero, List.set_cons_succ]
          refine wpAnyH_take (i := 5) (v := ?_) rfl (by kernel_rfl) (by kernel_rfl) (by kernel_rfl) (fun _ _ _ h => h) (Or.inl ⟨by rfl, ?_⟩) (by assumption) ?_
          rotate_left
          · (intro w hSw; (try dsimp only at hSw); (try simp only [List.getElem_toArray, List.getElem_cons_succ, List.getElem_cons_zero]); first | (go_simp; done) | (go_simp; with_reducible rfl))
          try simp only [Act.put, List.getElem_toArray, List.getElem_cons_succ, List.getElem_cons_zero, List.setIfInBounds_toArray, List.set_cons_zero, List.set_cons_succ]
          refine wpAnyH_take (i := 6) (v := ?_) rfl (by kernel_rfl) (by kernel_rfl) (by kernel_rfl) (fun _ _ _ h => h) (Or.inl ⟨by rfl, ?_⟩) (by assumption) ?_
          rotate_left
          · (intro w hSw; (try dsimp only at hSw); (try simp only [List.getElem_toArray, List.getElem_cons_succ, List.getElem_cons_zero]); first | (go_simp; done) | (go_simp; with_reducible rfl))
          try simp only [Act.put, List.getElem_toArray, List.getElem_cons_succ, List.getElem_cons_zero, List.setIfInBounds_toArray, List.set_cons_zero, List.set_cons_succ]
          refine wpAnyH_take (i := 8) (v := ?_) rfl (by kernel_rfl) (by kernel_rfl) (by kernel_rfl) (fun _ _ _ h => h) (Or.inl ⟨by rfl, ?_⟩) (by assumption) ?_
          rotate_left
          · (intro w hSw; (try dsimp only at hSw); (try simp only [List.getElem_toArray, List.getElem_cons_succ, List.getElem_cons_zero]); first | (go_simp; done) | (go_simp; with_reducible rfl))
          try simp only [Act.put, List.getElem_toArray, List.getElem_cons_succ, List.getElem_cons_zero, List.setIfInBounds_toArray, List.set_cons_zero, List.set_cons_succ]
          refine wpAnyH_ready (rs := [7]) (by kernel_rfl) (by simp) ?_
          refine AllReadyH.cons rfl (fun K hK => ?_) AllReadyH.nil
          try simp only [List.getElem_toArray, List.getElem_cons_succ, List.getElem_cons_zero]
          go_simp
          go_at_call 11; refine (LeavesOf_any _ _ _ _ _ _ (HRR.out.drewNR _)).mono ?_; rintro e11 w11 ⟨rfl, hb11⟩; rw [HL0.out]; have gg11 : Below wr.heap.size wr w11 := und hb11; have g11 := gg11; have k11 : _ ∧ _ ∧ _ := ⟨(g11.cell (p := ⟨wd.heap.size, 0, none⟩) hz).trans b0, (g11.cell (p := ⟨wd.heap.size, 1, none⟩) hz).trans b1, (g11.cell (p := ⟨rb, ro + k, none⟩) hzr).trans r0⟩; have r11 := Lib.hid (HRR.out.later g11)
          refine hK.out _ _ ?_ (fun hHeld => ?_)
          · exact k11
          clear hK K
          try simp only [Act.put, List.getElem_toArray, List.getElem_cons_succ, List.getElem_cons_zero, List.setIfInBounds_toArray, List.set_cons_zero, List.set_cons_succ]
          refine wpAnyH_take (i := 9) (v := ?_) rfl (by kernel_rfl) (by kernel_rfl) (by kernel_rfl) (fun _ _ _ h => h) (Or.inl ⟨by rfl, ?_⟩) (by assumption) ?_
          rotate_left
          · (intro w hSw; (try dsimp only at hSw); (try simp only [List.getElem_toArray, List.getElem_cons_succ, List.getElem_cons_zero]); first | (go_simp; done) | (go_simp; with_reducible rfl))
          try simp only [Act.put, List.getElem_toArray, List.getElem_cons_succ, List.getElem_cons_zero, List.setIfInBounds_toArray, List.set_cons_zero, List.set_cons_succ]
          refine wpAnyH_take (i := 10) (v := ?_) rfl (by kernel_rfl) (by kernel_rfl) (by kernel_rfl) (fun _ _ _ h => h) (Or.inl ⟨by rfl, ?_⟩) (by assumption) ?_
          rotate_left
          · (intro w hSw; (try dsimp only at hSw); (try simp only [List.getElem_toArray, List.getElem_cons_succ, List.getElem_cons_zero]); first | (go_simp; done) | (go_simp; with_reducible rfl))
          try simp only [Act.put, List.getElem_toArray, List.getElem_cons_succ, List.getElem_cons_zero, List.setIfInBounds_toArray, List.set_cons_zero, List.set_cons_succ]
          refine wpAnyH_take (i := 11) (v := ?_) rfl (by kernel_rfl) (by kernel_rfl) (by kernel_rfl) (fun _ _ _ h => h) (Or.inl ⟨by rfl, ?_⟩) (by assumption) ?_
          rotate_left
          · (intro w hSw; (try dsimp only at hSw); (try simp only [List.getElem_toArray, List.getElem_cons_succ, List.getElem_cons_zero]); first | (go_simp; done) | (go_simp; with_reducible rfl))
          try simp only [Act.put, List.getElem_toArray, List.getElem_cons_succ, List.getElem_cons_zero, List.setIfInBounds_toArray, List.set_cons_zero, List.set_cons_succ]
          refine wpAnyH_take (i := 12) (v := ?_) rfl (by kernel_rfl) (by kernel_rfl) (by kernel_rfl) (fun _ _ _ h => h) (Or.inl ⟨by rfl, ?_⟩) (by assumption) ?_
          rotate_left
          · (intro w hSw; (try dsimp only at hSw); (try simp only [List.getElem_toArray, List.getElem_cons_succ, List.getElem_cons_zero]); first | (go_simp; done) | (go_simp; with_reducible rfl))
          try simp only [Act.put, List.getElem_toArray, List.getElem_cons_succ, List.getElem_cons_zero, List.setIfInBounds_toArray, List.set_cons_zero, List.set_cons_succ]
          refine wpAnyH_take (i := 13) (v := ?_) rfl (by kernel_rfl) (by kernel_rfl) (by kernel_rfl) (fun _ _ _ h => h) (Or.inl ⟨by rfl, ?_⟩) (by assumption) ?_
          rotate_left
          · (intro w hSw; (try dsimp only at hSw); (try simp only [List.getElem_toArray, List.getElem_cons_succ, List.getElem_cons_zero]); first | (go_simp; done) | (go_simp; with_reducible rfl))
          try simp only [Act.put, List.getElem_toArray, List.getElem_cons_succ, List.getElem_cons_zero, List.setIfInBounds_toArray, List.set_cons_zero, List.set_cons_succ]
          refine wpAnyH_take (i := 14) (v := ?_) rfl (by kernel_rfl) (by kernel_rfl) (by kernel_rfl) (fun _ _ _ h => h) (Or.inl ⟨by rfl, ?_⟩) (by assumption) ?_
          rotate_left
          · (intro w hSw; (try dsimp only at hSw); (try simp only [List.getElem_toArray, List.getElem_cons_succ, List.getElem_cons_zero]); first | (go_simp; done) | (go_simp; with_reducible rfl))
          try simp only [Act.put, List.getElem_toArray, List.getElem_cons_succ, List.getElem_cons_zero, List.setIfInBounds_toArray, List.set_cons_zero, List.set_cons_succ]
          refine wpAnyH_take (i := 15) (v := ?_) rfl (by kernel_rfl) (by kernel_rfl) (by kernel_rfl) (fun _ _ _ h => h) (Or.inl ⟨by rfl, ?_⟩) (by assumption) ?_
          rotate_left
          · (intro w hSw; (try dsimp only at hSw); (try simp only [List.getElem_toArray, List.getElem_cons_succ, List.getElem_cons_zero]); first | (go_simp; done) | (go_simp; with_reducible rfl))
          try simp only [Act.put, List.getElem_toArray, List.getElem_cons_succ, List.getElem_cons_zero, List.setIfInBounds_toArray, List.set_cons_zero, List.set_cons_succ]
          refine wpAnyH_take (i := 16) (v := ?_) rfl (by kernel_rfl) (by kernel_rfl) (by kernel_rfl) (fun _ _ _ h => h) (Or.inl ⟨by rfl, ?_⟩) (by assumption) ?_
          rotate_left
          · (intro w hSw; (try dsimp only at hSw); (try simp only [List.getElem_toArray, List.getElem_cons_succ, List.getElem_cons_zero]); first | (go_simp; done) | (go_simp; with_reducible rfl))
          try simp only [Act.put, List.getElem_toArray, List.getElem_cons_succ, List.getElem_cons_zero, List.setIfInBounds_toArray, List.set_cons_zero, List.set_cons_succ]
          refine wpAnyH_take (i := 17) (v := ?_) rfl (by kernel_rfl) (by kernel_rfl) (by kernel_rfl) (fun _ _ _ h => h) (Or.inl ⟨by rfl, ?_⟩) (by assumption) ?_
          rotate_left
          · (intro w hSw; (try dsimp only at hSw); (try simp only [List.getElem_toArray, List.getElem_cons_succ, List.getElem_cons_zero]); first | (go_simp; done) | (go_simp; with_reducible rfl))
          try simp only [Act.put, List.getElem_toArray, List.getElem_cons_succ, List.getElem_cons_zero, List.setIfInBounds_toArray, List.set_cons_zero, List.set_cons_succ]
          refine wpAnyH_take (i := 18) (v := ?_) rfl (by kernel_rfl) (by kernel_rfl) (by kernel_rfl) (fun _ _ _ h => h) (Or.inl ⟨by rfl, ?_⟩) (by assumption) ?_
          rotate_left
          · (intro w hSw; (try dsimp only at hSw); (try simp only [List.getElem_toArray, List.getElem_cons_succ, List.getElem_cons_zero]); first | (go_simp; done) | (go_simp; with_reducible rfl))
          try simp only [Act.put, List.getElem_toArray, List.getElem_cons_succ, List.getElem_cons_zero, List.setIfInBounds_toArray, List.set_cons_zero, List.set_cons_succ]
          refine wpAnyH_take (i := 19) (v := ?_) rfl (by kernel_rfl) (by kernel_rfl) (by kernel_rfl) (fun _ _ _ h => h) (Or.inl ⟨by rfl, ?_⟩) (by assumption) ?_
          rotate_left
          · (intro w hSw; (try dsimp only at hSw); (try simp only [List.getElem_toArray, List.getElem_cons_succ, List.getElem_cons_zero]); first | (go_simp; done) | (go_simp; with_reducible rfl))
          try simp only [Act.put, List.getElem_toArray, List.getElem_cons_succ, List.getElem_cons_zero, List.setIfInBounds_toArray, List.set_cons_zero, List.set_cons_succ]
          refine wpAnyH_take (i := 20) (v := ?_) rfl (by kernel_rfl) (by kernel_rfl) (by kernel_rfl) (fun _ _ _ h => h) (Or.inl ⟨by rfl, ?_⟩) (by assumption) ?_
          rotate_left
          · (intro w hSw; (try dsimp only at hSw); (try simp only [List.getElem_toArray, List.getElem_cons_succ, List.getElem_cons_zero]); first | (go_simp; done) | (go_simp; with_reducible rfl))
          try simp only [Act.put, List.getElem_toArray, List.getElem_cons_succ, List.getElem_cons_zero, List.setIfInBounds_toArray, List.set_cons_zero, List.set_cons_succ]
          refine wpAnyH_take (i := 22) (v := ?_) rfl (by kernel_rfl) (by kernel_rfl) (by kernel_rfl) (fun _ _ _ h => h) (Or.inl ⟨by rfl, ?_⟩) (by assumption) ?_
          rotate_left
          · (intro w hSw; (try dsimp only at hSw); (try simp only [List.getElem_toArray, List.getElem_cons_succ, List.getElem_cons_zero]); first | (go_simp; done) | (go_simp; with_reducible rfl))
          try simp only [Act.put, List.getElem_toArray, List.getElem_cons_succ, List.getElem_cons_zero, List.setIfInBounds_toArray, List.set_cons_zero, List.set_cons_succ]
          refine wpAnyH_ready (rs := [21]) (by kernel_rfl) (by simp) ?_
          refine AllReadyH.cons rfl (fun K hK => ?_) AllReadyH.nil
          try simp only [List.getElem_toArray, List.getElem_cons_succ, List.getElem_cons_zero]
          go_simp
          go_at_call 12; refine (ForksOf_any _ _ _ _ _ w11 (r11.out)).mono ?_; rintro e12 w12 ⟨rfl, hb12⟩; rw [HF0.out]; have gg12 : Below w11.heap.size w11 w12 := hb12; have g12 : Below wr.heap.size wr w12 := bstep g11 g11.size gg12; have k12 : _ ∧ _ ∧ _ := ⟨(g12.cell (p := ⟨wd.heap.size, 0, none⟩) hz).trans b0, (g12.cell (p := ⟨wd.heap.size, 1, none⟩) hz).trans b1, (g12.cell (p := ⟨rb, ro + k, none⟩) hzr).trans r0⟩; have r12 := Lib.hid (HRR.out.later g12)
          refine hK.out _ _ ?_ (fun hHeld => ?_)
          · exact k12
          clear hK K
          try simp only [Act.put, List.getElem_toArray, List.getElem_cons_succ, List.getElem_cons_zero, List.setIfInBounds_toArray, List.set_cons_zero, List.set_cons_succ]
          refine wpAnyH_take (i := 23) (v := ?_) rfl (by kernel_rfl) (by kernel_rfl) (by kernel_rfl) (fun _ _ _ h => h) (Or.inl ⟨by rfl, ?_⟩) (by assumption) ?_
          rotate_left
          · (intro w hSw; (try dsimp only at hSw); (try simp only [List.getElem_toArray, List.getElem_cons_succ, List.getElem_cons_zero]); first | (go_simp; done) | (go_simp; with_reducible rfl))
          try simp only [Act.put, List.getElem_toArray, List.getElem_cons_succ, List.getElem_cons_zero, List.setIfInBounds_toArray, List.set_cons_zero, List.set_cons_succ]
          refine wpAnyH_take (i := 24) (v := ?_) rfl (by kernel_rfl) (by kernel_rfl) (by kernel_rfl) (fun _ _ _ h => h) (Or.inl ⟨by rfl, ?_⟩) (by assumption) ?_
          rotate_left
          · (intro w hSw; (try dsimp only at hSw); (try simp only [List.getElem_toArray, List.getElem_cons_succ, List.getElem_cons_zero]); first | (go_simp; done) | (go_simp; with_reducible rfl))
          try simp only [Act.put, List.getElem_toArray, List.getElem_cons_succ, List.getElem_cons_zero, List.setIfInBounds_toArray, List.set_cons_zero, List.set_cons_succ]
          refine wpAnyH_take (i := 25) (v := ?_) rfl (by kernel_rfl) (by kernel_rfl) (by kernel_rfl) (fun _ _ _ h => h) (Or.inl ⟨by rfl, ?_⟩) (by assumption) ?_
          rotate_left
          · (intro w hSw; (try dsimp only at hSw); (try simp only [List.getElem_toArray, List.getElem_cons_succ, List.getElem_cons_zero]); first | (go_simp; done) | (go_simp; with_reducible rfl))
          try simp only [Act.put, List.getElem_toArray, List.getElem_cons_succ, List.getElem_cons_zero, List.setIfInBounds_toArray, List.set_cons_zero, List.set_cons_succ]
          refine wpAnyH_take (i := 26) (v := ?_) rfl (by kernel_rfl) (by kernel_rfl) (by kernel_rfl) (fun _ _ _ h => h) (Or.inl ⟨by rfl, ?_⟩) (by assumption) ?_
          rotate_left
          · (intro w hSw; (try dsimp only at hSw); (try simp only [List.getElem_toArray, List.getElem_cons_succ, List.getElem_cons_zero]); first | (go_simp; done) | (go_simp; with_reducible rfl))
          try simp only [Act.put, List.getElem_toArray, List.getElem_cons_succ, List.getElem_cons_zero, List.setIfInBounds_toArray, List.set_cons_zero, List.set_cons_succ]
          refine wpAnyH_take (i := 27) (v := ?_) rfl (by kernel_rfl) (by kernel_rfl) (by kernel_rfl) (fun _ _ _ h => h) (Or.inl ⟨by rfl, ?_⟩) (by assumption) ?_
          rotate_left
          · (intro w hSw; (try dsimp only at hSw); (try simp only [List.getElem_toArray, List.getElem_cons_succ, List.getElem_cons_zero]); first | (go_simp; done) | (go_simp; with_reducible rfl))
          try simp only [Act.put, List.getElem_toArray, List.getElem_cons_succ, List.getElem_cons_zero, List.setIfInBounds_toArray, List.set_cons_zero, List.set_cons_succ]
          refine wpAnyH_take (i := 28) (v := ?_) rfl (by kernel_rfl) (by kernel_rfl) (by kernel_rfl) (fun _ _ _ h => h) (Or.inl ⟨by rfl, ?_⟩) (by assumption) ?_
          rotate_left
          · (intro w hSw; (try dsimp only at hSw); (try simp only [List.getElem_toArray, List.getElem_cons_succ, List.getElem_cons_zero]); first | (go_simp; done) | (go_simp; with_reducible rfl))
          try simp only [Act.put, List.getElem_toArray, List.getElem_cons_succ, List.getElem_cons_zero, List.setIfInBounds_toArray, List.set_cons_zero, List.set_cons_succ]
          refine wpAnyH_take (i := 29) (v := ?_) rfl (by kernel_rfl) (by kernel_rfl) (by kernel_rfl) (fun _ _ _ h => h) (Or.inl ⟨by rfl, ?_⟩) (by assumption) ?_
          rotate_left
          · (intro w hSw; (try dsimp only at hSw); (try simp only [List.getElem_toArray, List.getElem_cons_succ, List.getElem_cons_zero]); first | (go_simp; done) | (go_simp; with_reducible rfl))
          try simp only [Act.put, List.getElem_toArray, List.getElem_cons_succ, List.getElem_cons_zero, List.setIfInBounds_toArray, List.set_cons_zero, List.set_cons_succ]
          refine wpAnyH_take (i := 30) (v := ?_) rfl (by kernel_rfl) (by kernel_rfl) (by kernel_rfl) (fun _ _ _ h => h) (Or.inl ⟨by rfl, ?_⟩) (by assumption) ?_
          rotate_left
          · (intro w hSw; (try dsimp only at hSw); (try simp only [List.getElem_toArray, List.getElem_cons_succ, List.getElem_cons_zero]); first | (go_simp; done) | (go_simp; with_reducible rfl))
          try simp only [Act.put, List.getElem_toArray, List.getElem_cons_succ, List.getElem_cons_zero, List.setIfInBounds_toArray, List.set_cons_zero, List.set_cons_succ]
          refine wpAnyH_take (i := 31) (v := ?_) rfl (by kernel_rfl) (by kernel_rfl) (by kernel_rfl) (fun _ _ _ h => h) (Or.inl ⟨by rfl, ?_⟩) (by assumption) ?_
          rotate_left
          · (intro w hSw; (try dsimp only at hSw); (try simp only [List.getElem_toArray, List.getElem_cons_succ, List.getElem_cons_zero]); first | (go_simp; done) | (go_simp; with_reducible rfl))
          try simp only [Act.put, List.getElem_toArray, List.getElem_cons_succ, List.getElem_cons_zero, List.setIfInBounds_toArray, List.set_cons_zero, List.set_cons_succ]
          refine wpAnyH_take (i := 32) (v := ?_) rfl (by kernel_rfl) (by kernel_rfl) (by kernel_rfl) (fun _ _ _ h => h) (Or.inl ⟨by rfl, ?_⟩) (by assumption) ?_
          rotate_left
          · (intro w hSw; (try dsimp only at hSw); (try simp only [List.getElem_toArray, List.getElem_cons_succ, List.getElem_cons_zero]); first | (go_simp; done) | (go_simp; with_reducible rfl))
          try simp only [Act.put, List.getElem_toArray, List.getElem_cons_succ, List.getElem_cons_zero, List.setIfInBounds_toArray, List.set_cons_zero, List.set_cons_succ]
          refine wpAnyH_take (i := 33) (v := ?_) rfl (by kernel_rfl) (by kernel_rfl) (by kernel_rfl) (fun _ _ _ h => h) (Or.inl ⟨by rfl, ?_⟩) (by assumption) ?_
          rotate_left
          · (intro w hSw; (try dsimp only at hSw); (try simp only [List.getElem_toArray, List.getElem_cons_succ, List.getElem_cons_zero]); first | (go_simp; done) | (go_simp; with_reducible rfl))
          try simp only [Act.put, List.getElem_toArray, List.getElem_cons_succ, List.getElem_cons_zero, List.setIfInBounds_toArray, List.set_cons_zero, List.set_cons_succ]
          refine wpAnyH_take (i := 34) (v := ?_) rfl (by kernel_rfl) (by kernel_rfl) (by kernel_rfl) (fun _ _ _ h => h) (Or.inl ⟨by rfl, ?_⟩) (by assumption) ?_
          rotate_left
          · (intro w hSw; (try dsimp only at hSw); (try simp only [List.getElem_toArray, List.getElem_cons_succ, List.getElem_cons_zero]); first | (go_simp; done) | (go_simp; with_reducible rfl))
          try simp only [Act.put, List.getElem_toArray, List.getElem_cons_succ, List.getElem_cons_zero, List.setIfInBounds_toArray, List.set_cons_zero, List.set_cons_succ]
          refine wpAnyH_take (i := 35) (v := ?_) rfl (by kernel_rfl) (by kernel_rfl) (by kernel_rfl) (fun _ _ _ h => h) (Or.inl ⟨by rfl, ?_⟩) (by assumption) ?_
          rotate_left
          · (intro w hSw; (try dsimp only at hSw); (try simp only [List.getElem_toArray, List.getElem_cons_succ, List.getElem_cons_zero]); first | (go_simp; done) | (go_simp; with_reducible rfl))
          try simp only [Act.put, List.getElem_toArray, List.getElem_cons_succ, List.getElem_cons_zero, List.setIfInBounds_toArray, List.set_cons_zero, List.set_cons_succ]
          refine wpAnyH_take (i := 37) (v := ?_) rfl (by kernel_rfl) (by kernel_rfl) (by kernel_rfl) (fun _ _ _ h => h) (Or.inl ⟨by rfl, ?_⟩) (by assumption) ?_
          rotate_left
          · (intro w hSw; (try dsimp only at hSw); (try simp only [List.getElem_toArray, List.getElem_cons_succ, List.getElem_cons_zero]); first | (go_simp; done) | (go_simp; with_reducible rfl))
          try simp only [Act.put, List.getElem_toArray, List.getElem_cons_succ, List.getElem_cons_zero, List.setIfInBounds_toArray, List.set_cons_zero, List.set_cons_succ]
          refine wpAnyH_ready (rs := [36]) (by kernel_rfl) (by simp) ?_
          refine AllReadyH.cons rfl (fun K hK => ?_) AllReadyH.nil
          try simp only [List.getElem_toArray, List.getElem_cons_succ, List.getElem_cons_zero]
          go_simp
          go_at_call 13; refine (NodesOf_any _ _ _ _ _ w12 (r12.out)).mono ?_; rintro e13 w13 ⟨rfl, hb13⟩; rw [HN0.out]; have gg13 : Below w12.heap.size w12 w13 := hb13; have g13 : Below wr.heap.size wr w13 := bstep g12 g12.size gg13; have k13 : _ ∧ _ ∧ _ := ⟨(g13.cell (p := ⟨wd.heap.size, 0, none⟩) hz).trans b0, (g13.cell (p := ⟨wd.heap.size, 1, none⟩) hz).trans b1, (g13.cell (p := ⟨rb, ro + k, none⟩) hzr).trans r0⟩; have r13 := Lib.hid (HRR.out.later g13)
          refine hK.out _ _ ?_ (fun hHeld => ?_)
          · exact k13
          clear hK K
          try simp only [Act.put, List.getElem_toArray, List.getElem_cons_succ, List.getElem_cons_zero, List.setIfInBounds_toArray, List.set_cons_zero, List.set_cons_succ]
          refine wpAnyH_take (i := 38) (v := ?_) rfl (by kernel_rfl) (by kernel_rfl) (by kernel_rfl) (fun _ _ _ h => h) (Or.inl ⟨by rfl, ?_⟩) (by assumption) ?_
          rotate_left
          · (intro w hSw; (try dsimp only at hSw); (try simp only [List.getElem_toArray, List.getElem_cons_succ, List.getElem_cons_zero]); first | (go_simp; done) | (go_simp; with_reducible rfl))
          try simp only [Act.put, List.getElem_toArray, List.getElem_cons_succ, List.getElem_cons_zero, List.setIfInBounds_toArray, List.set_cons_zero, List.set_cons_succ]
          refine wpAnyH_take (i := 39) (v := ?_) rfl (by kernel_rfl) (by kernel_rfl) (by kernel_rfl) (fun _ _ _ h => h) (Or.inl ⟨by rfl, ?_⟩) (by assumption) ?_
          rotate_left
          · (intro w hSw; (try dsimp only at hSw); (try simp only [List.getElem_toArray, List.getElem_cons_succ, List.getElem_cons_zero]); first | (go_simp; done) | (go_simp; with_reducible rfl))
          try simp only [Act.put, List.getElem_toArray, List.getElem_cons_succ, List.getElem_cons_zero, List.setIfInBounds_toArray, List.set_cons_zero, List.set_cons_succ]
          refine wpAnyH_take (i := 40) (v := ?_) rfl (by kernel_rfl) (by kernel_rfl) (by kernel_rfl) (fun _ _ _ h => h) (Or.inl ⟨by rfl, ?_⟩) (by assumption) ?_
          rotate_left
          · (intro w hSw; (try dsimp only at hSw); (try simp only [List.getElem_toArray, List.getElem_cons_succ, List.getElem_cons_zero]); first | (go_simp; done) | (go_simp; with_reducible rfl))
          try simp only [Act.put, List.getElem_toArray, List.getElem_cons_succ, List.getElem_cons_zero, List.setIfInBounds_toArray, List.set_cons_zero, List.set_cons_succ]
          refine wpAnyH_take (i := 41) (v := ?_) rfl (by kernel_rfl) (by kernel_rfl) (by kernel_rfl) (fun _ _ _ h => h) (Or.inl ⟨by rfl, ?_⟩) (by assumption) ?_
          rotate_left
          · (intro w hSw; (try dsimp only at hSw); (try simp only [List.getElem_toArray, List.getElem_cons_succ, List.getElem_cons_zero]); first | (go_simp; done) | (go_simp; with_reducible rfl))
          try simp only [Act.put, List.getElem_toArray, List.getElem_cons_succ, List.getElem_cons_zero, List.setIfInBounds_toArray, List.set_cons_zero, List.set_cons_succ]
          refine wpAnyH_take (i := 42) (v := ?_) rfl (by kernel_rfl) (by kernel_rfl) (by kernel_rfl) (fun _ _ _ h => h) (Or.inl ⟨by rfl, ?_⟩) (by assumption) ?_
          rotate_left
          · (intro w hSw; (try dsimp only at hSw); (try simp only [List.getElem_toArray, List.getElem_cons_succ, List.getElem_cons_zero]); first | (go_simp; done) | (go_simp; with_reducible rfl))
          try simp only [Act.put, List.getElem_toArray, List.getElem_cons_succ, List.getElem_cons_zero, List.setIfInBounds_toArray, List.set_cons_zero, List.set_cons_succ]
          refine wpAnyH_done (by kernel_rfl) ?_ _
          have HB9 := Lib.hid (bstep (B := wd.heap.size) (W := wd) HB0.out (Nat.le_of_lt hz) g13)
          have z9 := Nat.lt_of_lt_of_le hz g13.size
          have HROW9 : Hid (∀ j, j < M → rb < w13.heap.size ∧ w13.cell? ⟨rb, ro + j, none⟩ = some (.int .i64 (dg ws ss j))) := fun j hj => ⟨Nat.lt_of_lt_of_le (HROW.out j hj).1 g13.size, (g13.cell (p := ⟨rb, ro + j, none⟩) (HROW.out j hj).1).trans (HROW.out j hj).2⟩
          obtain ⟨k90, k91, -⟩ := k13
          have HSN : Hid (q + R = sumTo (fun p => dg ws ss p) (k + 1)) := by show _ = _; rw [sumTo, ← HQ.out, HR1.out]
          clear gg11 g11 gg12 g12 gg13 g13 hb11 hb12 hb13 x1 x3 x0 d1 d3 d0
          go_wp2_with fail
          go_roundw
          case rel => exact ⟨k + 1, q + R, by omega, by go_num, HSN.out, by go_num, k90, k91, ⟨HB9.out.os, HB9.out.tape, HB9.out.output, HB9.out.size, HB9.out.block⟩, z9, HROW9.out⟩
          case measure => (simp [intOf]) <;> omega
        · obtain rfl : k = M := by omega
          have hk1 : ¬ (k : Int) < (k : Int) := by omega
          have hq2 : q = 2 * pop ss := by rw [HQ.out]; exact HSUM.out
          have hpb := pop_bd ss
          obtain ⟨P, hP⟩ : ∃ P, pop ss = P := ⟨_, rfl⟩
          have HP := Lib.hid hP
          rw [hP] at hq2 hpb
          subst hq2
          clear hP
          go_wp2_with fail
          refine (lSizeOf_any ss s0 (by omega) _).mono ?_; rintro e6 w6 ⟨rfl, rfl⟩; rw [HP.out]
          go_wp2_with fail
          go_ret
          exact ⟨rfl, bstep HBD.out hzd HB0.out⟩
end Go.Proofs.Ytnbihejoglgdhaa
