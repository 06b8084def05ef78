/- Walk of the law FnNearestRow. -/
import Derived.Test.YthadehgpeafniaaNxI
import Derived.Test.YthadehgpeafniaaNxD
import Derived.Test.YthadehgpeafniaaWC
import Derived.Test.YthadehgpeafniaaMC
import Derived.Test.YthadehgpeafniaaME
import Derived.Test.YthadehgpeafniaaWNa
import Derived.Test.YthadehgpeafniaaLNq
import Derived.Test.YthadehgpeafniaaPlan
set_option linter.unusedSimpArgs false
set_option linter.unusedVariables false
attribute [local go_sem ↓] Go.wp_at_zero Go.wp_at_succ
namespace Go.Proofs.Ythadehgpeafniaa
open Go.ChangeShapes Go.WideShapes Go.ChangeAt Go.RowKit

theorem bit_tests {s : Int} (h0 : 0 ≤ s) (i : Nat) : (s / 2 ^ i % 2 == 1) = bit s i ∧ ((s / 2 ^ i).tmod 2 == 1) = bit s i ∧ (s / 2 ^ i % 2 == 0) = !bit s i ∧ ((s / 2 ^ i).tmod 2 == 0) = !bit s i := by
  have h1 := bit_mod_nat s i h0
  have hp : (0 : Int) < 2 ^ i := Int.pow_pos (by omega)
  have h2 : 0 ≤ s / 2 ^ i := Int.ediv_nonneg h0 (by omega)
  have h3 : (s / 2 ^ i % 2 == 0) = !(s / 2 ^ i % 2 == 1) := by
    rw [Bool.eq_iff_iff, beq_iff_eq, Bool.not_eq_true', beq_eq_false_iff_ne]; omega
  rw [Int.tmod_eq_emod_of_nonneg h2, h3, h1]
  exact ⟨rfl, rfl, rfl, rfl⟩
structure NrW (m : Nat) (ws : List Wy) (ee : Int) (L : List Int) : Prop where
  m2 : 2 ≤ m
  m6 : m ≤ 6
  no : netOk (m : Int) ws = true
  len : L.length = m
  row : ∀ k : Nat, k < m → ∃ r : Int, L.getD k 0 = r ∧ r < m ∧ (0 ≤ r → bit ee r = true) ∧ (bit ee k = true → 0 ≤ r ∧ farF ws m k r.toNat = 0 ∧ r ≤ k) ∧ ∀ j : Nat, j < m → bit ee j = true → 0 ≤ farF ws m k j → 0 ≤ r ∧ farF ws m k r.toNat ≤ farF ws m k j ∧ (farF ws m k j = farF ws m k r.toNat → r ≤ j)
theorem row_words {n : Int} {ws : List Wy} {ee : Int} (hok : (netOk n ws && plOk n ee) = true) : ∃ m : Nat, n = m ∧ NrW m ws ee (nearestRow n ws ee) := by
  obtain ⟨hno, hpe⟩ : netOk n ws = true ∧ plOk n ee = true := by simpa using hok
  have hn := netOk_t hno
  have h2 := hn.lo
  have h6 := hn.hi
  obtain ⟨m, rfl⟩ := Int.eq_ofNat_of_zero_le (show 0 ≤ n by omega)
  have hl := nearest_len hok
  refine ⟨m, rfl, by omega, by omega, hno, by omega, fun k hk => ?_⟩
  have hN := nrTo_ok (farF ws m) ee k m
  have key : ∀ j : Nat, j < m → bit ee j = true → 0 ≤ farF ws m k j → 0 ≤ nrTo (farF ws m) ee k m ∧ farF ws m k (nrTo (farF ws m) ee k m).toNat ≤ farF ws m k j ∧ (farF ws m k j = farF ws m k (nrTo (farF ws m) ee k m).toNat → nrTo (farF ws m) ee k m ≤ j) := fun j hj hb h0 => by
    have hr : 0 ≤ nrTo (farF ws m) ee k m := by
      by_cases h : 0 ≤ nrTo (farF ws m) ee k m
      · exact h
      · have := hN.none (by omega) j hj hb; omega
    exact ⟨hr, (hN.some hr).2.2 j hj hb h0⟩
  refine ⟨_, nearest_at hok hk, hN.hi, fun hr => (hN.some hr).1, fun hb => ?_, key⟩
  have hd := farF_diag hn hk
  obtain ⟨h1, h2', h3⟩ := key k hk hb (by omega)
  have h4 := (hN.some h1).2.1
  exact ⟨h1, by omega, h3 (by omega)⟩
set_option maxRecDepth 100000 in
set_option maxHeartbeats 32000000 in
theorem FnNearestRow_walk (A : Option Addr) (len cap : Nat) (w : World) (hr : RB w w.heap.size A len) (hc : len ≤ cap) (hlen : len ≤ 9223372036854775807) :
    Calls Try.prog 4 #[.slice A len cap] w fun e w' => e = .returned (.bool true) ∧ Below w.heap.size w w' := by
  have HR := Lib.hid hr
  clear hr
  by_cases hm : 1048576 < len
  · go_enter Try.func4, Try.ntmps4
    go_wp2_with fail
    go_ret
    exact ⟨rfl, Below.refl _ _⟩
  · go_enter Try.func4, Try.ntmps4
    go_wp2_with fail
    refine (DrawNearestRow_any A len cap _ HR.out hc (by omega)).mono ?_
    rintro e wd ⟨nn, ss, A', c', ws, rfl, hrw, hl10, hcc, hn0, hn7, hs0, hs1, hbd⟩
    have HRW := Lib.hid hrw
    have HBD := Lib.hid hbd
    have hzd : w.heap.size ≤ wd.heap.size := hbd.size
    clear hrw hbd
    obtain ⟨ee, hee⟩ : ∃ e, e = ss := ⟨_, rfl⟩
    subst hee
    have HS0 := Lib.hid hs0
    cases hok : netOk nn ws && plOk nn ee
    · have HNN := Lib.hid (nearest_none hok)
      clear hok
      go_wp2_with fail
      refine (NearestRow_any _ _ _ _ _ _ (HRW.out.later (by go_grown))).mono ?_; rintro e w1 ⟨A1, c1, rfl, hrow1, hb1⟩
      rw [HNN.out] at hrow1 ⊢; simp only [List.length_nil, World.size_alloc] at hrow1 ⊢
      obtain ⟨hc1, hf1⟩ := bcell hb1
      have hz1_0 : wd.heap.size < w1.heap.size := by have hq := hb1.size; (try simp at hq); omega
      have HK1 := Lib.hid hb1
      have HB1 := Lib.hid (bstep (B := wd.heap.size) (W := wd) (by (try have hp := HB0.out); go_grown) (by go_size) hb1); clear hb1
      go_wp2_with fail
      refine (sNearestRow_any _ _ _ _ _ _ (HRW.out.later (by have := HB1.out; go_grown)) (by omega)).mono ?_; rintro e w2 ⟨A2, c2, rfl, hrow2, hb2⟩
      rw [HNN.out] at hrow2 ⊢; simp only [List.length_nil] at hrow2 ⊢
      obtain ⟨hc2, hf2⟩ := bcell hb2
      have hz2_0 : wd.heap.size < w2.heap.size := by have hq := hb2.size; (try simp at hq); omega
      have HK2 := Lib.hid hb2
      have HB2 := Lib.hid (bstep (B := wd.heap.size) (W := wd) (by have hp := HB1.out; go_grown) (by go_size) hb2); clear hb2
      go_wp2_with fail
      refine (sameInts_any A1 A2 _ _ 0 _ _ _ _ _ _ (hrow1.below HK2.out) hrow2 (by omega)).mono ?_; rintro e w3 ⟨rfl, hb3⟩
      obtain ⟨hc3, hf3⟩ := bcell hb3
      have hz3_0 : wd.heap.size < w3.heap.size := by have hq := hb3.size; (try simp at hq); omega
      have HK3 := Lib.hid hb3
      have HB3 := Lib.hid (bstep (B := wd.heap.size) (W := wd) (by have hp := HB2.out; go_grown) (by go_size) hb3); clear hb3
      go_wp2_with fail
      refine (alive_any _).mono ?_; rintro e w4 ⟨rfl, hb4⟩
      obtain ⟨hc4, hf4⟩ := bcell hb4
      have hz4_0 : wd.heap.size < w4.heap.size := by have hq := hb4.size; (try simp at hq); omega
      have HK4 := Lib.hid hb4
      have HB4 := Lib.hid (bstep (B := wd.heap.size) (W := wd) (by have hp := HB3.out; go_grown) (by go_size) hb4); clear hb4
      go_wp2_with fail
      go_ret
      exact ⟨rfl, bstep HBD.out hzd HB4.out⟩
    · obtain ⟨m, rfl, hw⟩ := row_words hok
      obtain ⟨L, hL⟩ : ∃ L, nearestRow (m : Int) ws ee = L := ⟨_, rfl⟩
      rw [hL] at hw
      have HLL := Lib.hid hL
      have HW := Lib.hid hw
      obtain ⟨m2, m6, hno, hlen9, -⟩ := hw
      have HNO := Lib.hid hno
      have HPM := Lib.hid hlen9
      have hm0 : 0 < m := by omega
      have hpos : ((m : Int) == 0) = false := by simp; omega
      clear hok hno hlen9 hL hs0
      go_wp2_with fail
      refine (NearestRow_any _ _ _ _ _ _ (HRW.out.later (by go_grown))).mono ?_; rintro e w1 ⟨A1, c1, rfl, hrow1, hb1⟩
      rw [HLL.out, HPM.out] at hrow1 ⊢; simp only [World.size_alloc] at hrow1
      obtain ⟨hc1, hf1⟩ := bcell hb1
      have hz1_0 : wd.heap.size < w1.heap.size := by have hq := hb1.size; (try simp at hq); omega
      have HK1 := Lib.hid hb1
      have HB1 := Lib.hid (bstep (B := wd.heap.size) (W := wd) (by (try have hp := HB0.out); go_grown) (by go_size) hb1); clear hb1
      go_wp2_with fail
      refine (sNearestRow_any _ _ _ _ _ _ (HRW.out.later (by have := HB1.out; go_grown)) (by omega)).mono ?_; rintro e w2 ⟨A2, c2, rfl, hrow2, hb2⟩
      rw [HLL.out, HPM.out] at hrow2 ⊢
      obtain ⟨hc2, hf2⟩ := bcell hb2
      have hz2_0 : wd.heap.size < w2.heap.size := by have hq := hb2.size; (try simp at hq); omega
      have HK2 := Lib.hid hb2
      have HB2 := Lib.hid (bstep (B := wd.heap.size) (W := wd) (by have hp := HB1.out; go_grown) (by go_size) hb2); clear hb2
      have R1 := Lib.hid (hrow1.below HK2.out)
      have R2 := Lib.hid hrow2
      clear hrow1 hrow2
      go_wp2_with fail
      refine (sameInts_any A1 A2 _ _ m _ _ _ _ _ _ R1.out R2.out (by omega)).mono ?_; rintro e w3 ⟨rfl, hb3⟩
      obtain ⟨hc3, hf3⟩ := bcell hb3
      have hz3_0 : wd.heap.size < w3.heap.size := by have hq := hb3.size; (try simp at hq); omega
      have HK3 := Lib.hid hb3
      have HB3 := Lib.hid (bstep (B := wd.heap.size) (W := wd) (by have hp := HB2.out; go_grown) (by go_size) hb3); clear hb3
      have R3 := Lib.hid (R1.out.below HK3.out)
      have k3 : w3.cell? ⟨wd.heap.size, 0, none⟩ = some (.int .i64 (m : Int)) ∧ w3.cell? ⟨wd.heap.size, 1, none⟩ = some (.slice A' ws.length c') := ⟨by go_simp, by go_simp⟩
      obtain ⟨k30, k31⟩ := k3
      clear R1 R2 hc1 hf1 hc2 hf2 hc3 hf3
      go_wp2_with fail
      refine (FarTable_any m _ _ _ _ (HRW.out.later (by have := HB3.out; go_grown)) HNO.out).mono ?_; rintro e4 w4 ⟨T, hT0, rfl, htab, hb4⟩
      have g4 : Below w3.heap.size w3 w4 := ⟨hb4.os, hb4.tape, hb4.output, hb4.size, hb4.block⟩
      have HTAB := Lib.hid htab.toR
      have HROW4 := Lib.hid (R3.out.below g4)
      obtain ⟨k40, -⟩ := keep2 g4 ⟨k30, k31⟩ hz3_0
      have HK40 := Lib.hid k40
      have HB4 := Lib.hid (bstep (B := wd.heap.size) (W := wd) HB3.out (Nat.le_of_lt hz3_0) g4)
      obtain ⟨rb, ro, rfl, -, -, -, -⟩ := HROW4.out.at_ 0 hm0
      have HX : Hid (∀ k : Nat, k < m → w4.cell? ⟨rb, ro + k, none⟩ = some (.int .i64 (L.getD k 0))) := fun k hk => by
        obtain ⟨b', o', e9, -, -, z, -⟩ := HROW4.out.at_ k hk
        injection e9 with e9; injection e9 with e91 e92; subst e91; subst e92
        exact z
      clear hb4 g4 htab k30 k31 k40 R3
      go_wp2_with fail
      go_loopw [7] (fun u wr => ∃ k q : Nat, k ≤ m ∧ u = .int .i64 k ∧ wr = w4.drewN q) (fun v _ => m - (intOf v).toNat)
      case atStart => exact ⟨0, 0, Nat.zero_le _, rfl, rfl⟩
      case round =>
        obtain ⟨k, q, hk, rfl, hwr⟩ := hrel
        have HWR := Lib.hid hwr
        have hk0 : (0 : Int) ≤ (k : Int) := by omega
        by_cases hlt : k < m
        · have hk1 : (k : Int) < (m : Int) := by omega
          obtain ⟨r, hr9, hrm, hrb, hend, hkey⟩ := HW.out.row k hlt
          have y0 : wr.cell? ⟨rb, ro + k, none⟩ = some (.int .i64 (L.getD k 0)) := by rw [hwr]; exact HX.out k hlt
          have h00 := HX.out k hlt
          rw [hr9] at y0 h00
          obtain ⟨b1, b2, -, -⟩ := bit_tests (s := ee) HS0.out k
          cases hE : bit ee (k : Int)
          · rw [hE] at b1 b2
            by_cases hrn : r < 0
            · have t1 : decide (0 ≤ r) = false := decide_eq_false (by omega)
              have HX0 := Lib.hid h00
              have HKEY := Lib.hid hkey
              clear hr9 hrb hend hkey hwr hE h00
              go_wp2_with fail
              refine wp_region_held_drew (S := (fun w' => w'.cell? ⟨rb, ro + k, none⟩ = some (.int .i64 r))) (by kernel_rfl) ?_ (fun hHeld => ?_)
              · exact y0
              refine plan_start [(0, true), (1, true), (2, true), (3, true), (4, true), (5, true), (6, true), (7, true), (8, true), (9, true), (10, true), (11, true), (12, false), (13, false), (14, false), (15, false), (16, false), (17, false), (18, false), (19, false), (20, true), (21, true), (22, true), (23, true), (24, true), (25, true), (26, true), (27, true), (28, true), (29, false), (30, false), (31, false), (32, false), (33, false), (34, false), (35, false), (36, false), (37, false), (38, false), (39, false), (40, false), (41, false), (42, false), (43, false), (44, false), (45, false), (46, false), (47, false), (48, false), (49, false), (50, false), (51, false), (52, false), (53, false), (54, false), (55, true), (56, true)] ?_
              iterate 57
                first
                  | (refine plan_take (v := ?_) rfl (by kernel_rfl) (by kernel_rfl) (by kernel_rfl) (fun _ _ _ h => h) (Or.inl ⟨by rfl, ?_⟩) (by assumption) ?_
                     rotate_left
                     · (intro w hSw; (try dsimp only at hSw); (try simp only [List.getElem_toArray, List.getElem_cons_succ, List.getElem_cons_zero]); first | (go_simp; done) | (go_simp; with_reducible rfl)))
                  | (refine plan_bar rfl (by kernel_rfl) (by kernel_rfl) (by kernel_rfl) (fun _ _ _ h => h) (Or.inr ⟨by rfl, rfl⟩) (by assumption) ?_)
                try simp only [Act.put, List.getElem_toArray, List.getElem_cons_succ, List.getElem_cons_zero, List.setIfInBounds_toArray, List.set_cons_zero, List.set_cons_succ]
              refine plan_end ?_
              refine wpAnyH_done (by kernel_rfl) ?_ _
              clear b1 b2 t1
              go_wp2_with fail
              go_loopw [8] (fun u wr => ∃ j q : Nat, j ≤ m ∧ u = .int .i64 j ∧ wr = w4.drewN q) (fun v _ => m - (intOf v).toNat)
              case atStart => exact ⟨0, q + 1, Nat.zero_le _, rfl, by rw [HWR.out]; rfl⟩
              case round =>
                obtain ⟨j, q', hj, rfl, hwq⟩ := hrel
                have HWQ := Lib.hid hwq
                have hj0 : (0 : Int) ≤ (j : Int) := by omega
                by_cases hlj : j < m
                · have hj1 : (j : Int) < (m : Int) := by omega
                  have hkey := HKEY.out
                  have x0 : wr.cell? ⟨rb, ro + k, none⟩ = some (.int .i64 r) := by rw [hwq]; exact HX0.out
                  obtain ⟨b1, b2, -, -⟩ := bit_tests (s := ee) HS0.out j
                  cases hJ : bit ee (j : Int)
                  · as_aux_lemma =>
                      rw [hJ] at b1 b2
                      clear hkey hwq hJ
                      go_wp2_with fail
                      (try simp only [List.append_eq, List.cons_append, List.nil_append])
                      refine wp_region_held_drew (S := (fun w' => w'.cell? ⟨rb, ro + k, none⟩ = some (.int .i64 r))) (by kernel_rfl) ?_ (fun hHeld => ?_)
                      · exact x0
                      refine plan_start [(0, true), (1, true), (2, true), (3, true), (4, true), (5, true), (6, false), (7, false), (8, false), (9, false), (10, false), (11, false), (12, false), (13, false), (14, true), (15, true), (16, false), (17, false), (18, false), (19, false), (20, false), (21, false), (22, false), (23, false), (24, false), (25, false), (26, false), (27, false), (28, false), (29, false), (30, false), (31, false), (32, false), (33, false), (34, false), (35, false), (36, false), (37, false), (38, false), (39, false), (40, false), (41, false), (42, false), (43, false), (44, false), (45, false), (46, false), (47, false), (48, false), (49, false), (50, false), (51, false), (52, false), (53, false), (54, false), (55, false), (56, false), (57, false), (58, false), (59, false), (60, false), (61, false), (62, false), (63, false), (64, false), (65, false), (66, false), (67, false), (68, false), (69, true)] ?_
                      iterate 70
                        first
                          | (refine plan_take (v := ?_) rfl (by kernel_rfl) (by kernel_rfl) (by kernel_rfl) (fun _ _ _ h => h) (Or.inl ⟨by rfl, ?_⟩) (by assumption) ?_
                             rotate_left
                             · (intro w hSw; (try dsimp only at hSw); (try simp only [List.getElem_toArray, List.getElem_cons_succ, List.getElem_cons_zero]); first | (go_simp; done) | (go_simp; with_reducible rfl)))
                          | (refine plan_bar rfl (by kernel_rfl) (by kernel_rfl) (by kernel_rfl) (fun _ _ _ h => h) (Or.inr ⟨by rfl, rfl⟩) (by assumption) ?_)
                        try simp only [Act.put, List.getElem_toArray, List.getElem_cons_succ, List.getElem_cons_zero, List.setIfInBounds_toArray, List.set_cons_zero, List.set_cons_succ]
                      refine plan_end ?_
                      refine wpAnyH_done (by kernel_rfl) ?_ _
                      go_wp2_with fail
                      go_roundw
                      case rel => exact ⟨j + 1, q' + 1, by omega, by go_num, by rw [HWQ.out]; rfl⟩
                      case measure => (simp [intOf]) <;> omega
                  · rw [hJ] at b1 b2
                    have x1 : wr.cell? ⟨T, k, none⟩ = some (.slice (some ⟨T + 1 + k, 0, none⟩) m m) := by rw [hwq]; exact HTAB.out.top k hlt
                    obtain ⟨G, hG⟩ : ∃ G, farF ws m k j = G := ⟨_, rfl⟩
                    have x2 : wr.cell? ⟨T + 1 + k, j, none⟩ = some (.int .i64 (farF ws m k j)) := by rw [hwq]; exact (HTAB.out.row k j hlt hlj).1
                    rw [hG] at x2
                    by_cases hG0 : G < 0
                    · as_aux_lemma =>
                        have t1 : decide (0 ≤ G) = false := decide_eq_false (by omega)
                        clear hkey hG hwq hJ
                        go_wp2_with fail
                        (try simp only [List.append_eq, List.cons_append, List.nil_append])
                        refine wp_region_held_drew (S := (fun w' => w'.cell? ⟨rb, ro + k, none⟩ = some (.int .i64 r) ∧ w'.cell? ⟨T, k, none⟩ = some (.slice (some ⟨T + 1 + k, 0, none⟩) m m) ∧ w'.cell? ⟨T + 1 + k, j, none⟩ = some (.int .i64 G))) (by kernel_rfl) ?_ (fun hHeld => ?_)
                        · exact ⟨x0, x1, x2⟩
                        refine plan_start [(0, true), (1, true), (2, true), (3, true), (4, true), (5, true), (6, true), (7, true), (8, true), (9, true), (10, true), (11, true), (12, true), (13, true), (14, true), (15, true), (16, false), (17, false), (18, false), (19, false), (20, false), (21, false), (22, false), (23, false), (24, false), (25, false), (26, false), (27, false), (28, false), (29, false), (30, false), (31, false), (32, false), (33, false), (34, false), (35, false), (36, false), (37, false), (38, false), (39, false), (40, false), (41, false), (42, false), (43, false), (44, false), (45, false), (46, false), (47, false), (48, false), (49, false), (50, false), (51, false), (52, false), (53, false), (54, false), (55, false), (56, false), (57, false), (58, false), (59, false), (60, false), (61, false), (62, false), (63, false), (64, false), (65, false), (66, false), (67, false), (68, false), (69, true)] ?_
                        iterate 70
                          first
                            | (refine plan_take (v := ?_) rfl (by kernel_rfl) (by kernel_rfl) (by kernel_rfl) (fun _ _ _ h => h) (Or.inl ⟨by rfl, ?_⟩) (by assumption) ?_
                               rotate_left
                               · (intro w hSw; (try dsimp only at hSw); (try simp only [List.getElem_toArray, List.getElem_cons_succ, List.getElem_cons_zero]); first | (go_simp; done) | (go_simp; with_reducible rfl)))
                            | (refine plan_bar rfl (by kernel_rfl) (by kernel_rfl) (by kernel_rfl) (fun _ _ _ h => h) (Or.inr ⟨by rfl, rfl⟩) (by assumption) ?_)
                          try simp only [Act.put, List.getElem_toArray, List.getElem_cons_succ, List.getElem_cons_zero, List.setIfInBounds_toArray, List.set_cons_zero, List.set_cons_succ]
                        refine plan_end ?_
                        refine wpAnyH_done (by kernel_rfl) ?_ _
                        go_wp2_with fail
                        go_roundw
                        case rel => exact ⟨j + 1, q' + 1, by omega, by go_num, by rw [HWQ.out]; rfl⟩
                        case measure => (simp [intOf]) <;> omega
                    · exact absurd ((hkey j hlj hJ (by rw [hG]; omega)).1) (by omega)
                · obtain rfl : j = m := by omega
                  have hjj : ¬ (j : Int) < (j : Int) := by omega
                  clear hwq
                  go_wp2_with fail
                  go_roundw
                  case rel => exact ⟨k + 1, q', by omega, by go_num, HWQ.out⟩
                  case measure => (simp [intOf]) <;> omega
            · obtain ⟨rn, rfl⟩ := Int.eq_ofNat_of_zero_le (show 0 ≤ r by omega)
              have hrb' := hrb (by omega)
              obtain ⟨c1', c2', c3', c4'⟩ := bit_tests (s := ee) HS0.out rn
              rw [hrb'] at c1' c2' c3' c4'
              have t1 : decide ((0 : Int) ≤ (rn : Int)) = true := decide_eq_true (by omega)
              have hr0 : (0 : Int) ≤ (rn : Int) := by omega
              have HX0 := Lib.hid h00
              have HKEY := Lib.hid hkey
              clear hr9 hrb hend hkey hwr hE h00 hrb' hrn
              go_wp2_with fail
              refine wp_region_held_drew (S := (fun w' => w'.cell? ⟨rb, ro + k, none⟩ = some (.int .i64 (rn : Int)))) (by kernel_rfl) ?_ (fun hHeld => ?_)
              · exact y0
              refine plan_start [(0, true), (1, true), (2, true), (3, true), (4, true), (5, true), (6, true), (7, true), (8, true), (9, true), (10, true), (11, true), (12, true), (13, true), (14, true), (15, true), (16, true), (17, true), (18, true), (19, true), (20, true), (21, true), (22, true), (23, true), (24, true), (25, true), (26, true), (27, true), (28, true), (29, false), (30, false), (31, false), (32, false), (33, false), (34, false), (35, false), (36, false), (37, false), (38, false), (39, false), (40, false), (41, false), (42, false), (43, false), (44, false), (45, false), (46, false), (47, false), (48, false), (49, false), (50, false), (51, false), (52, false), (53, false), (54, false), (55, true), (56, true)] ?_
              iterate 57
                first
                  | (refine plan_take (v := ?_) rfl (by kernel_rfl) (by kernel_rfl) (by kernel_rfl) (fun _ _ _ h => h) (Or.inl ⟨by rfl, ?_⟩) (by assumption) ?_
                     rotate_left
                     · (intro w hSw; (try dsimp only at hSw); (try simp only [List.getElem_toArray, List.getElem_cons_succ, List.getElem_cons_zero]); first | (go_simp; done) | (go_simp; with_reducible rfl)))
                  | (refine plan_bar rfl (by kernel_rfl) (by kernel_rfl) (by kernel_rfl) (fun _ _ _ h => h) (Or.inr ⟨by rfl, rfl⟩) (by assumption) ?_)
                try simp only [Act.put, List.getElem_toArray, List.getElem_cons_succ, List.getElem_cons_zero, List.setIfInBounds_toArray, List.set_cons_zero, List.set_cons_succ]
              refine plan_end ?_
              refine wpAnyH_done (by kernel_rfl) ?_ _
              clear b1 b2 c1' c2' c3' c4' t1
              go_wp2_with fail
              go_loopw [8] (fun u wr => ∃ j q : Nat, j ≤ m ∧ u = .int .i64 j ∧ wr = w4.drewN q) (fun v _ => m - (intOf v).toNat)
              case atStart => exact ⟨0, q + 1, Nat.zero_le _, rfl, by rw [HWR.out]; rfl⟩
              case round =>
                obtain ⟨j, q', hj, rfl, hwq⟩ := hrel
                have HWQ := Lib.hid hwq
                have hj0 : (0 : Int) ≤ (j : Int) := by omega
                by_cases hlj : j < m
                · have hj1 : (j : Int) < (m : Int) := by omega
                  have hkey := HKEY.out
                  have x0 : wr.cell? ⟨rb, ro + k, none⟩ = some (.int .i64 (rn : Int)) := by rw [hwq]; exact HX0.out
                  obtain ⟨b1, b2, -, -⟩ := bit_tests (s := ee) HS0.out j
                  cases hJ : bit ee (j : Int)
                  · as_aux_lemma =>
                      rw [hJ] at b1 b2
                      clear hkey hwq hJ
                      go_wp2_with fail
                      (try simp only [List.append_eq, List.cons_append, List.nil_append])
                      refine wp_region_held_drew (S := (fun w' => w'.cell? ⟨rb, ro + k, none⟩ = some (.int .i64 (rn : Int)))) (by kernel_rfl) ?_ (fun hHeld => ?_)
                      · exact x0
                      refine plan_start [(0, true), (1, true), (2, true), (3, true), (4, true), (5, true), (6, false), (7, false), (8, false), (9, false), (10, false), (11, false), (12, false), (13, false), (14, true), (15, true), (16, false), (17, false), (18, false), (19, false), (20, false), (21, false), (22, false), (23, false), (24, false), (25, false), (26, false), (27, false), (28, false), (29, false), (30, false), (31, false), (32, false), (33, false), (34, false), (35, false), (36, false), (37, false), (38, false), (39, false), (40, false), (41, false), (42, false), (43, false), (44, false), (45, false), (46, false), (47, false), (48, false), (49, false), (50, false), (51, false), (52, false), (53, false), (54, false), (55, false), (56, false), (57, false), (58, false), (59, false), (60, false), (61, false), (62, false), (63, false), (64, false), (65, false), (66, false), (67, false), (68, false), (69, true)] ?_
                      iterate 70
                        first
                          | (refine plan_take (v := ?_) rfl (by kernel_rfl) (by kernel_rfl) (by kernel_rfl) (fun _ _ _ h => h) (Or.inl ⟨by rfl, ?_⟩) (by assumption) ?_
                             rotate_left
                             · (intro w hSw; (try dsimp only at hSw); (try simp only [List.getElem_toArray, List.getElem_cons_succ, List.getElem_cons_zero]); first | (go_simp; done) | (go_simp; with_reducible rfl)))
                          | (refine plan_bar rfl (by kernel_rfl) (by kernel_rfl) (by kernel_rfl) (fun _ _ _ h => h) (Or.inr ⟨by rfl, rfl⟩) (by assumption) ?_)
                        try simp only [Act.put, List.getElem_toArray, List.getElem_cons_succ, List.getElem_cons_zero, List.setIfInBounds_toArray, List.set_cons_zero, List.set_cons_succ]
                      refine plan_end ?_
                      refine wpAnyH_done (by kernel_rfl) ?_ _
                      go_wp2_with fail
                      go_roundw
                      case rel => exact ⟨j + 1, q' + 1, by omega, by go_num, by rw [HWQ.out]; rfl⟩
                      case measure => (simp [intOf]) <;> omega
                  · rw [hJ] at b1 b2
                    have x1 : wr.cell? ⟨T, k, none⟩ = some (.slice (some ⟨T + 1 + k, 0, none⟩) m m) := by rw [hwq]; exact HTAB.out.top k hlt
                    obtain ⟨G, hG⟩ : ∃ G, farF ws m k j = G := ⟨_, rfl⟩
                    have x2 : wr.cell? ⟨T + 1 + k, j, none⟩ = some (.int .i64 (farF ws m k j)) := by rw [hwq]; exact (HTAB.out.row k j hlt hlj).1
                    rw [hG] at x2
                    obtain ⟨FR, hFR⟩ : ∃ G, farF ws m k rn = G := ⟨_, rfl⟩
                    have x3 : wr.cell? ⟨T + 1 + k, rn, none⟩ = some (.int .i64 (farF ws m k rn)) := by rw [hwq]; exact (HTAB.out.row k rn hlt (by omega)).1
                    rw [hFR] at x3
                    by_cases hG0 : G < 0
                    · as_aux_lemma =>
                        have t1 : decide (0 ≤ G) = false := decide_eq_false (by omega)
                        clear hkey hG hwq hJ
                        go_wp2_with fail
                        (try simp only [List.append_eq, List.cons_append, List.nil_append])
                        refine wp_region_held_drew (S := (fun w' => w'.cell? ⟨rb, ro + k, none⟩ = some (.int .i64 (rn : Int)) ∧ w'.cell? ⟨T, k, none⟩ = some (.slice (some ⟨T + 1 + k, 0, none⟩) m m) ∧ w'.cell? ⟨T + 1 + k, j, none⟩ = some (.int .i64 G))) (by kernel_rfl) ?_ (fun hHeld => ?_)
                        · exact ⟨x0, x1, x2⟩
                        refine plan_start [(0, true), (1, true), (2, true), (3, true), (4, true), (5, true), (6, true), (7, true), (8, true), (9, true), (10, true), (11, true), (12, true), (13, true), (14, true), (15, true), (16, false), (17, false), (18, false), (19, false), (20, false), (21, false), (22, false), (23, false), (24, false), (25, false), (26, false), (27, false), (28, false), (29, false), (30, false), (31, false), (32, false), (33, false), (34, false), (35, false), (36, false), (37, false), (38, false), (39, false), (40, false), (41, false), (42, false), (43, false), (44, false), (45, false), (46, false), (47, false), (48, false), (49, false), (50, false), (51, false), (52, false), (53, false), (54, false), (55, false), (56, false), (57, false), (58, false), (59, false), (60, false), (61, false), (62, false), (63, false), (64, false), (65, false), (66, false), (67, false), (68, false), (69, true)] ?_
                        iterate 70
                          first
                            | (refine plan_take (v := ?_) rfl (by kernel_rfl) (by kernel_rfl) (by kernel_rfl) (fun _ _ _ h => h) (Or.inl ⟨by rfl, ?_⟩) (by assumption) ?_
                               rotate_left
                               · (intro w hSw; (try dsimp only at hSw); (try simp only [List.getElem_toArray, List.getElem_cons_succ, List.getElem_cons_zero]); first | (go_simp; done) | (go_simp; with_reducible rfl)))
                            | (refine plan_bar rfl (by kernel_rfl) (by kernel_rfl) (by kernel_rfl) (fun _ _ _ h => h) (Or.inr ⟨by rfl, rfl⟩) (by assumption) ?_)
                          try simp only [Act.put, List.getElem_toArray, List.getElem_cons_succ, List.getElem_cons_zero, List.setIfInBounds_toArray, List.set_cons_zero, List.set_cons_succ]
                        refine plan_end ?_
                        refine wpAnyH_done (by kernel_rfl) ?_ _
                        go_wp2_with fail
                        go_roundw
                        case rel => exact ⟨j + 1, q' + 1, by omega, by go_num, by rw [HWQ.out]; rfl⟩
                        case measure => (simp [intOf]) <;> omega
                    · obtain ⟨-, hle, heq⟩ := hkey j hlj hJ (by rw [hG]; omega)
                      rw [hG, Int.toNat_natCast, hFR] at hle heq
                      have t1 : decide (0 ≤ G) = true := decide_eq_true (by omega)
                      have t2 : decide ((rn : Int) < 0) = false := decide_eq_false (by omega)
                      have t3 : decide (G < FR) = false := decide_eq_false (by omega)
                      by_cases hGF : G = FR
                      · as_aux_lemma =>
                          have t4 : (G == FR) = true := by rw [hGF]; simp
                          have hrj := heq hGF
                          have t5 : decide ((j : Int) < (rn : Int)) = false := decide_eq_false (by omega)
                          have t5n : decide (j < rn) = false := decide_eq_false (by omega)
                          clear hkey hG hFR hle heq hwq hGF hJ hrj
                          go_wp2_with fail
                          (try simp only [List.append_eq, List.cons_append, List.nil_append])
                          refine wp_region_held_drew (S := (fun w' => w'.cell? ⟨rb, ro + k, none⟩ = some (.int .i64 (rn : Int)) ∧ w'.cell? ⟨T, k, none⟩ = some (.slice (some ⟨T + 1 + k, 0, none⟩) m m) ∧ w'.cell? ⟨T + 1 + k, j, none⟩ = some (.int .i64 G) ∧ w'.cell? ⟨T + 1 + k, rn, none⟩ = some (.int .i64 FR))) (by kernel_rfl) ?_ (fun hHeld => ?_)
                          · exact ⟨x0, x1, x2, x3⟩
                          refine plan_start [(0, true), (1, true), (2, true), (3, true), (4, true), (5, true), (6, true), (7, true), (8, true), (9, true), (10, true), (11, true), (12, true), (13, true), (14, true), (15, true), (16, true), (17, true), (18, true), (19, true), (20, true), (21, true), (22, true), (23, true), (24, true), (25, true), (26, true), (27, true), (28, true), (29, true), (30, true), (31, true), (32, true), (33, true), (34, true), (35, true), (36, true), (37, true), (38, true), (39, true), (40, true), (41, true), (42, true), (43, true), (44, true), (45, true), (46, true), (47, true), (48, true), (49, true), (50, true), (51, true), (52, true), (53, true), (54, true), (55, true), (56, true), (57, true), (58, true), (59, true), (60, true), (61, true), (62, true), (63, true), (64, true), (65, true), (66, true), (67, true), (68, true), (69, true)] ?_
                          iterate 70
                            first
                              | (refine plan_take (v := ?_) rfl (by kernel_rfl) (by kernel_rfl) (by kernel_rfl) (fun _ _ _ h => h) (Or.inl ⟨by rfl, ?_⟩) (by assumption) ?_
                                 rotate_left
                                 · (intro w hSw; (try dsimp only at hSw); (try simp only [List.getElem_toArray, List.getElem_cons_succ, List.getElem_cons_zero]); first | (go_simp; done) | (go_simp; with_reducible rfl)))
                              | (refine plan_bar rfl (by kernel_rfl) (by kernel_rfl) (by kernel_rfl) (fun _ _ _ h => h) (Or.inr ⟨by rfl, rfl⟩) (by assumption) ?_)
                            try simp only [Act.put, List.getElem_toArray, List.getElem_cons_succ, List.getElem_cons_zero, List.setIfInBounds_toArray, List.set_cons_zero, List.set_cons_succ]
                          refine plan_end ?_
                          refine wpAnyH_done (by kernel_rfl) ?_ _
                          go_wp2_with fail
                          go_roundw
                          case rel => exact ⟨j + 1, q' + 1, by omega, by go_num, by rw [HWQ.out]; rfl⟩
                          case measure => (simp [intOf]) <;> omega
                      · as_aux_lemma =>
                          have t4 : (G == FR) = false := by rw [beq_eq_false_iff_ne]; exact hGF
                          clear hkey hG hFR hle heq hwq hGF hJ
                          go_wp2_with fail
                          (try simp only [List.append_eq, List.cons_append, List.nil_append])
                          refine wp_region_held_drew (S := (fun w' => w'.cell? ⟨rb, ro + k, none⟩ = some (.int .i64 (rn : Int)) ∧ w'.cell? ⟨T, k, none⟩ = some (.slice (some ⟨T + 1 + k, 0, none⟩) m m) ∧ w'.cell? ⟨T + 1 + k, j, none⟩ = some (.int .i64 G) ∧ w'.cell? ⟨T + 1 + k, rn, none⟩ = some (.int .i64 FR))) (by kernel_rfl) ?_ (fun hHeld => ?_)
                          · exact ⟨x0, x1, x2, x3⟩
                          refine plan_start [(0, true), (1, true), (2, true), (3, true), (4, true), (5, true), (6, true), (7, true), (8, true), (9, true), (10, true), (11, true), (12, true), (13, true), (14, true), (15, true), (16, true), (17, true), (18, true), (19, true), (20, true), (21, true), (22, true), (23, true), (24, true), (25, true), (26, true), (27, true), (28, true), (29, true), (30, true), (31, true), (32, true), (33, true), (34, true), (35, true), (36, true), (37, true), (38, true), (39, true), (40, true), (41, true), (42, true), (43, true), (44, true), (45, true), (46, true), (47, true), (48, true), (49, true), (50, true), (51, true), (52, true), (53, true), (54, true), (55, true), (56, true), (57, true), (58, true), (59, true), (60, true), (61, false), (62, false), (63, false), (64, false), (65, false), (66, false), (67, true), (68, true), (69, true)] ?_
                          iterate 70
                            first
                              | (refine plan_take (v := ?_) rfl (by kernel_rfl) (by kernel_rfl) (by kernel_rfl) (fun _ _ _ h => h) (Or.inl ⟨by rfl, ?_⟩) (by assumption) ?_
                                 rotate_left
                                 · (intro w hSw; (try dsimp only at hSw); (try simp only [List.getElem_toArray, List.getElem_cons_succ, List.getElem_cons_zero]); first | (go_simp; done) | (go_simp; with_reducible rfl)))
                              | (refine plan_bar rfl (by kernel_rfl) (by kernel_rfl) (by kernel_rfl) (fun _ _ _ h => h) (Or.inr ⟨by rfl, rfl⟩) (by assumption) ?_)
                            try simp only [Act.put, List.getElem_toArray, List.getElem_cons_succ, List.getElem_cons_zero, List.setIfInBounds_toArray, List.set_cons_zero, List.set_cons_succ]
                          refine plan_end ?_
                          refine wpAnyH_done (by kernel_rfl) ?_ _
                          go_wp2_with fail
                          go_roundw
                          case rel => exact ⟨j + 1, q' + 1, by omega, by go_num, by rw [HWQ.out]; rfl⟩
                          case measure => (simp [intOf]) <;> omega
                · obtain rfl : j = m := by omega
                  have hjj : ¬ (j : Int) < (j : Int) := by omega
                  clear hwq
                  go_wp2_with fail
                  go_roundw
                  case rel => exact ⟨k + 1, q', by omega, by go_num, HWQ.out⟩
                  case measure => (simp [intOf]) <;> omega
          · rw [hE] at b1 b2
            obtain ⟨hr0, hf0, hrk⟩ := hend hE
            obtain ⟨rn, rfl⟩ := Int.eq_ofNat_of_zero_le hr0
            rw [Int.toNat_natCast] at hf0
            have hrb' := hrb hr0
            obtain ⟨c1', c2', c3', c4'⟩ := bit_tests (s := ee) HS0.out rn
            rw [hrb'] at c1' c2' c3' c4'
            have t1 : decide ((0 : Int) ≤ (rn : Int)) = true := decide_eq_true (by omega)
            have t2 : decide ((rn : Int) < 0) = false := decide_eq_false (by omega)
            have t3 : decide ((k : Int) < (rn : Int)) = false := decide_eq_false (by omega)
            have t3n : decide (k < rn) = false := decide_eq_false (by omega)
            have y1 : wr.cell? ⟨T, k, none⟩ = some (.slice (some ⟨T + 1 + k, 0, none⟩) m m) := by rw [hwr]; exact HTAB.out.top k hlt
            have y2 : wr.cell? ⟨T + 1 + k, rn, none⟩ = some (.int .i64 (farF ws m k rn)) := by rw [hwr]; exact (HTAB.out.row k rn hlt (by omega)).1
            rw [hf0] at y2
            have HX0 := Lib.hid h00
            have HKEY := Lib.hid hkey
            clear hr9 hrb hend hkey hwr hE h00 hrb' hf0
            go_wp2_with fail
            refine wp_region_held_drew (S := (fun w' => w'.cell? ⟨rb, ro + k, none⟩ = some (.int .i64 (rn : Int)) ∧ w'.cell? ⟨T, k, none⟩ = some (.slice (some ⟨T + 1 + k, 0, none⟩) m m) ∧ w'.cell? ⟨T + 1 + k, rn, none⟩ = some (.int .i64 0))) (by kernel_rfl) ?_ (fun hHeld => ?_)
            · exact ⟨y0, y1, y2⟩
            refine plan_start [(0, true), (1, true), (2, true), (3, true), (4, true), (5, true), (6, true), (7, true), (8, true), (9, true), (10, true), (11, true), (12, true), (13, true), (14, true), (15, true), (16, true), (17, true), (18, true), (19, true), (20, true), (21, true), (22, true), (23, true), (24, true), (25, true), (26, true), (27, true), (28, true), (29, true), (30, true), (31, true), (32, true), (33, true), (34, true), (35, true), (36, true), (37, true), (38, true), (39, true), (40, true), (41, true), (42, true), (43, true), (44, true), (45, true), (46, true), (47, true), (48, true), (49, true), (50, true), (51, true), (52, true), (53, true), (54, true), (55, true), (56, true)] ?_
            iterate 57
              first
                | (refine plan_take (v := ?_) rfl (by kernel_rfl) (by kernel_rfl) (by kernel_rfl) (fun _ _ _ h => h) (Or.inl ⟨by rfl, ?_⟩) (by assumption) ?_
                   rotate_left
                   · (intro w hSw; (try dsimp only at hSw); (try simp only [List.getElem_toArray, List.getElem_cons_succ, List.getElem_cons_zero]); first | (go_simp; done) | (go_simp; with_reducible rfl)))
                | (refine plan_bar rfl (by kernel_rfl) (by kernel_rfl) (by kernel_rfl) (fun _ _ _ h => h) (Or.inr ⟨by rfl, rfl⟩) (by assumption) ?_)
              try simp only [Act.put, List.getElem_toArray, List.getElem_cons_succ, List.getElem_cons_zero, List.setIfInBounds_toArray, List.set_cons_zero, List.set_cons_succ]
            refine plan_end ?_
            refine wpAnyH_done (by kernel_rfl) ?_ _
            clear b1 b2 c1' c2' c3' c4' t1 t2 t3 t3n y0 y1 y2
            go_wp2_with fail
            go_loopw [8] (fun u wr => ∃ j q : Nat, j ≤ m ∧ u = .int .i64 j ∧ wr = w4.drewN q) (fun v _ => m - (intOf v).toNat)
            case atStart => exact ⟨0, q + 1, Nat.zero_le _, rfl, by rw [HWR.out]; rfl⟩
            case round =>
              obtain ⟨j, q', hj, rfl, hwq⟩ := hrel
              have HWQ := Lib.hid hwq
              have hj0 : (0 : Int) ≤ (j : Int) := by omega
              by_cases hlj : j < m
              · have hj1 : (j : Int) < (m : Int) := by omega
                have hkey := HKEY.out
                have x0 : wr.cell? ⟨rb, ro + k, none⟩ = some (.int .i64 (rn : Int)) := by rw [hwq]; exact HX0.out
                obtain ⟨b1, b2, -, -⟩ := bit_tests (s := ee) HS0.out j
                cases hJ : bit ee (j : Int)
                · as_aux_lemma =>
                    rw [hJ] at b1 b2
                    clear hkey hwq hJ
                    go_wp2_with fail
                    (try simp only [List.append_eq, List.cons_append, List.nil_append])
                    refine wp_region_held_drew (S := (fun w' => w'.cell? ⟨rb, ro + k, none⟩ = some (.int .i64 (rn : Int)))) (by kernel_rfl) ?_ (fun hHeld => ?_)
                    · exact x0
                    refine plan_start [(0, true), (1, true), (2, true), (3, true), (4, true), (5, true), (6, false), (7, false), (8, false), (9, false), (10, false), (11, false), (12, false), (13, false), (14, true), (15, true), (16, false), (17, false), (18, false), (19, false), (20, false), (21, false), (22, false), (23, false), (24, false), (25, false), (26, false), (27, false), (28, false), (29, false), (30, false), (31, false), (32, false), (33, false), (34, false), (35, false), (36, false), (37, false), (38, false), (39, false), (40, false), (41, false), (42, false), (43, false), (44, false), (45, false), (46, false), (47, false), (48, false), (49, false), (50, false), (51, false), (52, false), (53, false), (54, false), (55, false), (56, false), (57, false), (58, false), (59, false), (60, false), (61, false), (62, false), (63, false), (64, false), (65, false), (66, false), (67, false), (68, false), (69, true)] ?_
                    iterate 70
                      first
                        | (refine plan_take (v := ?_) rfl (by kernel_rfl) (by kernel_rfl) (by kernel_rfl) (fun _ _ _ h => h) (Or.inl ⟨by rfl, ?_⟩) (by assumption) ?_
                           rotate_left
                           · (intro w hSw; (try dsimp only at hSw); (try simp only [List.getElem_toArray, List.getElem_cons_succ, List.getElem_cons_zero]); first | (go_simp; done) | (go_simp; with_reducible rfl)))
                        | (refine plan_bar rfl (by kernel_rfl) (by kernel_rfl) (by kernel_rfl) (fun _ _ _ h => h) (Or.inr ⟨by rfl, rfl⟩) (by assumption) ?_)
                      try simp only [Act.put, List.getElem_toArray, List.getElem_cons_succ, List.getElem_cons_zero, List.setIfInBounds_toArray, List.set_cons_zero, List.set_cons_succ]
                    refine plan_end ?_
                    refine wpAnyH_done (by kernel_rfl) ?_ _
                    go_wp2_with fail
                    go_roundw
                    case rel => exact ⟨j + 1, q' + 1, by omega, by go_num, by rw [HWQ.out]; rfl⟩
                    case measure => (simp [intOf]) <;> omega
                · rw [hJ] at b1 b2
                  have x1 : wr.cell? ⟨T, k, none⟩ = some (.slice (some ⟨T + 1 + k, 0, none⟩) m m) := by rw [hwq]; exact HTAB.out.top k hlt
                  obtain ⟨G, hG⟩ : ∃ G, farF ws m k j = G := ⟨_, rfl⟩
                  have x2 : wr.cell? ⟨T + 1 + k, j, none⟩ = some (.int .i64 (farF ws m k j)) := by rw [hwq]; exact (HTAB.out.row k j hlt hlj).1
                  rw [hG] at x2
                  obtain ⟨FR, hFR⟩ : ∃ G, farF ws m k rn = G := ⟨_, rfl⟩
                  have x3 : wr.cell? ⟨T + 1 + k, rn, none⟩ = some (.int .i64 (farF ws m k rn)) := by rw [hwq]; exact (HTAB.out.row k rn hlt (by omega)).1
                  rw [hFR] at x3
                  by_cases hG0 : G < 0
                  · as_aux_lemma =>
                      have t1 : decide (0 ≤ G) = false := decide_eq_false (by omega)
                      clear hkey hG hwq hJ
                      go_wp2_with fail
                      (try simp only [List.append_eq, List.cons_append, List.nil_append])
                      refine wp_region_held_drew (S := (fun w' => w'.cell? ⟨rb, ro + k, none⟩ = some (.int .i64 (rn : Int)) ∧ w'.cell? ⟨T, k, none⟩ = some (.slice (some ⟨T + 1 + k, 0, none⟩) m m) ∧ w'.cell? ⟨T + 1 + k, j, none⟩ = some (.int .i64 G))) (by kernel_rfl) ?_ (fun hHeld => ?_)
                      · exact ⟨x0, x1, x2⟩
                      refine plan_start [(0, true), (1, true), (2, true), (3, true), (4, true), (5, true), (6, true), (7, true), (8, true), (9, true), (10, true), (11, true), (12, true), (13, true), (14, true), (15, true), (16, false), (17, false), (18, false), (19, false), (20, false), (21, false), (22, false), (23, false), (24, false), (25, false), (26, false), (27, false), (28, false), (29, false), (30, false), (31, false), (32, false), (33, false), (34, false), (35, false), (36, false), (37, false), (38, false), (39, false), (40, false), (41, false), (42, false), (43, false), (44, false), (45, false), (46, false), (47, false), (48, false), (49, false), (50, false), (51, false), (52, false), (53, false), (54, false), (55, false), (56, false), (57, false), (58, false), (59, false), (60, false), (61, false), (62, false), (63, false), (64, false), (65, false), (66, false), (67, false), (68, false), (69, true)] ?_
                      iterate 70
                        first
                          | (refine plan_take (v := ?_) rfl (by kernel_rfl) (by kernel_rfl) (by kernel_rfl) (fun _ _ _ h => h) (Or.inl ⟨by rfl, ?_⟩) (by assumption) ?_
                             rotate_left
                             · (intro w hSw; (try dsimp only at hSw); (try simp only [List.getElem_toArray, List.getElem_cons_succ, List.getElem_cons_zero]); first | (go_simp; done) | (go_simp; with_reducible rfl)))
                          | (refine plan_bar rfl (by kernel_rfl) (by kernel_rfl) (by kernel_rfl) (fun _ _ _ h => h) (Or.inr ⟨by rfl, rfl⟩) (by assumption) ?_)
                        try simp only [Act.put, List.getElem_toArray, List.getElem_cons_succ, List.getElem_cons_zero, List.setIfInBounds_toArray, List.set_cons_zero, List.set_cons_succ]
                      refine plan_end ?_
                      refine wpAnyH_done (by kernel_rfl) ?_ _
                      go_wp2_with fail
                      go_roundw
                      case rel => exact ⟨j + 1, q' + 1, by omega, by go_num, by rw [HWQ.out]; rfl⟩
                      case measure => (simp [intOf]) <;> omega
                  · obtain ⟨-, hle, heq⟩ := hkey j hlj hJ (by rw [hG]; omega)
                    rw [hG, Int.toNat_natCast, hFR] at hle heq
                    have t1 : decide (0 ≤ G) = true := decide_eq_true (by omega)
                    have t2 : decide ((rn : Int) < 0) = false := decide_eq_false (by omega)
                    have t3 : decide (G < FR) = false := decide_eq_false (by omega)
                    by_cases hGF : G = FR
                    · as_aux_lemma =>
                        have t4 : (G == FR) = true := by rw [hGF]; simp
                        have hrj := heq hGF
                        have t5 : decide ((j : Int) < (rn : Int)) = false := decide_eq_false (by omega)
                        have t5n : decide (j < rn) = false := decide_eq_false (by omega)
                        clear hkey hG hFR hle heq hwq hGF hJ hrj
                        go_wp2_with fail
                        (try simp only [List.append_eq, List.cons_append, List.nil_append])
                        refine wp_region_held_drew (S := (fun w' => w'.cell? ⟨rb, ro + k, none⟩ = some (.int .i64 (rn : Int)) ∧ w'.cell? ⟨T, k, none⟩ = some (.slice (some ⟨T + 1 + k, 0, none⟩) m m) ∧ w'.cell? ⟨T + 1 + k, j, none⟩ = some (.int .i64 G) ∧ w'.cell? ⟨T + 1 + k, rn, none⟩ = some (.int .i64 FR))) (by kernel_rfl) ?_ (fun hHeld => ?_)
                        · exact ⟨x0, x1, x2, x3⟩
                        refine plan_start [(0, true), (1, true), (2, true), (3, true), (4, true), (5, true), (6, true), (7, true), (8, true), (9, true), (10, true), (11, true), (12, true), (13, true), (14, true), (15, true), (16, true), (17, true), (18, true), (19, true), (20, true), (21, true), (22, true), (23, true), (24, true), (25, true), (26, true), (27, true), (28, true), (29, true), (30, true), (31, true), (32, true), (33, true), (34, true), (35, true), (36, true), (37, true), (38, true), (39, true), (40, true), (41, true), (42, true), (43, true), (44, true), (45, true), (46, true), (47, true), (48, true), (49, true), (50, true), (51, true), (52, true), (53, true), (54, true), (55, true), (56, true), (57, true), (58, true), (59, true), (60, true), (61, true), (62, true), (63, true), (64, true), (65, true), (66, true), (67, true), (68, true), (69, true)] ?_
                        iterate 70
                          first
                            | (refine plan_take (v := ?_) rfl (by kernel_rfl) (by kernel_rfl) (by kernel_rfl) (fun _ _ _ h => h) (Or.inl ⟨by rfl, ?_⟩) (by assumption) ?_
                               rotate_left
                               · (intro w hSw; (try dsimp only at hSw); (try simp only [List.getElem_toArray, List.getElem_cons_succ, List.getElem_cons_zero]); first | (go_simp; done) | (go_simp; with_reducible rfl)))
                            | (refine plan_bar rfl (by kernel_rfl) (by kernel_rfl) (by kernel_rfl) (fun _ _ _ h => h) (Or.inr ⟨by rfl, rfl⟩) (by assumption) ?_)
                          try simp only [Act.put, List.getElem_toArray, List.getElem_cons_succ, List.getElem_cons_zero, List.setIfInBounds_toArray, List.set_cons_zero, List.set_cons_succ]
                        refine plan_end ?_
                        refine wpAnyH_done (by kernel_rfl) ?_ _
                        go_wp2_with fail
                        go_roundw
                        case rel => exact ⟨j + 1, q' + 1, by omega, by go_num, by rw [HWQ.out]; rfl⟩
                        case measure => (simp [intOf]) <;> omega
                    · as_aux_lemma =>
                        have t4 : (G == FR) = false := by rw [beq_eq_false_iff_ne]; exact hGF
                        clear hkey hG hFR hle heq hwq hGF hJ
                        go_wp2_with fail
                        (try simp only [List.append_eq, List.cons_append, List.nil_append])
                        refine wp_region_held_drew (S := (fun w' => w'.cell? ⟨rb, ro + k, none⟩ = some (.int .i64 (rn : Int)) ∧ w'.cell? ⟨T, k, none⟩ = some (.slice (some ⟨T + 1 + k, 0, none⟩) m m) ∧ w'.cell? ⟨T + 1 + k, j, none⟩ = some (.int .i64 G) ∧ w'.cell? ⟨T + 1 + k, rn, none⟩ = some (.int .i64 FR))) (by kernel_rfl) ?_ (fun hHeld => ?_)
                        · exact ⟨x0, x1, x2, x3⟩
                        refine plan_start [(0, true), (1, true), (2, true), (3, true), (4, true), (5, true), (6, true), (7, true), (8, true), (9, true), (10, true), (11, true), (12, true), (13, true), (14, true), (15, true), (16, true), (17, true), (18, true), (19, true), (20, true), (21, true), (22, true), (23, true), (24, true), (25, true), (26, true), (27, true), (28, true), (29, true), (30, true), (31, true), (32, true), (33, true), (34, true), (35, true), (36, true), (37, true), (38, true), (39, true), (40, true), (41, true), (42, true), (43, true), (44, true), (45, true), (46, true), (47, true), (48, true), (49, true), (50, true), (51, true), (52, true), (53, true), (54, true), (55, true), (56, true), (57, true), (58, true), (59, true), (60, true), (61, false), (62, false), (63, false), (64, false), (65, false), (66, false), (67, true), (68, true), (69, true)] ?_
                        iterate 70
                          first
                            | (refine plan_take (v := ?_) rfl (by kernel_rfl) (by kernel_rfl) (by kernel_rfl) (fun _ _ _ h => h) (Or.inl ⟨by rfl, ?_⟩) (by assumption) ?_
                               rotate_left
                               · (intro w hSw; (try dsimp only at hSw); (try simp only [List.getElem_toArray, List.getElem_cons_succ, List.getElem_cons_zero]); first | (go_simp; done) | (go_simp; with_reducible rfl)))
                            | (refine plan_bar rfl (by kernel_rfl) (by kernel_rfl) (by kernel_rfl) (fun _ _ _ h => h) (Or.inr ⟨by rfl, rfl⟩) (by assumption) ?_)
                          try simp only [Act.put, List.getElem_toArray, List.getElem_cons_succ, List.getElem_cons_zero, List.setIfInBounds_toArray, List.set_cons_zero, List.set_cons_succ]
                        refine plan_end ?_
                        refine wpAnyH_done (by kernel_rfl) ?_ _
                        go_wp2_with fail
                        go_roundw
                        case rel => exact ⟨j + 1, q' + 1, by omega, by go_num, by rw [HWQ.out]; rfl⟩
                        case measure => (simp [intOf]) <;> omega
              · obtain rfl : j = m := by omega
                have hjj : ¬ (j : Int) < (j : Int) := by omega
                clear hwq
                go_wp2_with fail
                go_roundw
                case rel => exact ⟨k + 1, q', by omega, by go_num, HWQ.out⟩
                case measure => (simp [intOf]) <;> omega
        · obtain rfl : k = m := by omega
          have hkk : ¬ (k : Int) < (k : Int) := by omega
          have k0 : wr.cell? ⟨wd.heap.size, 0, none⟩ = some (.int .i64 (k : Int)) := by rw [hwr]; exact HK40.out
          have HBR : Hid (Below wd.heap.size wd wr) := by show Below _ _ _; rw [hwr]; exact ⟨HB4.out.os, HB4.out.tape, HB4.out.output, HB4.out.size, HB4.out.block⟩
          clear hwr
          go_wp2_with fail
          go_ret
          exact ⟨rfl, bstep HBD.out hzd HBR.out⟩
end Go.Proofs.Ythadehgpeafniaa
