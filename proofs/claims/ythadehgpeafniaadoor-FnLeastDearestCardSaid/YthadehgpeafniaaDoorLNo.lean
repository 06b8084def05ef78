/- Walk of the law FnFarthestRow. -/
import Derived.Test.YthadehgpeafniaaDoorNxI
import Derived.Test.YthadehgpeafniaaDoorNxD
import Derived.Test.YthadehgpeafniaaDoorWC
import Derived.Test.YthadehgpeafniaaDoorMC
import Derived.Test.YthadehgpeafniaaDoorME
import Derived.Test.YthadehgpeafniaaDoorWNa
import Derived.Test.YthadehgpeafniaaDoorST
import Derived.Test.YthadehgpeafniaaDoorNxH
set_option linter.unusedSimpArgs false
set_option linter.unusedVariables false
attribute [local go_sem ↓] Go.wp_at_zero Go.wp_at_succ
namespace Go.Proofs.YthadehgpeafniaaDoor
open Go.ChangeShapes Go.WideShapes Go.ChangeAt Go.RowKit

structure FhW (m : Nat) (ws : List Wy) (f : Nat → Int) : Prop where
  m2 : 2 ≤ m
  m6 : m ≤ 6
  bd : ∀ k : Nat, k < m → 0 ≤ f k ∧ f k ≤ 81
  way : ∀ (k : Nat) (x : Wy), ws[k]? = some x → ∃ a b : Nat, x.a = (a : Int) ∧ x.b = (b : Int) ∧ a < m ∧ b < m ∧ 0 ≤ x.c ∧ x.c ≤ 9 ∧ f a ≤ f b + x.c ∧ f b ≤ f a + x.c
  twice : joins ws (span ws (allPl (m : Int))) (allPl (m : Int)) = true → ∀ a b : Nat, a < m → b < m → f a ≤ 2 * f b
theorem farthest_words {n : Int} {ws : List Wy} (hno : netOk n ws = true) : ∃ m : Nat, n = m ∧ (farthestRow n ws).length = m ∧ FhW m ws (fun j => (farthestRow n ws).getD j 0) := by
  have hn := netOk_t hno
  have h2 := hn.lo
  have h6 := hn.hi
  obtain ⟨m, rfl⟩ := Int.eq_ofNat_of_zero_le (show 0 ≤ n by omega)
  have hl : farthestRow (m : Int) ws = (List.range m).map (fun a => fhTo (farF ws m) a m) := by unfold farthestRow; rw [if_pos hno, Int.toNat_natCast]
  have hat : ∀ k, k < m → (farthestRow (m : Int) ws).getD k 0 = fhTo (farF ws m) k m := fun k hk => by
    rw [hl, List.getD_eq_getElem?_getD, List.getElem?_map, List.getElem?_range hk]; rfl
  refine ⟨m, rfl, by rw [hl]; simp, by omega, by omega, fun k hk => ?_, fun k x hx => ?_, fun hj a b ha hb => ?_⟩
  · show 0 ≤ (farthestRow (m : Int) ws).getD k 0 ∧ (farthestRow (m : Int) ws).getD k 0 ≤ 81
    rw [hat k hk]
    exact ⟨fh_nn _ _ _, (fhTo_le m).2 ⟨by omega, fun j hj => far_bd81 hn hk hj⟩⟩
  · have hxa := hn.at_ hx
    obtain ⟨a, ha⟩ := Int.eq_ofNat_of_zero_le hxa.1
    obtain ⟨b, hb⟩ := Int.eq_ofNat_of_zero_le hxa.2.2.1
    have hw := farF_way hn hx
    unfold WayLe at hw
    rw [ha, hb, Int.toNat_natCast, Int.toNat_natCast] at hw
    have ham : a < m := by omega
    have hbm : b < m := by omega
    refine ⟨a, b, ha, hb, ham, hbm, by omega, by omega, ?_, ?_⟩
    · show (farthestRow (m : Int) ws).getD a 0 ≤ (farthestRow (m : Int) ws).getD b 0 + x.c
      rw [hat a ham, hat b hbm]
      exact fh_way (far_tri hn) (far_sym hn) ham hbm hw.1.1 hw.1.2
    · show (farthestRow (m : Int) ws).getD b 0 ≤ (farthestRow (m : Int) ws).getD a 0 + x.c
      rw [hat a ham, hat b hbm]
      exact fh_way (far_tri hn) (far_sym hn) hbm ham hw.2.1 hw.2.2
  · show (farthestRow (m : Int) ws).getD a 0 ≤ 2 * (farthestRow (m : Int) ws).getD b 0
    rw [hat a ha, hat b hb]
    exact fh_twice (far_tri hn) (far_sym hn) (far_whole hn hj) ha hb
theorem farthest_no {n : Int} {ws : List Wy} (hno : netOk n ws = false) : (farthestRow n ws).length = 0 := by
  unfold farthestRow; rw [if_neg (by rw [hno]; simp)]; rfl
theorem span_at {n : Int} {ws : List Wy} (h : ¬ spanTreeOf n ws < 0) : joins ws (span ws (allPl n)) (allPl n) = true := by
  unfold spanTreeOf at h
  split at h
  · split at h
    · assumption
    · omega
  · omega
set_option maxRecDepth 100000 in
set_option maxHeartbeats 2000000 in
theorem FnFarthestRow_walk (A : Option Addr) (len cap : Nat) (w : World) (hr : RB w w.heap.size A len) (hc : len ≤ cap) (hlen : len ≤ 9223372036854775807) (hT : Tab w) :
    Calls Tryd.prog 4 #[.slice A len cap] w fun e w' => e = .returned (.bool true) ∧ Below w.heap.size w w' := by
  have HR := Lib.hid hr
  have HT := Lib.hid hT
  clear hT
  clear hr
  by_cases hm : 1048576 < len
  · go_enter Tryd.func4, Tryd.ntmps4
    go_wp2_with fail
    go_ret
    exact ⟨rfl, Below.refl _ _⟩
  · go_enter Tryd.func4, Tryd.ntmps4
    go_wp2_with fail
    refine (DrawFarthestRow_any A len cap _ HR.out hc (by omega)).mono ?_
    rintro e wd ⟨nn, A', c', ws, rfl, hrw, hl10, hcc, hn0, hn7, hbd⟩
    have HRW := Lib.hid hrw
    have HBD := Lib.hid hbd
    have HTD := Lib.hid (HT.out.later hbd)
    have hzd : w.heap.size ≤ wd.heap.size := hbd.size
    clear hrw hbd
    have h6 : (farthestRow nn ws).length ≤ 6 := farthestRow_len nn ws
    obtain ⟨L, hL⟩ : ∃ L, farthestRow nn ws = L := ⟨_, rfl⟩
    have HLL := Lib.hid hL
    rw [hL] at h6
    obtain ⟨m, hpm⟩ : ∃ m, L.length = m := ⟨_, rfl⟩
    rw [hpm] at h6
    have HPM := Lib.hid hpm
    clear hpm hL
    go_wp2_with fail
    refine (FarthestRow_any _ _ _ _ _ (HRW.out.later (by go_grown))).mono ?_; rintro e w1 ⟨A1, c1, rfl, hrow1, hb1⟩
    rw [HLL.out, HPM.out] at hrow1 ⊢; simp only [World.size_alloc] at hrow1
    obtain ⟨hc1, hf1⟩ := bcell hb1
    have hz1_0 : wd.heap.size < w1.heap.size := by have hq := hb1.size; (try simp at hq); omega
    have HK1 := Lib.hid hb1
    have HB1 := Lib.hid (bstep (B := wd.heap.size) (W := wd) (by (try have hp := HB0.out); go_grown) (by go_size) hb1); clear hb1
    go_wp2_with fail
    refine (sFarthestRow_any _ _ _ _ _ (HRW.out.later (by have := HB1.out; go_grown)) (by omega)).mono ?_; rintro e w2 ⟨A2, c2, rfl, hrow2, hb2⟩
    rw [HLL.out, HPM.out] at hrow2 ⊢
    obtain ⟨hc2, hf2⟩ := bcell hb2
    have hz2_0 : wd.heap.size < w2.heap.size := by have hq := hb2.size; (try simp at hq); omega
    have HK2 := Lib.hid hb2
    have HB2 := Lib.hid (bstep (B := wd.heap.size) (W := wd) (by have hp := HB1.out; go_grown) (by go_size) hb2); clear hb2
    have R1 := Lib.hid (hrow1.below HK2.out)
    have R2 := Lib.hid hrow2
    clear hrow1 hrow2
    go_wp2_with fail
    refine (sameInts_any A1 A2 _ _ m _ _ _ _ _ _ R1.out R2.out (by omega)).mono ?_; rintro e w3 ⟨rfl, hb3⟩
    obtain ⟨hc3, hf3⟩ := bcell hb3
    have hz3_0 : wd.heap.size < w3.heap.size := by have hq := hb3.size; (try simp at hq); omega
    have HK3 := Lib.hid hb3
    have HB3 := Lib.hid (bstep (B := wd.heap.size) (W := wd) (by have hp := HB2.out; go_grown) (by go_size) hb3); clear hb3
    have R3 := Lib.hid (R1.out.below HK3.out)
    clear R1 R2
    cases hno : netOk nn ws
    · have HNO := Lib.hid hno
      have hm0 : m = 0 := by rw [← HPM.out, ← HLL.out]; exact farthest_no hno
      subst hm0
      clear hno
      go_wp2_with fail
      refine (NetOk_any _ _ _ _ _ (HRW.out.later (by have := HB3.out; go_grown))).mono ?_; rintro e w4 ⟨rfl, hb4⟩
      rw [HNO.out]
      obtain ⟨hc4, hf4⟩ := bcell hb4
      have hz4_0 : wd.heap.size < w4.heap.size := by have hq := hb4.size; (try simp at hq); omega
      have HK4 := Lib.hid hb4
      have HB4 := Lib.hid (bstep (B := wd.heap.size) (W := wd) (by have hp := HB3.out; go_grown) (by go_size) hb4); clear hb4
      go_wp2_with fail
      refine (alive_any _).mono ?_; rintro e w5 ⟨rfl, hb5⟩
      obtain ⟨hc5, hf5⟩ := bcell hb5
      have hz5_0 : wd.heap.size < w5.heap.size := by have hq := hb5.size; (try simp at hq); omega
      have HK5 := Lib.hid hb5
      have HB5 := Lib.hid (bstep (B := wd.heap.size) (W := wd) (by have hp := HB4.out; go_grown) (by go_size) hb5); clear hb5
      go_wp2_with fail
      go_ret
      exact ⟨rfl, bstep HBD.out hzd HB5.out⟩
    · obtain ⟨m', rfl, hlm, hwd⟩ := farthest_words hno
      obtain rfl : m = m' := by rw [← HPM.out, ← HLL.out]; exact hlm
      rw [HLL.out] at hwd
      obtain ⟨f, hf⟩ : ∃ f : Nat → Int, (fun j => L.getD j 0) = f := ⟨_, rfl⟩
      have hR3 := R3.out
      rw [hf] at hwd hR3
      have HW := Lib.hid hwd
      have R4 := Lib.hid hR3
      obtain ⟨m2, m6, -, -, -⟩ := hwd
      have hm0 : 0 < m := by omega
      obtain ⟨rb, ro, rfl, hrl, hrh, z00, -⟩ := hR3.at_ 0 hm0
      have HRH : Hid (rb < w3.heap.size) := Nat.lt_of_lt_of_le hrh hR3.top
      have HZ : Hid (∀ k : Nat, k < m → w3.cell? ⟨rb, ro + k, none⟩ = some (.int .i64 (f k))) := fun k hk => by
        obtain ⟨b', o', e9, -, -, z, -⟩ := R4.out.at_ k hk
        injection e9 with e9; injection e9 with e91 e92; subst e91; subst e92
        exact z
      have hpos : ((m : Int) == 0) = false := by simp; omega
      have hpos1 : (0 : Int) < (m : Int) := by omega
      have k3 : w3.cell? ⟨wd.heap.size, 0, none⟩ = some (.int .i64 m) ∧ w3.cell? ⟨wd.heap.size, 1, none⟩ = some (.slice A' ws.length c') := ⟨by go_simp, by go_simp⟩
      obtain ⟨k30, k31⟩ := k3
      obtain ⟨F0, hF0⟩ : ∃ F, f 0 = F := ⟨_, rfl⟩
      rw [hF0] at z00
      have HF0 := Lib.hid hF0
      simp only [Nat.add_zero] at z00
      clear hR3 hf hno hlm hc1 hf1 hc2 hf2 hc3 hf3 hF0 R3
      go_wp2_with fail
      go_loopw [5, 6, 7] (fun v5 v6 v7 wr => ∃ (k : Nat) (lo hi : Int), k ≤ m ∧ v7 = .int .i64 k ∧ v5 = .int .i64 lo ∧ v6 = .int .i64 hi ∧ (∃ a : Nat, a < m ∧ f a = lo) ∧ (∃ a : Nat, a < m ∧ f a = hi) ∧ w3 = wr) (fun _ _ v _ => m - (intOf v).toNat)
      case atStart => exact ⟨0, F0, F0, Nat.zero_le _, rfl, rfl, rfl, ⟨0, hm0, HF0.out⟩, ⟨0, hm0, HF0.out⟩, rfl⟩
      case round =>
        obtain ⟨k, lo, hi, hk, rfl, rfl, rfl, ⟨a, ha, hla⟩, ⟨b, hb, hlb⟩, rfl⟩ := hrel
        have HLA := Lib.hid hla
        have HLB := Lib.hid hlb
        have hk0 : (0 : Int) ≤ (k : Int) := by omega
        clear hla hlb
        by_cases hlt : k < m
        · have hk1 : (k : Int) < (m : Int) := by omega
          have zk := HZ.out k hlt
          obtain ⟨X, hX⟩ : ∃ X, f k = X := ⟨_, rfl⟩
          rw [hX] at zk
          have HX := Lib.hid hX
          clear hX
          go_wp2_with fail
          go_roundw
          case rel => exact ⟨k + 1, min lo X, max hi X, by omega, by go_num, rfl, rfl, by
            rcases (by omega : min lo X = lo ∨ min lo X = X) with h | h
            · exact ⟨a, ha, by rw [h]; exact HLA.out⟩
            · exact ⟨k, hlt, by rw [h]; exact HX.out⟩, by
            rcases (by omega : max hi X = hi ∨ max hi X = X) with h | h
            · exact ⟨b, hb, by rw [h]; exact HLB.out⟩
            · exact ⟨k, hlt, by rw [h]; exact HX.out⟩, by first | rfl | trivial⟩
          case measure => (simp [intOf]) <;> omega
        · obtain rfl : k = m := by omega
          have hkk : ¬ (k : Int) < (k : Int) := by omega
          have hlob : 0 ≤ lo ∧ lo ≤ 81 := by rw [← HLA.out]; exact HW.out.bd a ha
          have HL3 := Lib.hid HB3.out
          go_wp2_with fail
          go_loopw [8] (fun u wr => ∃ j : Nat, j ≤ ws.length ∧ u = .int .i64 j ∧ wr.cell? ⟨wd.heap.size, 0, none⟩ = some (.int .i64 k) ∧ wr.cell? ⟨wd.heap.size, 1, none⟩ = some (.slice A' ws.length c') ∧ Below w3.heap.size w3 wr) (fun v _ => ws.length - (intOf v).toNat)
          case atStart => exact ⟨0, Nat.zero_le _, rfl, k30, k31, Below.refl _ _⟩
          case round =>
            clear k30 k31
            obtain ⟨j, hj, rfl, b0, b1, hbw⟩ := hrel
            have HBW := Lib.hid hbw
            have hj0 : (0 : Int) ≤ (j : Int) := by omega
            have hzr : wd.heap.size < wr.heap.size := Nat.lt_of_lt_of_le hz3_0 hbw.size
            have HBX := Lib.hid (bstep (B := wd.heap.size) (W := wd) HB3.out (Nat.le_of_lt hz3_0) hbw)
            by_cases hjl : j < ws.length
            · have hj1 : (j : Int) < (ws.length : Int) := by omega
              obtain ⟨x, hx⟩ : ∃ x, ws[j]? = some x := ⟨_, List.getElem?_eq_getElem hjl⟩
              obtain ⟨xa, xb, hxa, hxb, ham, hbm, hx0, hx9, hab, hba⟩ := HW.out.way j x hx
              obtain ⟨ob, oo, rfl, hOB, g0, g1, g2⟩ := (HRW.out.later HBX.out) j x hx
              obtain ⟨xc, hxc⟩ : ∃ c, x.c = c := ⟨_, rfl⟩
              rw [hxa] at g0
              rw [hxb] at g1
              rw [hxc] at g2 hx0 hx9 hab hba
              obtain ⟨FA, hFA⟩ : ∃ F, f xa = F := ⟨_, rfl⟩
              obtain ⟨FB, hFB⟩ : ∃ F, f xb = F := ⟨_, rfl⟩
              rw [hFA, hFB] at hab hba
              have ba := HW.out.bd xa ham
              have bb := HW.out.bd xb hbm
              rw [hFA] at ba
              rw [hFB] at bb
              have z0' := HZ.out xa ham
              have z1' := HZ.out xb hbm
              rw [hFA] at z0'
              rw [hFB] at z1'
              have hvb : (wr.alloc (.cells #[.int .i64 (xa : Int), .int .i64 (xb : Int), .int .i64 xc] 39)).heap[wr.heap.size]? = some (.cells #[.int .i64 (xa : Int), .int .i64 (xb : Int), .int .i64 xc] 39 (0, 0)) := heap_alloc_new _ _
              have HBV : Hid (Below w3.heap.size w3 (wr.alloc (.cells #[.int .i64 (xa : Int), .int .i64 (xb : Int), .int .i64 xc] 39))) := hbw.alloc hbw.size _
              have b0' : (wr.alloc (.cells #[.int .i64 (xa : Int), .int .i64 (xb : Int), .int .i64 xc] 39)).cell? ⟨wd.heap.size, 0, none⟩ = some (.int .i64 k) := (World.cell?_alloc_lt _ _ _ hzr).trans b0
              have b1' : (wr.alloc (.cells #[.int .i64 (xa : Int), .int .i64 (xb : Int), .int .i64 xc] 39)).cell? ⟨wd.heap.size, 1, none⟩ = some (.slice (some ⟨ob, oo, none⟩) ws.length c') := (World.cell?_alloc_lt _ _ _ hzr).trans b1
              obtain ⟨V, hV⟩ : ∃ V, wr.alloc (.cells #[.int .i64 (xa : Int), .int .i64 (xb : Int), .int .i64 xc] 39) = V := ⟨_, rfl⟩
              rw [hV] at hvb HBV b0' b1'
              have p0 : V.cell? ⟨wr.heap.size, 0, none⟩ = some (.int .i64 (xa : Int)) := cell_of_row _ _ 0 _ _ (0, 0) hvb
              have p1 : V.cell? ⟨wr.heap.size, 1, none⟩ = some (.int .i64 (xb : Int)) := cell_of_row _ _ 1 _ _ (0, 0) hvb
              have p2 : V.cell? ⟨wr.heap.size, 2, none⟩ = some (.int .i64 xc) := cell_of_row _ _ 2 _ _ (0, 0) hvb
              have z0 : V.cell? ⟨rb, ro + xa, none⟩ = some (.int .i64 FA) := (HBV.out.cell (p := ⟨rb, ro + xa, none⟩) HRH.out).trans z0'
              have z1 : V.cell? ⟨rb, ro + xb, none⟩ = some (.int .i64 FB) := (HBV.out.cell (p := ⟨rb, ro + xb, none⟩) HRH.out).trans z1'
              have h1 : IntKind.i64.wrap (FB + xc) = FB + xc := IntWalk.i64_in _ ⟨by omega, by omega⟩
              have h2 : wrap64 (FB + xc) = FB + xc := IntWalk.wrap64_in _ ⟨by omega, by omega⟩
              have h3 : IntKind.i64.wrap (FA + xc) = FA + xc := IntWalk.i64_in _ ⟨by omega, by omega⟩
              have h4 : wrap64 (FA + xc) = FA + xc := IntWalk.wrap64_in _ ⟨by omega, by omega⟩
              have t1 : decide (FB + xc < FA) = false := decide_eq_false (by omega)
              have t2 : decide (FA + xc < FB) = false := decide_eq_false (by omega)
              have ia0 : (0 : Int) ≤ (xa : Int) := by omega
              have ib0 : (0 : Int) ≤ (xb : Int) := by omega
              have ia1 : (xa : Int) < (k : Int) := by omega
              have ib1 : (xb : Int) < (k : Int) := by omega
              have B0 := Lib.hid b0'
              have B1 := Lib.hid b1'
              clear hbw hx hxa hxb hxc hFA hFB hab hba ba bb z0' z1' hvb b0' b1' hx0 hx9
              go_wp2_with fail
              refine wp_region_held_drew (S := (fun w' => (w'.cell? ⟨wr.heap.size, 0, none⟩ = some (.int .i64 (xa : Int)) ∧ w'.cell? ⟨wr.heap.size, 1, none⟩ = some (.int .i64 (xb : Int)) ∧ w'.cell? ⟨wr.heap.size, 2, none⟩ = some (.int .i64 xc)) ∧ w'.cell? ⟨rb, ro + xa, none⟩ = some (.int .i64 FA) ∧ w'.cell? ⟨rb, ro + xb, none⟩ = some (.int .i64 FB))) (by kernel_rfl) ?_ (fun hHeld => ?_)
              · exact ⟨⟨p0, p1, p2⟩, z0, z1⟩
              refine wpAnyH_take (i := 0) (v := ?_) rfl (by kernel_rfl) (by kernel_rfl) (by kernel_rfl) (fun _ _ _ h => h) (Or.inl ⟨by rfl, ?_⟩) (by assumption) ?_
              rotate_left
              · (intro w hSw; (try dsimp only at hSw); (try simp only [List.getElem_toArray, List.getElem_cons_succ, List.getElem_cons_zero]); first | (go_simp; done) | (go_simp; with_reducible rfl))
              try simp only [Act.put, List.getElem_toArray, List.getElem_cons_succ, List.getElem_cons_zero, List.setIfInBounds_toArray, List.set_cons_zero, List.set_cons_succ]
              refine wpAnyH_take (i := 1) (v := ?_) rfl (by kernel_rfl) (by kernel_rfl) (by kernel_rfl) (fun _ _ _ h => h) (Or.inl ⟨by rfl, ?_⟩) (by assumption) ?_
              rotate_left
              · (intro w hSw; (try dsimp only at hSw); (try simp only [List.getElem_toArray, List.getElem_cons_succ, List.getElem_cons_zero]); first | (go_simp; done) | (go_simp; with_reducible rfl))
              try simp only [Act.put, List.getElem_toArray, List.getElem_cons_succ, List.getElem_cons_zero, List.setIfInBounds_toArray, List.set_cons_zero, List.set_cons_succ]
              refine wpAnyH_take (i := 2) (v := ?_) rfl (by kernel_rfl) (by kernel_rfl) (by kernel_rfl) (fun _ _ _ h => h) (Or.inl ⟨by rfl, ?_⟩) (by assumption) ?_
              rotate_left
              · (intro w hSw; (try dsimp only at hSw); (try simp only [List.getElem_toArray, List.getElem_cons_succ, List.getElem_cons_zero]); first | (go_simp; done) | (go_simp; with_reducible rfl))
              try simp only [Act.put, List.getElem_toArray, List.getElem_cons_succ, List.getElem_cons_zero, List.setIfInBounds_toArray, List.set_cons_zero, List.set_cons_succ]
              refine wpAnyH_take (i := 3) (v := ?_) rfl (by kernel_rfl) (by kernel_rfl) (by kernel_rfl) (fun _ _ _ h => h) (Or.inl ⟨by rfl, ?_⟩) (by assumption) ?_
              rotate_left
              · (intro w hSw; (try dsimp only at hSw); (try simp only [List.getElem_toArray, List.getElem_cons_succ, List.getElem_cons_zero]); first | (go_simp; done) | (go_simp; with_reducible rfl))
              try simp only [Act.put, List.getElem_toArray, List.getElem_cons_succ, List.getElem_cons_zero, List.setIfInBounds_toArray, List.set_cons_zero, List.set_cons_succ]
              refine wpAnyH_take (i := 4) (v := ?_) rfl (by kernel_rfl) (by kernel_rfl) (by kernel_rfl) (fun _ _ _ h => h) (Or.inl ⟨by rfl, ?_⟩) (by assumption) ?_
              rotate_left
              · (intro w hSw; (try dsimp only at hSw); (try simp only [List.getElem_toArray, List.getElem_cons_succ, List.getElem_cons_zero]); first | (go_simp; done) | (go_simp; with_reducible rfl))
              try simp only [Act.put, List.getElem_toArray, List.getElem_cons_succ, List.getElem_cons_zero, List.setIfInBounds_toArray, List.set_cons_zero, List.set_cons_succ]
              refine wpAnyH_take (i := 5) (v := ?_) rfl (by kernel_rfl) (by kernel_rfl) (by kernel_rfl) (fun _ _ _ h => h) (Or.inl ⟨by rfl, ?_⟩) (by assumption) ?_
              rotate_left
              · (intro w hSw; (try dsimp only at hSw); (try simp only [List.getElem_toArray, List.getElem_cons_succ, List.getElem_cons_zero]); first | (go_simp; done) | (go_simp; with_reducible rfl))
              try simp only [Act.put, List.getElem_toArray, List.getElem_cons_succ, List.getElem_cons_zero, List.setIfInBounds_toArray, List.set_cons_zero, List.set_cons_succ]
              refine wpAnyH_take (i := 6) (v := ?_) rfl (by kernel_rfl) (by kernel_rfl) (by kernel_rfl) (fun _ _ _ h => h) (Or.inl ⟨by rfl, ?_⟩) (by assumption) ?_
              rotate_left
              · (intro w hSw; (try dsimp only at hSw); (try simp only [List.getElem_toArray, List.getElem_cons_succ, List.getElem_cons_zero]); first | (go_simp; done) | (go_simp; with_reducible rfl))
              try simp only [Act.put, List.getElem_toArray, List.getElem_cons_succ, List.getElem_cons_zero, List.setIfInBounds_toArray, List.set_cons_zero, List.set_cons_succ]
              refine wpAnyH_take (i := 7) (v := ?_) rfl (by kernel_rfl) (by kernel_rfl) (by kernel_rfl) (fun _ _ _ h => h) (Or.inl ⟨by rfl, ?_⟩) (by assumption) ?_
              rotate_left
              · (intro w hSw; (try dsimp only at hSw); (try simp only [List.getElem_toArray, List.getElem_cons_succ, List.getElem_cons_zero]); first | (go_simp; done) | (go_simp; with_reducible rfl))
              try simp only [Act.put, List.getElem_toArray, List.getElem_cons_succ, List.getElem_cons_zero, List.setIfInBounds_toArray, List.set_cons_zero, List.set_cons_succ]
              refine wpAnyH_take (i := 8) (v := ?_) rfl (by kernel_rfl) (by kernel_rfl) (by kernel_rfl) (fun _ _ _ h => h) (Or.inl ⟨by rfl, ?_⟩) (by assumption) ?_
              rotate_left
              · (intro w hSw; (try dsimp only at hSw); (try simp only [List.getElem_toArray, List.getElem_cons_succ, List.getElem_cons_zero]); first | (go_simp; done) | (go_simp; with_reducible rfl))
              try simp only [Act.put, List.getElem_toArray, List.getElem_cons_succ, List.getElem_cons_zero, List.setIfInBounds_toArray, List.set_cons_zero, List.set_cons_succ]
              refine wpAnyH_take (i := 9) (v := ?_) rfl (by kernel_rfl) (by kernel_rfl) (by kernel_rfl) (fun _ _ _ h => h) (Or.inl ⟨by rfl, ?_⟩) (by assumption) ?_
              rotate_left
              · (intro w hSw; (try dsimp only at hSw); (try simp only [List.getElem_toArray, List.getElem_cons_succ, List.getElem_cons_zero]); first | (go_simp; done) | (go_simp; with_reducible rfl))
              try simp only [Act.put, List.getElem_toArray, List.getElem_cons_succ, List.getElem_cons_zero, List.setIfInBounds_toArray, List.set_cons_zero, List.set_cons_succ]
              refine wpAnyH_take (i := 10) (v := ?_) rfl (by kernel_rfl) (by kernel_rfl) (by kernel_rfl) (fun _ _ _ h => h) (Or.inl ⟨by rfl, ?_⟩) (by assumption) ?_
              rotate_left
              · (intro w hSw; (try dsimp only at hSw); (try simp only [List.getElem_toArray, List.getElem_cons_succ, List.getElem_cons_zero]); first | (go_simp; done) | (go_simp; with_reducible rfl))
              try simp only [Act.put, List.getElem_toArray, List.getElem_cons_succ, List.getElem_cons_zero, List.setIfInBounds_toArray, List.set_cons_zero, List.set_cons_succ]
              refine wpAnyH_take (i := 11) (v := ?_) rfl (by kernel_rfl) (by kernel_rfl) (by kernel_rfl) (fun _ _ _ h => h) (Or.inl ⟨by rfl, ?_⟩) (by assumption) ?_
              rotate_left
              · (intro w hSw; (try dsimp only at hSw); (try simp only [List.getElem_toArray, List.getElem_cons_succ, List.getElem_cons_zero]); first | (go_simp; done) | (go_simp; with_reducible rfl))
              try simp only [Act.put, List.getElem_toArray, List.getElem_cons_succ, List.getElem_cons_zero, List.setIfInBounds_toArray, List.set_cons_zero, List.set_cons_succ]
              refine wpAnyH_take (i := 12) (v := ?_) rfl (by kernel_rfl) (by kernel_rfl) (by kernel_rfl) (fun _ _ _ h => h) (Or.inl ⟨by rfl, ?_⟩) (by assumption) ?_
              rotate_left
              · (intro w hSw; (try dsimp only at hSw); (try simp only [List.getElem_toArray, List.getElem_cons_succ, List.getElem_cons_zero]); first | (go_simp; done) | (go_simp; with_reducible rfl))
              try simp only [Act.put, List.getElem_toArray, List.getElem_cons_succ, List.getElem_cons_zero, List.setIfInBounds_toArray, List.set_cons_zero, List.set_cons_succ]
              refine wpAnyH_take (i := 13) (v := ?_) rfl (by kernel_rfl) (by kernel_rfl) (by kernel_rfl) (fun _ _ _ h => h) (Or.inl ⟨by rfl, ?_⟩) (by assumption) ?_
              rotate_left
              · (intro w hSw; (try dsimp only at hSw); (try simp only [List.getElem_toArray, List.getElem_cons_succ, List.getElem_cons_zero]); first | (go_simp; done) | (go_simp; with_reducible rfl))
              try simp only [Act.put, List.getElem_toArray, List.getElem_cons_succ, List.getElem_cons_zero, List.setIfInBounds_toArray, List.set_cons_zero, List.set_cons_succ]
              refine wpAnyH_take (i := 14) (v := ?_) rfl (by kernel_rfl) (by kernel_rfl) (by kernel_rfl) (fun _ _ _ h => h) (Or.inl ⟨by rfl, ?_⟩) (by assumption) ?_
              rotate_left
              · (intro w hSw; (try dsimp only at hSw); (try simp only [List.getElem_toArray, List.getElem_cons_succ, List.getElem_cons_zero]); first | (go_simp; done) | (go_simp; with_reducible rfl))
              try simp only [Act.put, List.getElem_toArray, List.getElem_cons_succ, List.getElem_cons_zero, List.setIfInBounds_toArray, List.set_cons_zero, List.set_cons_succ]
              refine wpAnyH_take (i := 15) (v := ?_) rfl (by kernel_rfl) (by kernel_rfl) (by kernel_rfl) (fun _ _ _ h => h) (Or.inl ⟨by rfl, ?_⟩) (by assumption) ?_
              rotate_left
              · (intro w hSw; (try dsimp only at hSw); (try simp only [List.getElem_toArray, List.getElem_cons_succ, List.getElem_cons_zero]); first | (go_simp; done) | (go_simp; with_reducible rfl))
              try simp only [Act.put, List.getElem_toArray, List.getElem_cons_succ, List.getElem_cons_zero, List.setIfInBounds_toArray, List.set_cons_zero, List.set_cons_succ]
              refine wpAnyH_take (i := 16) (v := ?_) rfl (by kernel_rfl) (by kernel_rfl) (by kernel_rfl) (fun _ _ _ h => h) (Or.inl ⟨by rfl, ?_⟩) (by assumption) ?_
              rotate_left
              · (intro w hSw; (try dsimp only at hSw); (try simp only [List.getElem_toArray, List.getElem_cons_succ, List.getElem_cons_zero]); first | (go_simp; done) | (go_simp; with_reducible rfl))
              try simp only [Act.put, List.getElem_toArray, List.getElem_cons_succ, List.getElem_cons_zero, List.setIfInBounds_toArray, List.set_cons_zero, List.set_cons_succ]
              refine wpAnyH_take (i := 17) (v := ?_) rfl (by kernel_rfl) (by kernel_rfl) (by kernel_rfl) (fun _ _ _ h => h) (Or.inl ⟨by rfl, ?_⟩) (by assumption) ?_
              rotate_left
              · (intro w hSw; (try dsimp only at hSw); (try simp only [List.getElem_toArray, List.getElem_cons_succ, List.getElem_cons_zero]); first | (go_simp; done) | (go_simp; with_reducible rfl))
              try simp only [Act.put, List.getElem_toArray, List.getElem_cons_succ, List.getElem_cons_zero, List.setIfInBounds_toArray, List.set_cons_zero, List.set_cons_succ]
              refine wpAnyH_take (i := 18) (v := ?_) rfl (by kernel_rfl) (by kernel_rfl) (by kernel_rfl) (fun _ _ _ h => h) (Or.inl ⟨by rfl, ?_⟩) (by assumption) ?_
              rotate_left
              · (intro w hSw; (try dsimp only at hSw); (try simp only [List.getElem_toArray, List.getElem_cons_succ, List.getElem_cons_zero]); first | (go_simp; done) | (go_simp; with_reducible rfl))
              try simp only [Act.put, List.getElem_toArray, List.getElem_cons_succ, List.getElem_cons_zero, List.setIfInBounds_toArray, List.set_cons_zero, List.set_cons_succ]
              refine wpAnyH_take (i := 19) (v := ?_) rfl (by kernel_rfl) (by kernel_rfl) (by kernel_rfl) (fun _ _ _ h => h) (Or.inl ⟨by rfl, ?_⟩) (by assumption) ?_
              rotate_left
              · (intro w hSw; (try dsimp only at hSw); (try simp only [List.getElem_toArray, List.getElem_cons_succ, List.getElem_cons_zero]); first | (go_simp; done) | (go_simp; with_reducible rfl))
              try simp only [Act.put, List.getElem_toArray, List.getElem_cons_succ, List.getElem_cons_zero, List.setIfInBounds_toArray, List.set_cons_zero, List.set_cons_succ]
              refine wpAnyH_take (i := 20) (v := ?_) rfl (by kernel_rfl) (by kernel_rfl) (by kernel_rfl) (fun _ _ _ h => h) (Or.inl ⟨by rfl, ?_⟩) (by assumption) ?_
              rotate_left
              · (intro w hSw; (try dsimp only at hSw); (try simp only [List.getElem_toArray, List.getElem_cons_succ, List.getElem_cons_zero]); first | (go_simp; done) | (go_simp; with_reducible rfl))
              try simp only [Act.put, List.getElem_toArray, List.getElem_cons_succ, List.getElem_cons_zero, List.setIfInBounds_toArray, List.set_cons_zero, List.set_cons_succ]
              refine wpAnyH_take (i := 21) (v := ?_) rfl (by kernel_rfl) (by kernel_rfl) (by kernel_rfl) (fun _ _ _ h => h) (Or.inl ⟨by rfl, ?_⟩) (by assumption) ?_
              rotate_left
              · (intro w hSw; (try dsimp only at hSw); (try simp only [List.getElem_toArray, List.getElem_cons_succ, List.getElem_cons_zero]); first | (go_simp; done) | (go_simp; with_reducible rfl))
              try simp only [Act.put, List.getElem_toArray, List.getElem_cons_succ, List.getElem_cons_zero, List.setIfInBounds_toArray, List.set_cons_zero, List.set_cons_succ]
              refine wpAnyH_take (i := 22) (v := ?_) rfl (by kernel_rfl) (by kernel_rfl) (by kernel_rfl) (fun _ _ _ h => h) (Or.inl ⟨by rfl, ?_⟩) (by assumption) ?_
              rotate_left
              · (intro w hSw; (try dsimp only at hSw); (try simp only [List.getElem_toArray, List.getElem_cons_succ, List.getElem_cons_zero]); first | (go_simp; done) | (go_simp; with_reducible rfl))
              try simp only [Act.put, List.getElem_toArray, List.getElem_cons_succ, List.getElem_cons_zero, List.setIfInBounds_toArray, List.set_cons_zero, List.set_cons_succ]
              refine wpAnyH_take (i := 23) (v := ?_) rfl (by kernel_rfl) (by kernel_rfl) (by kernel_rfl) (fun _ _ _ h => h) (Or.inl ⟨by rfl, ?_⟩) (by assumption) ?_
              rotate_left
              · (intro w hSw; (try dsimp only at hSw); (try simp only [List.getElem_toArray, List.getElem_cons_succ, List.getElem_cons_zero]); first | (go_simp; done) | (go_simp; with_reducible rfl))
              try simp only [Act.put, List.getElem_toArray, List.getElem_cons_succ, List.getElem_cons_zero, List.setIfInBounds_toArray, List.set_cons_zero, List.set_cons_succ]
              refine wpAnyH_take (i := 24) (v := ?_) rfl (by kernel_rfl) (by kernel_rfl) (by kernel_rfl) (fun _ _ _ h => h) (Or.inl ⟨by rfl, ?_⟩) (by assumption) ?_
              rotate_left
              · (intro w hSw; (try dsimp only at hSw); (try simp only [List.getElem_toArray, List.getElem_cons_succ, List.getElem_cons_zero]); first | (go_simp; done) | (go_simp; with_reducible rfl))
              try simp only [Act.put, List.getElem_toArray, List.getElem_cons_succ, List.getElem_cons_zero, List.setIfInBounds_toArray, List.set_cons_zero, List.set_cons_succ]
              refine wpAnyH_take (i := 25) (v := ?_) rfl (by kernel_rfl) (by kernel_rfl) (by kernel_rfl) (fun _ _ _ h => h) (Or.inl ⟨by rfl, ?_⟩) (by assumption) ?_
              rotate_left
              · (intro w hSw; (try dsimp only at hSw); (try simp only [List.getElem_toArray, List.getElem_cons_succ, List.getElem_cons_zero]); first | (go_simp; done) | (go_simp; with_reducible rfl))
              try simp only [Act.put, List.getElem_toArray, List.getElem_cons_succ, List.getElem_cons_zero, List.setIfInBounds_toArray, List.set_cons_zero, List.set_cons_succ]
              refine wpAnyH_take (i := 26) (v := ?_) rfl (by kernel_rfl) (by kernel_rfl) (by kernel_rfl) (fun _ _ _ h => h) (Or.inl ⟨by rfl, ?_⟩) (by assumption) ?_
              rotate_left
              · (intro w hSw; (try dsimp only at hSw); (try simp only [List.getElem_toArray, List.getElem_cons_succ, List.getElem_cons_zero]); first | (go_simp; done) | (go_simp; with_reducible rfl))
              try simp only [Act.put, List.getElem_toArray, List.getElem_cons_succ, List.getElem_cons_zero, List.setIfInBounds_toArray, List.set_cons_zero, List.set_cons_succ]
              refine wpAnyH_take (i := 27) (v := ?_) rfl (by kernel_rfl) (by kernel_rfl) (by kernel_rfl) (fun _ _ _ h => h) (Or.inl ⟨by rfl, ?_⟩) (by assumption) ?_
              rotate_left
              · (intro w hSw; (try dsimp only at hSw); (try simp only [List.getElem_toArray, List.getElem_cons_succ, List.getElem_cons_zero]); first | (go_simp; done) | (go_simp; with_reducible rfl))
              try simp only [Act.put, List.getElem_toArray, List.getElem_cons_succ, List.getElem_cons_zero, List.setIfInBounds_toArray, List.set_cons_zero, List.set_cons_succ]
              refine wpAnyH_take (i := 28) (v := ?_) rfl (by kernel_rfl) (by kernel_rfl) (by kernel_rfl) (fun _ _ _ h => h) (Or.inl ⟨by rfl, ?_⟩) (by assumption) ?_
              rotate_left
              · (intro w hSw; (try dsimp only at hSw); (try simp only [List.getElem_toArray, List.getElem_cons_succ, List.getElem_cons_zero]); first | (go_simp; done) | (go_simp; with_reducible rfl))
              try simp only [Act.put, List.getElem_toArray, List.getElem_cons_succ, List.getElem_cons_zero, List.setIfInBounds_toArray, List.set_cons_zero, List.set_cons_succ]
              refine wpAnyH_take (i := 29) (v := ?_) rfl (by kernel_rfl) (by kernel_rfl) (by kernel_rfl) (fun _ _ _ h => h) (Or.inl ⟨by rfl, ?_⟩) (by assumption) ?_
              rotate_left
              · (intro w hSw; (try dsimp only at hSw); (try simp only [List.getElem_toArray, List.getElem_cons_succ, List.getElem_cons_zero]); first | (go_simp; done) | (go_simp; with_reducible rfl))
              try simp only [Act.put, List.getElem_toArray, List.getElem_cons_succ, List.getElem_cons_zero, List.setIfInBounds_toArray, List.set_cons_zero, List.set_cons_succ]
              refine wpAnyH_done (by kernel_rfl) ?_ _
              clear h1 h2 h3 h4 t1 t2
              go_wp2_with fail
              go_roundw
              case rel => exact ⟨j + 1, by omega, by go_num, B0.out, B1.out, ⟨HBV.out.os, HBV.out.tape, HBV.out.output, HBV.out.size, HBV.out.block⟩⟩
              case measure => (simp [intOf]) <;> omega
            · obtain rfl : j = ws.length := by omega
              have hjj : ¬ (ws.length : Int) < (ws.length : Int) := by omega
              have h1 : IntKind.i64.wrap (2 * lo) = 2 * lo := IntWalk.i64_in _ ⟨by omega, by omega⟩
              have h2 : wrap64 (2 * lo) = 2 * lo := IntWalk.wrap64_in _ ⟨by omega, by omega⟩
              have HRX := Lib.hid (HRW.out.later HBX.out)
              have HTX := Lib.hid (HTD.out.later HBX.out)
              obtain ⟨Z, hZ⟩ : ∃ Z, spanTreeOf (k : Int) ws = Z := ⟨_, rfl⟩
              have HZZ := Lib.hid hZ
              by_cases hz : Z < 0
              · clear hZ hbw
                go_wp2_with fail
                refine (SpanTree_any _ _ _ _ _ HRX.out HTX.out).mono ?_; rintro e9 w9 ⟨rfl, hb9⟩; rw [HZZ.out]
                have HB9 := Lib.hid (bstep (B := wd.heap.size) (W := wd) HBX.out (Nat.le_of_lt hzr) hb9)
                clear hb9
                go_wp2_with fail
                go_ret
                exact ⟨rfl, bstep HBD.out hzd HB9.out⟩
              · have hjn := span_at (n := (k : Int)) (ws := ws) (by rw [hZ]; exact hz)
                have htw : hi ≤ 2 * lo := by rw [← HLA.out, ← HLB.out]; exact HW.out.twice hjn b a hb ha
                have HTW := Lib.hid htw
                clear hZ hbw hjn
                go_wp2_with fail
                refine (SpanTree_any _ _ _ _ _ HRX.out HTX.out).mono ?_; rintro e9 w9 ⟨rfl, hb9⟩; rw [HZZ.out]
                have HB9 := Lib.hid (bstep (B := wd.heap.size) (W := wd) HBX.out (Nat.le_of_lt hzr) hb9)
                clear hb9
                go_wp2_with fail
                go_ret
                exact ⟨rfl, bstep HBD.out hzd HB9.out⟩
end Go.Proofs.YthadehgpeafniaaDoor
