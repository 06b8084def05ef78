/- The law of FootTable: each number is RootCost of the ends and the place together. -/
import Derived.Test.YtbbomajgmgmigaaDoorTg
import Derived.Test.YtbbomajgmgmigaaDoorFd
import Derived.Test.YtbbomajgmgmigaaDoorWO
import Derived.Test.YtbbomajgmgmigaaDoorRB
import Derived.Test.YtbbomajgmgmigaaDoorLO
set_option linter.unusedSimpArgs false
set_option linter.unusedVariables false
attribute [local go_sem ↓] Go.wp_at_zero Go.wp_at_succ
namespace Go.Proofs.YtbbomajgmgmigaaDoor
open Go.ChangeShapes Go.WideShapes Go.ChangeAt Go.RowKit

theorem FootTable_N (m N : Nat) (hN : 2 ^ m = N) (A : Option Addr) (cap : Nat) (ws : List Wy) (w : World) (hr : RW w w.heap.size A ws) (hno : netOk (m : Int) ws = true) :
    Calls Tryd.prog 27 #[.agg #[.int .i64 m, .slice A ws.length cap]] w fun e w' => ∃ T cT lo hi R C, e = .returned (.slice (some ⟨T, 0, none⟩) N cT) ∧ TabR w' lo hi T N m R C (FT ws) ∧ w.heap.size ≤ lo ∧ Below w.heap.size w w' := by
  subst hN; exact FootTable_any m A cap ws w hr hno
theorem sFootTable_N (m N : Nat) (hN : 2 ^ m = N) (A : Option Addr) (cap : Nat) (ws : List Wy) (w : World) (hr : RW w w.heap.size A ws) (hm : ws.length ≤ 1073741824) (hno : netOk (m : Int) ws = true) :
    Calls Tryd.prog 29 #[.agg #[.int .i64 m, .slice A ws.length cap]] w fun e w' => ∃ T cT lo hi R C, e = .returned (.slice (some ⟨T, 0, none⟩) N cT) ∧ TabR w' lo hi T N m R C (FT ws) ∧ w.heap.size ≤ lo ∧ Below w.heap.size w w' := by
  subst hN; exact sFootTable_any m A cap ws w hr hm hno

set_option maxRecDepth 100000 in
set_option maxHeartbeats 8000000 in
theorem FnFootTable_walk (A : Option Addr) (len cap : Nat) (w : World) (hr : RB w w.heap.size A len) (hc : len ≤ cap) (hlen : len ≤ 9223372036854775807) (hT : Tab w) :
    Calls Tryd.prog 7 #[.slice A len cap] w fun e w' => e = .returned (.bool true) ∧ Below w.heap.size w w' := by
  have HR := Lib.hid hr
  have HT := Lib.hid hT
  clear hr hT
  by_cases hm : 1048576 < len
  · go_enter Tryd.func7, Tryd.ntmps7
    go_wp2_with fail
    go_ret
    exact ⟨rfl, Below.refl _ _⟩
  · go_enter Tryd.func7, Tryd.ntmps7
    go_wp2_with fail
    refine (DrawFootTable_any A len cap _ HR.out hc (by omega)).mono ?_
    rintro e wd ⟨nn, A', c', ws, rfl, hrw, hl10, hcc, hn0, hn7, hbd⟩
    have HRW := Lib.hid hrw
    have HBD := Lib.hid hbd
    have HTD := Lib.hid (HT.out.later hbd)
    have hzd : w.heap.size ≤ wd.heap.size := hbd.size
    clear hrw hbd
    cases hno : netOk nn ws
    · have HNO := Lib.hid hno
      clear hno
      go_wp2_with fail
      refine (FootTable_none _ _ _ _ _ (HRW.out.later (by go_grown)) HNO.out).mono ?_; rintro e w1 ⟨rfl, hb1⟩
      obtain ⟨hc1, hf1⟩ := bcell hb1
      have hz1_0 : wd.heap.size < w1.heap.size := by have hq := hb1.size; (try simp at hq); omega
      have HK1 := Lib.hid hb1
      have HB1 := Lib.hid (bstep (B := wd.heap.size) (W := wd) (by (try have hp := HB0.out); go_grown) (by go_size) hb1); clear hb1
      go_wp2_with fail
      refine (sFootTable_none _ _ _ _ _ (HRW.out.later (by have := HB1.out; go_grown)) (by omega) HNO.out).mono ?_; rintro e w2 ⟨⟨A3, c3, rfl⟩, hb2⟩
      obtain ⟨hc2, hf2⟩ := bcell hb2
      have hz2_0 : wd.heap.size < w2.heap.size := by have hq := hb2.size; (try simp at hq); omega
      have HK2 := Lib.hid hb2
      have HB2 := Lib.hid (bstep (B := wd.heap.size) (W := wd) (by have hp := HB1.out; go_grown) (by go_size) hb2); clear hb2
      go_wp2_with fail
      refine (sameRows_0 _ _ _ _ _).mono ?_; rintro e w3 ⟨rfl, hb3⟩
      obtain ⟨hc3, hf3⟩ := bcell hb3
      have hz3_0 : wd.heap.size < w3.heap.size := by have hq := hb3.size; (try simp at hq); omega
      have HK3 := Lib.hid hb3
      have HB3 := Lib.hid (bstep (B := wd.heap.size) (W := wd) (by have hp := HB2.out; go_grown) (by go_size) hb3); clear hb3
      go_wp2_with fail
      refine (NetOk_any _ _ _ _ _ (HRW.out.later (by have := HB3.out; go_grown))).mono ?_; rintro e w4 ⟨rfl, hb4⟩
      rw [HNO.out]
      obtain ⟨hc4, hf4⟩ := bcell hb4
      have hz4_0 : wd.heap.size < w4.heap.size := by have hq := hb4.size; (try simp at hq); omega
      have HK4 := Lib.hid hb4
      have HB4 := Lib.hid (bstep (B := wd.heap.size) (W := wd) (by have hp := HB3.out; go_grown) (by go_size) hb4); clear hb4
      go_wp2_with fail
      refine (alive_any _).mono ?_; rintro e w5 ⟨rfl, hb5⟩
      obtain ⟨hc5, hf5⟩ := bcell hb5
      have hz5_0 : wd.heap.size < w5.heap.size := by have hq := hb5.size; (try simp at hq); omega
      have HK5 := Lib.hid hb5
      have HB5 := Lib.hid (bstep (B := wd.heap.size) (W := wd) (by have hp := HB4.out; go_grown) (by go_size) hb5); clear hb5
      go_wp2_with fail
      go_ret
      exact ⟨rfl, bstep HBD.out hzd HB5.out⟩
    · obtain ⟨m, rfl⟩ : ∃ m : Nat, nn = m := ⟨nn.toNat, by omega⟩
      have HNO := Lib.hid hno
      have hni := netOk_t hno
      have HNI := Lib.hid hni
      have hl9 := hni.len
      have hn2 := hni.lo
      have hn6 := hni.hi
      have hm6 : m ≤ 6 := by omega
      obtain ⟨N, hN⟩ : ∃ N, 2 ^ m = N := ⟨_, rfl⟩
      have hN64 : N ≤ 64 := by rw [← hN]; exact Nat.pow_le_pow_right (n := 2) (by omega) hm6
      have hN1 : 1 ≤ N := by rw [← hN]; exact Nat.one_le_two_pow
      have hNI : ((2 : Int) ^ m) = (N : Int) := by rw [← hN]; simp
      have HWN : Hid (IntKind.i64.wrap ((2 : Int) ^ m) = (N : Int)) := by rw [hNI]; exact IntWalk.i64_in _ ⟨by omega, by omega⟩
      have HWN2 : Hid (wrap64 ((2 : Int) ^ m) = (N : Int)) := by rw [hNI]; exact IntWalk.wrap64_in _ ⟨by omega, by omega⟩
      have HNN := Lib.hid hN
      have HNI2 := Lib.hid hNI
      have hN0 : ((N : Int) == 0) = false := by simp; omega
      clear hno hni hN hNI
      go_wp2_with fail
      refine (FootTable_N m N HNN.out A' c' ws _ (HRW.out.later (by go_grown)) HNO.out).mono ?_; rintro e w1 ⟨T, cT, lo, hi, R, C, rfl, htab, hlo, hb1⟩
      have k1 : w1.cell? ⟨wd.heap.size, 0, none⟩ = some (.int .i64 m) ∧ w1.cell? ⟨wd.heap.size, 1, none⟩ = some (.slice A' ws.length c') := by
        obtain ⟨hc1, hf1⟩ := bcell hb1
        exact ⟨by go_simp, by go_simp⟩
      have hz1 : wd.heap.size < w1.heap.size := by have hq := hb1.size; (try simp at hq); omega
      have HB1 := Lib.hid (bstep (B := wd.heap.size) (W := wd) (by go_grown) (by go_size) hb1)
      have HT1 := Lib.hid htab
      clear hb1 htab hlo
      obtain ⟨k10, k11⟩ := k1
      go_wp2_with fail
      refine (sFootTable_N m N HNN.out A' c' ws _ (HRW.out.later HB1.out) (by omega) HNO.out).mono ?_; rintro e w2 ⟨T2, cT2, lo2, hi2, R2, C2, rfl, htab2, hlo2, hb2⟩
      obtain ⟨k20, k21⟩ := keep2 hb2 ⟨k10, k11⟩ hz1
      have hz2 : wd.heap.size < w2.heap.size := Nat.lt_of_lt_of_le hz1 hb2.size
      have HT2 := Lib.hid (HT1.out.below hb2)
      have HB2 := Lib.hid (bstep (B := wd.heap.size) (W := wd) HB1.out (Nat.le_of_lt hz1) hb2)
      have HT22 := Lib.hid htab2
      clear hb2 htab2 hlo2
      go_wp2_with fail
      refine (sameRowsR_any HT2.out HT22.out hm6 hN64).mono ?_; rintro e w3 ⟨rfl, hb3⟩
      obtain ⟨k30, k31⟩ := keep2 hb3 ⟨k20, k21⟩ hz2
      have hz3 : wd.heap.size < w3.heap.size := Nat.lt_of_lt_of_le hz2 hb3.size
      have HT3 := Lib.hid (HT2.out.below hb3)
      have HB3 := Lib.hid (bstep (B := wd.heap.size) (W := wd) HB2.out (Nat.le_of_lt hz2) hb3)
      clear hb3 HT22 HT2 HT1
      go_wp2_with fail
      go_loopw [5] (fun c wr => ∃ k : Nat, k ≤ N ∧ c = .int .i64 k ∧ wr.cell? ⟨wd.heap.size, 0, none⟩ = some (.int .i64 m) ∧ wr.cell? ⟨wd.heap.size, 1, none⟩ = some (.slice A' ws.length c') ∧ Below wd.heap.size wd wr ∧ wd.heap.size < wr.heap.size ∧ TabR wr lo hi T N m R C (FT ws)) (fun c _ => N - (intOf c).toNat)
      case atStart => exact ⟨0, Nat.zero_le _, rfl, k30, k31, HB3.out, hz3, HT3.out⟩
      case round =>
        clear k10 k11 k20 k21 k30 k31 HT3
        obtain ⟨k, hk, rfl, b0, b1, hb, hz, htab⟩ := hrel
        have HB0 := Lib.hid hb
        have HTB := Lib.hid htab
        clear hb htab
        have k0 : (0 : Int) ≤ (k : Int) := by omega
        by_cases hlk : k < N
        · have kN : (k : Int) < (N : Int) := by omega
          have hwn := HWN.out
          have hwn2 := HWN2.out
          go_wp2_with fail
          clear hwn hwn2
          go_loopw [6] (fun c wr => ∃ v : Nat, v ≤ m ∧ c = .int .i64 v ∧ wr.cell? ⟨wd.heap.size, 0, none⟩ = some (.int .i64 m) ∧ wr.cell? ⟨wd.heap.size, 1, none⟩ = some (.slice A' ws.length c') ∧ Below wd.heap.size wd wr ∧ wd.heap.size < wr.heap.size ∧ TabR wr lo hi T N m R C (FT ws)) (fun c _ => m - (intOf c).toNat)
          case atStart => exact ⟨0, Nat.zero_le _, rfl, b0, b1, HB0.out, hz, HTB.out⟩
          case round =>
            clear b0 b1 HB0 HTB hz
            obtain ⟨v, hv, rfl, b0, b1, hb, hz, htab⟩ := hrel
            have HRR := Lib.hid (HRW.out.later hb)
            have HTR := Lib.hid (HTD.out.later hb)
            have HB0 := Lib.hid hb
            have HTB := Lib.hid htab
            clear hb htab
            have v0 : (0 : Int) ≤ (v : Int) := by omega
            by_cases hlv : v < m
            · have v1 : (v : Int) < (m : Int) := by omega
              have tk := HTB.out.top k hlk
              have rkv := (HTB.out.row k v hlk hlv).1
              have hzT : T < wr.heap.size := Nat.lt_of_lt_of_le HTB.out.los.2 HTB.out.his
              have hzR : R k < wr.heap.size := Nat.lt_of_lt_of_le (HTB.out.rlo k hlk).2 HTB.out.his
              have pv := pow_bd (v : Int) 5 (by omega)
              rw [Int.toNat_natCast] at pv
              have e2 : ((2 : Int) ^ ((m : Int)).toNat) = (N : Int) := by rw [Int.toNat_natCast]; exact HNI2.out
              have hwb := withp_bd (m := m) (e := (k : Int)) (v := v) (by omega) (by omega) hlv
              have hor : bits .or .i64 (k : Int) (2 ^ v) = withp (k : Int) v := bits_or _ _ (by omega) (by omega) (by omega) (by omega)
              have hrc : rootCost (m : Int) ws (withp (k : Int) v) = FT ws k v := rootCost_rc HNO.out (plOk_mk hwb.1 hwb.2)
              obtain ⟨E, hE⟩ : ∃ E, withp (k : Int) v = E := ⟨_, rfl⟩
              obtain ⟨D, hD⟩ : ∃ D, FT ws k v = D := ⟨_, rfl⟩
              rw [hE, hD] at hrc
              rw [hE] at hor
              rw [hD] at rkv
              have HX := Lib.hid hrc
              have hnn : ((N : Int) != (N : Int)) = false := by simp
              have HWV : Hid (IntKind.i64.wrap (2 ^ v) = 2 ^ v) := IntWalk.i64_in _ ⟨by omega, by omega⟩
              have HWV2 : Hid (wrap64 (2 ^ v) = 2 ^ v) := IntWalk.wrap64_in _ ⟨by omega, by omega⟩
              have hwn := HWN.out
              have hwn2 := HWN2.out
              have hwv := HWV.out
              have hwv2 := HWV2.out
              clear hrc hE hD hwb e2 pv
              go_wp2_with fail
              refine wp_region_held_drew (S := (fun w' => w'.cell? ⟨wd.heap.size, 0, none⟩ = some (.int .i64 m) ∧ w'.cell? ⟨wd.heap.size, 1, none⟩ = some (.slice A' ws.length c') ∧ w'.cell? ⟨T, k, none⟩ = some (.slice (some ⟨R k, 0, none⟩) m (C k)) ∧ w'.cell? ⟨R k, v, none⟩ = some (.int .i64 D))) (by kernel_rfl) ?_ (fun hHeld => ?_)
              · exact ⟨b0, b1, tk, rkv⟩
              refine wpAnyH_take (i := 0) (v := ?_) rfl (by kernel_rfl) (by kernel_rfl) (by kernel_rfl) (fun _ _ _ h => h) (Or.inl ⟨by rfl, ?_⟩) (by assumption) ?_
              rotate_left
              · (intro w hSw; (try dsimp only at hSw); (try simp only [List.getElem_toArray, List.getElem_cons_succ, List.getElem_cons_zero]); first | (go_simp; done) | (go_simp; with_reducible rfl))
              try simp only [Act.put, List.getElem_toArray, List.getElem_cons_succ, List.getElem_cons_zero, List.setIfInBounds_toArray, List.set_cons_zero, List.set_cons_succ]
              refine wpAnyH_take (i := 1) (v := ?_) rfl (by kernel_rfl) (by kernel_rfl) (by kernel_rfl) (fun _ _ _ h => h) (Or.inl ⟨by rfl, ?_⟩) (by assumption) ?_
              rotate_left
              · (intro w hSw; (try dsimp only at hSw); (try simp only [List.getElem_toArray, List.getElem_cons_succ, List.getElem_cons_zero]); first | (go_simp; done) | (go_simp; with_reducible rfl))
              try simp only [Act.put, List.getElem_toArray, List.getElem_cons_succ, List.getElem_cons_zero, List.setIfInBounds_toArray, List.set_cons_zero, List.set_cons_succ]
              refine wpAnyH_take (i := 2) (v := ?_) rfl (by kernel_rfl) (by kernel_rfl) (by kernel_rfl) (fun _ _ _ h => h) (Or.inl ⟨by rfl, ?_⟩) (by assumption) ?_
              rotate_left
              · (intro w hSw; (try dsimp only at hSw); (try simp only [List.getElem_toArray, List.getElem_cons_succ, List.getElem_cons_zero]); first | (go_simp; done) | (go_simp; with_reducible rfl))
              try simp only [Act.put, List.getElem_toArray, List.getElem_cons_succ, List.getElem_cons_zero, List.setIfInBounds_toArray, List.set_cons_zero, List.set_cons_succ]
              refine wpAnyH_take (i := 3) (v := ?_) rfl (by kernel_rfl) (by kernel_rfl) (by kernel_rfl) (fun _ _ _ h => h) (Or.inl ⟨by rfl, ?_⟩) (by assumption) ?_
              rotate_left
              · (intro w hSw; (try dsimp only at hSw); (try simp only [List.getElem_toArray, List.getElem_cons_succ, List.getElem_cons_zero]); first | (go_simp; done) | (go_simp; with_reducible rfl))
              try simp only [Act.put, List.getElem_toArray, List.getElem_cons_succ, List.getElem_cons_zero, List.setIfInBounds_toArray, List.set_cons_zero, List.set_cons_succ]
              refine wpAnyH_take (i := 4) (v := ?_) rfl (by kernel_rfl) (by kernel_rfl) (by kernel_rfl) (fun _ _ _ h => h) (Or.inl ⟨by rfl, ?_⟩) (by assumption) ?_
              rotate_left
              · (intro w hSw; (try dsimp only at hSw); (try simp only [List.getElem_toArray, List.getElem_cons_succ, List.getElem_cons_zero]); first | (go_simp; done) | (go_simp; with_reducible rfl))
              try simp only [Act.put, List.getElem_toArray, List.getElem_cons_succ, List.getElem_cons_zero, List.setIfInBounds_toArray, List.set_cons_zero, List.set_cons_succ]
              refine wpAnyH_take (i := 5) (v := ?_) rfl (by kernel_rfl) (by kernel_rfl) (by kernel_rfl) (fun _ _ _ h => h) (Or.inl ⟨by rfl, ?_⟩) (by assumption) ?_
              rotate_left
              · (intro w hSw; (try dsimp only at hSw); (try simp only [List.getElem_toArray, List.getElem_cons_succ, List.getElem_cons_zero]); first | (go_simp; done) | (go_simp; with_reducible rfl))
              try simp only [Act.put, List.getElem_toArray, List.getElem_cons_succ, List.getElem_cons_zero, List.setIfInBounds_toArray, List.set_cons_zero, List.set_cons_succ]
              refine wpAnyH_take (i := 6) (v := ?_) rfl (by kernel_rfl) (by kernel_rfl) (by kernel_rfl) (fun _ _ _ h => h) (Or.inl ⟨by rfl, ?_⟩) (by assumption) ?_
              rotate_left
              · (intro w hSw; (try dsimp only at hSw); (try simp only [List.getElem_toArray, List.getElem_cons_succ, List.getElem_cons_zero]); first | (go_simp; done) | (go_simp; with_reducible rfl))
              try simp only [Act.put, List.getElem_toArray, List.getElem_cons_succ, List.getElem_cons_zero, List.setIfInBounds_toArray, List.set_cons_zero, List.set_cons_succ]
              refine wpAnyH_take (i := 7) (v := ?_) rfl (by kernel_rfl) (by kernel_rfl) (by kernel_rfl) (fun _ _ _ h => h) (Or.inl ⟨by rfl, ?_⟩) (by assumption) ?_
              rotate_left
              · (intro w hSw; (try dsimp only at hSw); (try simp only [List.getElem_toArray, List.getElem_cons_succ, List.getElem_cons_zero]); first | (go_simp; done) | (go_simp; with_reducible rfl))
              try simp only [Act.put, List.getElem_toArray, List.getElem_cons_succ, List.getElem_cons_zero, List.setIfInBounds_toArray, List.set_cons_zero, List.set_cons_succ]
              refine wpAnyH_take (i := 8) (v := ?_) rfl (by kernel_rfl) (by kernel_rfl) (by kernel_rfl) (fun _ _ _ h => h) (Or.inl ⟨by rfl, ?_⟩) (by assumption) ?_
              rotate_left
              · (intro w hSw; (try dsimp only at hSw); (try simp only [List.getElem_toArray, List.getElem_cons_succ, List.getElem_cons_zero]); first | (go_simp; done) | (go_simp; with_reducible rfl))
              try simp only [Act.put, List.getElem_toArray, List.getElem_cons_succ, List.getElem_cons_zero, List.setIfInBounds_toArray, List.set_cons_zero, List.set_cons_succ]
              refine wpAnyH_take (i := 9) (v := ?_) rfl (by kernel_rfl) (by kernel_rfl) (by kernel_rfl) (fun _ _ _ h => h) (Or.inl ⟨by rfl, ?_⟩) (by assumption) ?_
              rotate_left
              · (intro w hSw; (try dsimp only at hSw); (try simp only [List.getElem_toArray, List.getElem_cons_succ, List.getElem_cons_zero]); first | (go_simp; done) | (go_simp; with_reducible rfl))
              try simp only [Act.put, List.getElem_toArray, List.getElem_cons_succ, List.getElem_cons_zero, List.setIfInBounds_toArray, List.set_cons_zero, List.set_cons_succ]
              refine wpAnyH_take (i := 10) (v := ?_) rfl (by kernel_rfl) (by kernel_rfl) (by kernel_rfl) (fun _ _ _ h => h) (Or.inl ⟨by rfl, ?_⟩) (by assumption) ?_
              rotate_left
              · (intro w hSw; (try dsimp only at hSw); (try simp only [List.getElem_toArray, List.getElem_cons_succ, List.getElem_cons_zero]); first | (go_simp; done) | (go_simp; with_reducible rfl))
              try simp only [Act.put, List.getElem_toArray, List.getElem_cons_succ, List.getElem_cons_zero, List.setIfInBounds_toArray, List.set_cons_zero, List.set_cons_succ]
              refine wpAnyH_take (i := 11) (v := ?_) rfl (by kernel_rfl) (by kernel_rfl) (by kernel_rfl) (fun _ _ _ h => h) (Or.inl ⟨by rfl, ?_⟩) (by assumption) ?_
              rotate_left
              · (intro w hSw; (try dsimp only at hSw); (try simp only [List.getElem_toArray, List.getElem_cons_succ, List.getElem_cons_zero]); first | (go_simp; done) | (go_simp; with_reducible rfl))
              try simp only [Act.put, List.getElem_toArray, List.getElem_cons_succ, List.getElem_cons_zero, List.setIfInBounds_toArray, List.set_cons_zero, List.set_cons_succ]
              refine wpAnyH_take (i := 12) (v := ?_) rfl (by kernel_rfl) (by kernel_rfl) (by kernel_rfl) (fun _ _ _ h => h) (Or.inl ⟨by rfl, ?_⟩) (by assumption) ?_
              rotate_left
              · (intro w hSw; (try dsimp only at hSw); (try simp only [List.getElem_toArray, List.getElem_cons_succ, List.getElem_cons_zero]); first | (go_simp; done) | (go_simp; with_reducible rfl))
              try simp only [Act.put, List.getElem_toArray, List.getElem_cons_succ, List.getElem_cons_zero, List.setIfInBounds_toArray, List.set_cons_zero, List.set_cons_succ]
              refine wpAnyH_take (i := 13) (v := ?_) rfl (by kernel_rfl) (by kernel_rfl) (by kernel_rfl) (fun _ _ _ h => h) (Or.inl ⟨by rfl, ?_⟩) (by assumption) ?_
              rotate_left
              · (intro w hSw; (try dsimp only at hSw); (try simp only [List.getElem_toArray, List.getElem_cons_succ, List.getElem_cons_zero]); first | (go_simp; done) | (go_simp; with_reducible rfl))
              try simp only [Act.put, List.getElem_toArray, List.getElem_cons_succ, List.getElem_cons_zero, List.setIfInBounds_toArray, List.set_cons_zero, List.set_cons_succ]
              refine wpAnyH_take (i := 14) (v := ?_) rfl (by kernel_rfl) (by kernel_rfl) (by kernel_rfl) (fun _ _ _ h => h) (Or.inl ⟨by rfl, ?_⟩) (by assumption) ?_
              rotate_left
              · (intro w hSw; (try dsimp only at hSw); (try simp only [List.getElem_toArray, List.getElem_cons_succ, List.getElem_cons_zero]); first | (go_simp; done) | (go_simp; with_reducible rfl))
              try simp only [Act.put, List.getElem_toArray, List.getElem_cons_succ, List.getElem_cons_zero, List.setIfInBounds_toArray, List.set_cons_zero, List.set_cons_succ]
              refine wpAnyH_take (i := 15) (v := ?_) rfl (by kernel_rfl) (by kernel_rfl) (by kernel_rfl) (fun _ _ _ h => h) (Or.inl ⟨by rfl, ?_⟩) (by assumption) ?_
              rotate_left
              · (intro w hSw; (try dsimp only at hSw); (try simp only [List.getElem_toArray, List.getElem_cons_succ, List.getElem_cons_zero]); first | (go_simp; done) | (go_simp; with_reducible rfl))
              try simp only [Act.put, List.getElem_toArray, List.getElem_cons_succ, List.getElem_cons_zero, List.setIfInBounds_toArray, List.set_cons_zero, List.set_cons_succ]
              refine wpAnyH_take (i := 16) (v := ?_) rfl (by kernel_rfl) (by kernel_rfl) (by kernel_rfl) (fun _ _ _ h => h) (Or.inl ⟨by rfl, ?_⟩) (by assumption) ?_
              rotate_left
              · (intro w hSw; (try dsimp only at hSw); (try simp only [List.getElem_toArray, List.getElem_cons_succ, List.getElem_cons_zero]); first | (go_simp; done) | (go_simp; with_reducible rfl))
              try simp only [Act.put, List.getElem_toArray, List.getElem_cons_succ, List.getElem_cons_zero, List.setIfInBounds_toArray, List.set_cons_zero, List.set_cons_succ]
              refine wpAnyH_take (i := 17) (v := ?_) rfl (by kernel_rfl) (by kernel_rfl) (by kernel_rfl) (fun _ _ _ h => h) (Or.inl ⟨by rfl, ?_⟩) (by assumption) ?_
              rotate_left
              · (intro w hSw; (try dsimp only at hSw); (try simp only [List.getElem_toArray, List.getElem_cons_succ, List.getElem_cons_zero]); first | (go_simp; done) | (go_simp; with_reducible rfl))
              try simp only [Act.put, List.getElem_toArray, List.getElem_cons_succ, List.getElem_cons_zero, List.setIfInBounds_toArray, List.set_cons_zero, List.set_cons_succ]
              refine wpAnyH_take (i := 18) (v := ?_) rfl (by kernel_rfl) (by kernel_rfl) (by kernel_rfl) (fun _ _ _ h => h) (Or.inl ⟨by rfl, ?_⟩) (by assumption) ?_
              rotate_left
              · (intro w hSw; (try dsimp only at hSw); (try simp only [List.getElem_toArray, List.getElem_cons_succ, List.getElem_cons_zero]); first | (go_simp; done) | (go_simp; with_reducible rfl))
              try simp only [Act.put, List.getElem_toArray, List.getElem_cons_succ, List.getElem_cons_zero, List.setIfInBounds_toArray, List.set_cons_zero, List.set_cons_succ]
              refine wpAnyH_take (i := 19) (v := ?_) rfl (by kernel_rfl) (by kernel_rfl) (by kernel_rfl) (fun _ _ _ h => h) (Or.inl ⟨by rfl, ?_⟩) (by assumption) ?_
              rotate_left
              · (intro w hSw; (try dsimp only at hSw); (try simp only [List.getElem_toArray, List.getElem_cons_succ, List.getElem_cons_zero]); first | (go_simp; done) | (go_simp; with_reducible rfl))
              try simp only [Act.put, List.getElem_toArray, List.getElem_cons_succ, List.getElem_cons_zero, List.setIfInBounds_toArray, List.set_cons_zero, List.set_cons_succ]
              refine wpAnyH_take (i := 20) (v := ?_) rfl (by kernel_rfl) (by kernel_rfl) (by kernel_rfl) (fun _ _ _ h => h) (Or.inl ⟨by rfl, ?_⟩) (by assumption) ?_
              rotate_left
              · (intro w hSw; (try dsimp only at hSw); (try simp only [List.getElem_toArray, List.getElem_cons_succ, List.getElem_cons_zero]); first | (go_simp; done) | (go_simp; with_reducible rfl))
              try simp only [Act.put, List.getElem_toArray, List.getElem_cons_succ, List.getElem_cons_zero, List.setIfInBounds_toArray, List.set_cons_zero, List.set_cons_succ]
              refine wpAnyH_take (i := 21) (v := ?_) rfl (by kernel_rfl) (by kernel_rfl) (by kernel_rfl) (fun _ _ _ h => h) (Or.inl ⟨by rfl, ?_⟩) (by assumption) ?_
              rotate_left
              · (intro w hSw; (try dsimp only at hSw); (try simp only [List.getElem_toArray, List.getElem_cons_succ, List.getElem_cons_zero]); first | (go_simp; done) | (go_simp; with_reducible rfl))
              try simp only [Act.put, List.getElem_toArray, List.getElem_cons_succ, List.getElem_cons_zero, List.setIfInBounds_toArray, List.set_cons_zero, List.set_cons_succ]
              refine wpAnyH_take (i := 22) (v := ?_) rfl (by kernel_rfl) (by kernel_rfl) (by kernel_rfl) (fun _ _ _ h => h) (Or.inl ⟨by rfl, ?_⟩) (by assumption) ?_
              rotate_left
              · (intro w hSw; (try dsimp only at hSw); (try simp only [List.getElem_toArray, List.getElem_cons_succ, List.getElem_cons_zero]); first | (go_simp; done) | (go_simp; with_reducible rfl))
              try simp only [Act.put, List.getElem_toArray, List.getElem_cons_succ, List.getElem_cons_zero, List.setIfInBounds_toArray, List.set_cons_zero, List.set_cons_succ]
              refine wpAnyH_take (i := 23) (v := ?_) rfl (by kernel_rfl) (by kernel_rfl) (by kernel_rfl) (fun _ _ _ h => h) (Or.inl ⟨by rfl, ?_⟩) (by assumption) ?_
              rotate_left
              · (intro w hSw; (try dsimp only at hSw); (try simp only [List.getElem_toArray, List.getElem_cons_succ, List.getElem_cons_zero]); first | (go_simp; done) | (go_simp; with_reducible rfl))
              try simp only [Act.put, List.getElem_toArray, List.getElem_cons_succ, List.getElem_cons_zero, List.setIfInBounds_toArray, List.set_cons_zero, List.set_cons_succ]
              refine wpAnyH_take (i := 24) (v := ?_) rfl (by kernel_rfl) (by kernel_rfl) (by kernel_rfl) (fun _ _ _ h => h) (Or.inl ⟨by rfl, ?_⟩) (by assumption) ?_
              rotate_left
              · (intro w hSw; (try dsimp only at hSw); (try simp only [List.getElem_toArray, List.getElem_cons_succ, List.getElem_cons_zero]); first | (go_simp; done) | (go_simp; with_reducible rfl))
              try simp only [Act.put, List.getElem_toArray, List.getElem_cons_succ, List.getElem_cons_zero, List.setIfInBounds_toArray, List.set_cons_zero, List.set_cons_succ]
              refine wpAnyH_take (i := 25) (v := ?_) rfl (by kernel_rfl) (by kernel_rfl) (by kernel_rfl) (fun _ _ _ h => h) (Or.inl ⟨by rfl, ?_⟩) (by assumption) ?_
              rotate_left
              · (intro w hSw; (try dsimp only at hSw); (try simp only [List.getElem_toArray, List.getElem_cons_succ, List.getElem_cons_zero]); first | (go_simp; done) | (go_simp; with_reducible rfl))
              try simp only [Act.put, List.getElem_toArray, List.getElem_cons_succ, List.getElem_cons_zero, List.setIfInBounds_toArray, List.set_cons_zero, List.set_cons_succ]
              refine wpAnyH_take (i := 26) (v := ?_) rfl (by kernel_rfl) (by kernel_rfl) (by kernel_rfl) (fun _ _ _ h => h) (Or.inl ⟨by rfl, ?_⟩) (by assumption) ?_
              rotate_left
              · (intro w hSw; (try dsimp only at hSw); (try simp only [List.getElem_toArray, List.getElem_cons_succ, List.getElem_cons_zero]); first | (go_simp; done) | (go_simp; with_reducible rfl))
              try simp only [Act.put, List.getElem_toArray, List.getElem_cons_succ, List.getElem_cons_zero, List.setIfInBounds_toArray, List.set_cons_zero, List.set_cons_succ]
              refine wpAnyH_take (i := 27) (v := ?_) rfl (by kernel_rfl) (by kernel_rfl) (by kernel_rfl) (fun _ _ _ h => h) (Or.inl ⟨by rfl, ?_⟩) (by assumption) ?_
              rotate_left
              · (intro w hSw; (try dsimp only at hSw); (try simp only [List.getElem_toArray, List.getElem_cons_succ, List.getElem_cons_zero]); first | (go_simp; done) | (go_simp; with_reducible rfl))
              try simp only [Act.put, List.getElem_toArray, List.getElem_cons_succ, List.getElem_cons_zero, List.setIfInBounds_toArray, List.set_cons_zero, List.set_cons_succ]
              refine wpAnyH_take (i := 28) (v := ?_) rfl (by kernel_rfl) (by kernel_rfl) (by kernel_rfl) (fun _ _ _ h => h) (Or.inl ⟨by rfl, ?_⟩) (by assumption) ?_
              rotate_left
              · (intro w hSw; (try dsimp only at hSw); (try simp only [List.getElem_toArray, List.getElem_cons_succ, List.getElem_cons_zero]); first | (go_simp; done) | (go_simp; with_reducible rfl))
              try simp only [Act.put, List.getElem_toArray, List.getElem_cons_succ, List.getElem_cons_zero, List.setIfInBounds_toArray, List.set_cons_zero, List.set_cons_succ]
              refine wpAnyH_ready (rs := [29]) (by kernel_rfl) (by simp) ?_
              refine AllReadyH.cons rfl (fun K hK => ?_) AllReadyH.nil
              try simp only [List.getElem_toArray, List.getElem_cons_succ, List.getElem_cons_zero]
              go_simp
              go_at_call 10; refine (RootCost_any _ _ _ _ _ _ (HRR.out.drewNR _) (HTR.out.drewNR _)).mono ?_; rintro e4 w4 ⟨rfl, hb4⟩; rw [HX.out]; have g4 : Below wr.heap.size wr w4 := und hb4; have k4 : _ ∧ _ ∧ _ ∧ _ := ⟨(g4.cell (p := ⟨wd.heap.size, 0, none⟩) hz).trans b0, (g4.cell (p := ⟨wd.heap.size, 1, none⟩) hz).trans b1, (g4.cell (p := ⟨T, k, none⟩) hzT).trans tk, (g4.cell (p := ⟨R k, v, none⟩) hzR).trans rkv⟩
              refine hK.out _ _ ?_ (fun hHeld => ?_)
              · exact k4
              clear hK K
              try simp only [Act.put, List.getElem_toArray, List.getElem_cons_succ, List.getElem_cons_zero, List.setIfInBounds_toArray, List.set_cons_zero, List.set_cons_succ]
              refine wpAnyH_take (i := 30) (v := ?_) rfl (by kernel_rfl) (by kernel_rfl) (by kernel_rfl) (fun _ _ _ h => h) (Or.inl ⟨by rfl, ?_⟩) (by assumption) ?_
              rotate_left
              · (intro w hSw; (try dsimp only at hSw); (try simp only [List.getElem_toArray, List.getElem_cons_succ, List.getElem_cons_zero]); first | (go_simp; done) | (go_simp; with_reducible rfl))
              try simp only [Act.put, List.getElem_toArray, List.getElem_cons_succ, List.getElem_cons_zero, List.setIfInBounds_toArray, List.set_cons_zero, List.set_cons_succ]
              refine wpAnyH_take (i := 31) (v := ?_) rfl (by kernel_rfl) (by kernel_rfl) (by kernel_rfl) (fun _ _ _ h => h) (Or.inl ⟨by rfl, ?_⟩) (by assumption) ?_
              rotate_left
              · (intro w hSw; (try dsimp only at hSw); (try simp only [List.getElem_toArray, List.getElem_cons_succ, List.getElem_cons_zero]); first | (go_simp; done) | (go_simp; with_reducible rfl))
              try simp only [Act.put, List.getElem_toArray, List.getElem_cons_succ, List.getElem_cons_zero, List.setIfInBounds_toArray, List.set_cons_zero, List.set_cons_succ]
              refine wpAnyH_done (by kernel_rfl) ?_ _
              clear hor hwv hwv2 hwn hwn2
              have HB4 := Lib.hid (bstep (B := wd.heap.size) (W := wd) HB0.out (Nat.le_of_lt hz) g4)
              have HT4 := Lib.hid (HTB.out.below g4)
              have z4 := Nat.lt_of_lt_of_le hz g4.size
              obtain ⟨k40, k41, -, -⟩ := k4
              clear g4 hb4
              go_wp2_with fail
              go_roundw
              case rel => exact ⟨v + 1, by omega, by go_num, k40, k41, HB4.out, z4, HT4.out⟩
              case measure => (simp [intOf]) <;> omega
            · have v1 : ¬ (v : Int) < (m : Int) := by omega
              go_wp2_with fail
              go_roundw
              case rel => exact ⟨k + 1, by omega, by go_num, b0, b1, HB0.out, hz, HTB.out⟩
              case measure => (simp [intOf]) <;> omega
        · have kN : ¬ (k : Int) < (N : Int) := by omega
          have hwn := HWN.out
          have hwn2 := HWN2.out
          go_wp2_with fail
          clear hwn hwn2
          refine (alive_any _).mono ?_; rintro e w9 ⟨rfl, hb9⟩
          have HB9 := Lib.hid (bstep (B := wd.heap.size) (W := wd) HB0.out (Nat.le_of_lt hz) hb9)
          go_wp2_with fail
          go_ret
          exact ⟨rfl, bstep HBD.out hzd HB9.out⟩
end Go.Proofs.YtbbomajgmgmigaaDoor
