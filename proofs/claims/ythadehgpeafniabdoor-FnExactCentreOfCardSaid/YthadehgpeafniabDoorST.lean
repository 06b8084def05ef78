/- SpanTree and SpanCost of the program. -/
import Derived.Test.YthadehgpeafniabDoorSO
import Derived.Test.YthadehgpeafniabDoorGrM
set_option linter.unusedSimpArgs false
set_option linter.unusedVariables false
namespace Go.Proofs.YthadehgpeafniabDoor
open Go.ChangeShapes Go.WideShapes Go.ChangeAt Go.RowKit

noncomputable def spanTreeOf (n : Int) (ws : List Wy) : Int := if netOk n ws = true then (if joins ws (span ws (allPl n)) (allPl n) = true then span ws (allPl n) else -1) else -1
noncomputable def spanCostOf (n : Int) (ws : List Wy) : Int := if netOk n ws = true then (if joins ws (span ws (allPl n)) (allPl n) = true then cost ws (span ws (allPl n)) else -1) else -1
theorem spanTreeOf_bd (n : Int) (ws : List Wy) : -1 ≤ spanTreeOf n ws ∧ spanTreeOf n ws ≤ full ws.length := by
  have hb := span_bd ws (allPl n)
  have := full_nn ws.length
  unfold spanTreeOf
  split
  · split <;> omega
  · omega
theorem OrdRow.keep {ws : List Wy} {w w' : World} {blk : Nat} (h : OrdRow ws w blk) (hb : Below w.heap.size w w') : OrdRow ws w' blk :=
  ⟨Nat.lt_of_lt_of_le h.lt hb.size, fun i hi => (hb.cell (p := ⟨blk, i, none⟩) h.lt).trans (h.at_ i hi)⟩
theorem keep5w {w w' : World} {h b o : Nat} {x0 x1 y0 y1 y2 : Value} (hb : Below w.heap.size w w') (hk : w.cell? ⟨h, 0, none⟩ = some x0 ∧ w.cell? ⟨h, 1, none⟩ = some x1 ∧ w.cell? ⟨b, o, none⟩ = some y0 ∧ w.cell? ⟨b, o + 1, none⟩ = some y1 ∧ w.cell? ⟨b, o + 2, none⟩ = some y2) (hl : h < w.heap.size) (hg : b < w.heap.size) :
    w'.cell? ⟨h, 0, none⟩ = some x0 ∧ w'.cell? ⟨h, 1, none⟩ = some x1 ∧ w'.cell? ⟨b, o, none⟩ = some y0 ∧ w'.cell? ⟨b, o + 1, none⟩ = some y1 ∧ w'.cell? ⟨b, o + 2, none⟩ = some y2 :=
  ⟨(hb.cell (p := ⟨h, 0, none⟩) hl).trans hk.1, (hb.cell (p := ⟨h, 1, none⟩) hl).trans hk.2.1, (hb.cell (p := ⟨b, o, none⟩) hg).trans hk.2.2.1, (hb.cell (p := ⟨b, o + 1, none⟩) hg).trans hk.2.2.2.1, (hb.cell (p := ⟨b, o + 2, none⟩) hg).trans hk.2.2.2.2⟩

set_option maxHeartbeats 4000000 in
theorem SpanTree_any (n : Int) (A : Option Addr) (cap : Nat) (ws : List Wy) (w : World) (hr : RW w w.heap.size A ws) (hT : Tab w) :
    Calls Tryd.prog 13 #[.agg #[.int .i64 n, .slice A ws.length cap]] w fun e w' => e = .returned (.int .i64 (spanTreeOf n ws)) ∧ Below w.heap.size w w' := by
  have HR := Lib.hid hr
  have HT := Lib.hid hT
  clear hr hT
  unfold spanTreeOf
  cases hn : netOk n ws
  · have HN := Lib.hid hn
    rw [if_neg (by simp)]
    clear hn
    go_enter Tryd.func13, Tryd.ntmps13
    go_wp2_with fail
    refine (NetOk_any _ _ _ _ _ (HR.out.later (by go_grown))).mono ?_; rintro e w1 ⟨rfl, hb1⟩
    rw [HN.out]
    obtain ⟨hc1, hf1⟩ := bcell hb1
    have hz1_0 : w.heap.size < w1.heap.size := by have hq := hb1.size; (try simp at hq); omega
    have HK1 := Lib.hid hb1
    have HB1 := Lib.hid (bstep (B := w.heap.size) (W := w) (by (try have hp := HB0.out); go_grown) (by go_size) hb1); clear hb1
    go_wp2_with fail
    go_ret
    exact ⟨rfl, HB1.out⟩
  · have HN := Lib.hid hn
    have HS := Lib.hid (netOk_t hn)
    have hl9 := (netOk_t hn).len
    have hn2 := (netOk_t hn).lo
    have hn6 := (netOk_t hn).hi
    have hfb := full_bd ws.length hl9
    have hal := allPl_bd (netOk_t hn)
    have hal0 : 0 ≤ allPl n := by omega
    have HAL := Lib.hid hal.2.2
    obtain ⟨F, hF⟩ : ∃ F : Int, full ws.length = F := ⟨_, rfl⟩
    have HFF := Lib.hid hF
    rw [hF] at hfb
    have hF0 := hfb.1
    have hF1 := hfb.2
    rw [if_pos rfl, ← ordTo_all (netOk_t hn)]
    obtain ⟨R, hR⟩ : ∃ R : Int, (if joins ws (ordTo ws (allPl n) ws.length) (allPl n) = true then ordTo ws (allPl n) ws.length else -1) = R := ⟨_, rfl⟩
    rw [hR]
    have HRES := Lib.hid hR
    clear hn hal hfb hF hR
    go_enter Tryd.func13, Tryd.ntmps13
    go_wp2_with fail
    refine (NetOk_any _ _ _ _ _ (HR.out.later (by go_grown))).mono ?_; rintro e w1 ⟨rfl, hb1⟩
    rw [HN.out]
    obtain ⟨hc1, hf1⟩ := bcell hb1
    have hz1_0 : w.heap.size < w1.heap.size := by have hq := hb1.size; (try simp at hq); omega
    have HK1 := Lib.hid hb1
    have HB1 := Lib.hid (bstep (B := w.heap.size) (W := w) (by (try have hp := HB0.out); go_grown) (by go_size) hb1); clear hb1
    go_wp2_with fail
    refine (cheapestFirst_any _ _ _ _ _ (HR.out.later HB1.out) HS.out).mono ?_; rintro e w2 ⟨⟨blk, rfl, hblk, ho⟩, hb2⟩
    have k2 : w2.cell? ⟨w.heap.size, 0, none⟩ = some (.int .i64 n) ∧ w2.cell? ⟨w.heap.size, 1, none⟩ = some (.slice A ws.length cap) := keep2 hb2 ⟨by go_simp, by go_simp⟩ hz1_0
    have z2 := Nat.lt_of_lt_of_le hz1_0 hb2.size
    have HB2 := Lib.hid (bstep (B := w.heap.size) (W := w) HB1.out (Nat.le_of_lt hz1_0) hb2)
    clear hb2 hc1 hf1
    go_wp2_with fail
    go_loopw [3, 12] (fun c i wr => ∃ k : Nat, k ≤ ws.length ∧ i = .int .i64 k ∧ c = .int .i64 (ordTo ws (allPl n) k) ∧ wr.cell? ⟨w.heap.size, 0, none⟩ = some (.int .i64 n) ∧ wr.cell? ⟨w.heap.size, 1, none⟩ = some (.slice A ws.length cap) ∧ OrdRow ws wr blk ∧ Below w.heap.size w wr ∧ w.heap.size < wr.heap.size) (fun _ i _ => ws.length - (intOf i).toNat)
    case atStart => exact ⟨0, Nat.zero_le _, rfl, rfl, k2.1, k2.2, ho, HB2.out, z2⟩
    case round =>
      clear k2 ho z2 HB2
      obtain ⟨k, hk, rfl, rfl, b0, b1, ho, hb, hz⟩ := hrel
      have HB0 := Lib.hid hb
      have HOR := Lib.hid ho
      have hbd := ordTo_bd ws (allPl n) k
      rw [HFF.out] at hbd
      have hs0 := hbd.1
      have hs1 : ordTo ws (allPl n) k ≤ 1048576 := by omega
      clear hbd
      by_cases hlt : k < ws.length
      · have hjl := sortd_lt ws k hlt
        have hcell := ho.at_ k hlt
        have HK : Hid (ordTo ws (allPl n) (k + 1) = look1 ws (allPl n) (sortd ws)[k]! (ordTo ws (allPl n) k)) := rfl
        generalize (sortd ws)[k]! = j at hjl hcell HK
        obtain ⟨x, hx⟩ : ∃ x, ws[j]? = some x := ⟨_, List.getElem?_eq_getElem hjl⟩
        have HRR := Lib.hid (HR.out.later hb)
        have HTT := Lib.hid (HT.out.later hb)
        have hxa := HS.out.at_ hx
        have ha0 : 0 ≤ x.a := by omega
        have ha5 : x.a ≤ 5 := by omega
        have hb0 : 0 ≤ x.b := by omega
        have hb5 : x.b ≤ 5 := by omega
        have hbx := (wayPl_bd HS.out hx).1
        have HLT := Lib.hid (wayPl_lt HS.out hx)
        have HJ := Lib.hid (joins_way (s := ordTo ws (allPl n) k) HS.out hx)
        have HALL := Lib.hid (all_has HS.out hx)
        have hpk := pow_bd (j : Int) 8 (by omega)
        rw [Int.toNat_natCast] at hpk
        have HO := Lib.hid (bits_or (ordTo ws (allPl n) k) (2 ^ j) hs0 (by omega) (by omega) (by omega))
        have hw1 : IntKind.i64.wrap (2 ^ j) = 2 ^ j := IntWalk.i64_in _ ⟨by omega, by omega⟩
        have hw2 : wrap64 (2 ^ j) = 2 ^ j := IntWalk.wrap64_in _ ⟨by omega, by omega⟩
        have hk0 : (0 : Int) ≤ (k : Int) := by omega
        have hk1 : (k : Int) < (ws.length : Int) := by omega
        have hj0 : (0 : Int) ≤ (j : Int) := by omega
        have hj1 : (j : Int) < (ws.length : Int) := by omega
        have HX := Lib.hid hx
        obtain ⟨b, o, rfl, hB, c0, c1, c2⟩ := HR.out.below hb j x hx
        have hBr : b < wr.heap.size := by omega
        have k0 : wr.cell? ⟨w.heap.size, 0, none⟩ = some (.int .i64 n) ∧ wr.cell? ⟨w.heap.size, 1, none⟩ = some (.slice (some ⟨b, o, none⟩) ws.length cap) ∧ wr.cell? ⟨b, o + j * 3, none⟩ = some (.int .i64 x.a) ∧ wr.cell? ⟨b, o + j * 3 + 1, none⟩ = some (.int .i64 x.b) ∧ wr.cell? ⟨b, o + j * 3 + 2, none⟩ = some (.int .i64 x.c) := ⟨b0, b1, c0, c1, c2⟩
        cases hbit : bit (reach ws (ordTo ws (allPl n) k) x.a) x.b
        · have HY := Lib.hid (HK.out.trans (look1_yes HX.out HALL.out.1 HALL.out.2 hbit))
          have HJ2 : Hid (joins ws (ordTo ws (allPl n) k) (wayPl x) = false) := by show joins ws _ (wayPl x) = false; rw [HJ.out]; exact hbit
          clear hbit hx hxa hb ho HK
          go_wp2_with fail
          go_region_held3 (fun w' => w'.cell? ⟨w.heap.size, 0, none⟩ = some (.int .i64 n) ∧ w'.cell? ⟨w.heap.size, 1, none⟩ = some (.slice (some ⟨b, o, none⟩) ws.length cap) ∧ w'.cell? ⟨b, o + j * 3, none⟩ = some (.int .i64 x.a) ∧ w'.cell? ⟨b, o + j * 3 + 1, none⟩ = some (.int .i64 x.b) ∧ w'.cell? ⟨b, o + j * 3 + 2, none⟩ = some (.int .i64 x.c))
            (first | exact k4 | exact k3 | exact k0)
            (first
              | (go_at_call 26; refine (wayPlaces_any x ha0 ha5 hb0 hb5 _).mono ?_; rintro e3 w3 ⟨rfl, hb3⟩; have g3 : Below wr.heap.size wr w3 := und hb3; have k3 := keep5w g3 k0 hz hBr; have r3 := Lib.hid (HRR.out.later g3); have t3 := Lib.hid (HTT.out.later g3); have z3 := Nat.lt_of_lt_of_le hz g3.size; have zb3 := Nat.lt_of_lt_of_le hBr g3.size; have o3 := Lib.hid (HOR.out.keep g3))
              | (go_at_call 25; refine (setJoins_any n (ordTo ws (allPl n) k) (wayPl x) (some ⟨b, o, none⟩) cap ws w3 r3.out HS.out hs0 hs1 hbx HLT.out t3.out).mono ?_; rintro e4 w4 ⟨rfl, hb4⟩; rw [HJ2.out]; have k4 := keep5w hb4 k3 z3 zb3; have z4 := Nat.lt_of_lt_of_le z3 hb4.size; have o4 := Lib.hid (o3.out.keep hb4)))
          have HB4 := Lib.hid (bstep (B := w.heap.size) (W := w) (bstep HB0.out (Nat.le_of_lt hz) g3) (Nat.le_of_lt z3) hb4)
          clear g3 hb3 hb4
          go_wp2_with fail
          go_roundw
          case rel => exact ⟨k + 1, by omega, by go_num, by rw [HY.out, HO.out], k4.1, k4.2.1, o4.out, HB4.out, z4⟩
          case measure => simp [intOf]; omega
        · have HY := Lib.hid (HK.out.trans (look1_no HX.out (fun h => by rw [hbit] at h; exact absurd h.2.2 (by simp))))
          have HJ2 : Hid (joins ws (ordTo ws (allPl n) k) (wayPl x) = true) := by show joins ws _ (wayPl x) = true; rw [HJ.out]; exact hbit
          clear hbit hx hxa hb ho HK
          go_wp2_with fail
          go_region_held3 (fun w' => w'.cell? ⟨w.heap.size, 0, none⟩ = some (.int .i64 n) ∧ w'.cell? ⟨w.heap.size, 1, none⟩ = some (.slice (some ⟨b, o, none⟩) ws.length cap) ∧ w'.cell? ⟨b, o + j * 3, none⟩ = some (.int .i64 x.a) ∧ w'.cell? ⟨b, o + j * 3 + 1, none⟩ = some (.int .i64 x.b) ∧ w'.cell? ⟨b, o + j * 3 + 2, none⟩ = some (.int .i64 x.c))
            (first | exact k4 | exact k3 | exact k0)
            (first
              | (go_at_call 26; refine (wayPlaces_any x ha0 ha5 hb0 hb5 _).mono ?_; rintro e3 w3 ⟨rfl, hb3⟩; have g3 : Below wr.heap.size wr w3 := und hb3; have k3 := keep5w g3 k0 hz hBr; have r3 := Lib.hid (HRR.out.later g3); have t3 := Lib.hid (HTT.out.later g3); have z3 := Nat.lt_of_lt_of_le hz g3.size; have zb3 := Nat.lt_of_lt_of_le hBr g3.size; have o3 := Lib.hid (HOR.out.keep g3))
              | (go_at_call 25; refine (setJoins_any n (ordTo ws (allPl n) k) (wayPl x) (some ⟨b, o, none⟩) cap ws w3 r3.out HS.out hs0 hs1 hbx HLT.out t3.out).mono ?_; rintro e4 w4 ⟨rfl, hb4⟩; rw [HJ2.out]; have k4 := keep5w hb4 k3 z3 zb3; have z4 := Nat.lt_of_lt_of_le z3 hb4.size; have o4 := Lib.hid (o3.out.keep hb4)))
          have HB4 := Lib.hid (bstep (B := w.heap.size) (W := w) (bstep HB0.out (Nat.le_of_lt hz) g3) (Nat.le_of_lt z3) hb4)
          clear g3 hb3 hb4
          go_wp2_with fail
          go_roundw
          case rel => exact ⟨k + 1, by omega, by go_num, by rw [HY.out], k4.1, k4.2.1, o4.out, HB4.out, z4⟩
          case measure => simp [intOf]; omega
      · have hkl : k = ws.length := by omega
        subst hkl
        have HRR := Lib.hid (HR.out.later hb)
        have HTT := Lib.hid (HT.out.later hb)
        clear hb ho
        cases hj : joins ws (ordTo ws (allPl n) ws.length) (allPl n)
        · have HJ := Lib.hid hj
          have HX : Hid (-1 = R) := by show -1 = R; rw [← HRES.out, hj]; simp
          clear hj
          go_wp2_with fail
          go_region_held3 (fun w' => w'.cell? ⟨w.heap.size, 0, none⟩ = some (.int .i64 n) ∧ w'.cell? ⟨w.heap.size, 1, none⟩ = some (.slice A ws.length cap))
            (first | exact k4 | exact k3 | exact ⟨b0, b1⟩)
            (first
              | (go_at_call 27; refine (allPlaces_any n _ (by omega) (by omega) _).mono ?_; rintro e3 w3 ⟨rfl, hb3⟩; have g3 : Below wr.heap.size wr w3 := und hb3; have k3 := keep2 g3 ⟨b0, b1⟩ hz; have r3 := Lib.hid (HRR.out.later g3); have t3 := Lib.hid (HTT.out.later g3); have z3 := Nat.lt_of_lt_of_le hz g3.size)
              | (go_at_call 25; refine (setJoins_any n (ordTo ws (allPl n) ws.length) (allPl n) A cap ws w3 r3.out HS.out hs0 hs1 hal0 HAL.out t3.out).mono ?_; rintro e4 w4 ⟨rfl, hb4⟩; rw [HJ.out]; have k4 := keep2 hb4 k3 z3))
          have HB4 := Lib.hid (bstep (B := w.heap.size) (W := w) (bstep HB0.out (Nat.le_of_lt hz) g3) (Nat.le_of_lt z3) hb4)
          clear g3 hb3 hb4
          go_wp2_with fail
          go_ret
          exact ⟨ret_int HX.out, HB4.out⟩
        · have HJ := Lib.hid hj
          have HX : Hid (ordTo ws (allPl n) ws.length = R) := by show _ = R; rw [← HRES.out, hj]; simp
          clear hj
          go_wp2_with fail
          go_region_held3 (fun w' => w'.cell? ⟨w.heap.size, 0, none⟩ = some (.int .i64 n) ∧ w'.cell? ⟨w.heap.size, 1, none⟩ = some (.slice A ws.length cap))
            (first | exact k4 | exact k3 | exact ⟨b0, b1⟩)
            (first
              | (go_at_call 27; refine (allPlaces_any n _ (by omega) (by omega) _).mono ?_; rintro e3 w3 ⟨rfl, hb3⟩; have g3 : Below wr.heap.size wr w3 := und hb3; have k3 := keep2 g3 ⟨b0, b1⟩ hz; have r3 := Lib.hid (HRR.out.later g3); have t3 := Lib.hid (HTT.out.later g3); have z3 := Nat.lt_of_lt_of_le hz g3.size)
              | (go_at_call 25; refine (setJoins_any n (ordTo ws (allPl n) ws.length) (allPl n) A cap ws w3 r3.out HS.out hs0 hs1 hal0 HAL.out t3.out).mono ?_; rintro e4 w4 ⟨rfl, hb4⟩; rw [HJ.out]; have k4 := keep2 hb4 k3 z3))
          have HB4 := Lib.hid (bstep (B := w.heap.size) (W := w) (bstep HB0.out (Nat.le_of_lt hz) g3) (Nat.le_of_lt z3) hb4)
          clear g3 hb3 hb4
          go_wp2_with fail
          go_ret
          exact ⟨ret_int HX.out, HB4.out⟩

end Go.Proofs.YthadehgpeafniabDoor
