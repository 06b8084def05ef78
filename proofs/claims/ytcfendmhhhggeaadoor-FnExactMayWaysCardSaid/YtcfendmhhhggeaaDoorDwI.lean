/- The program's changes of ways. -/
import Derived.Test.YtcfendmhhhggeaaDoorDwIa
import Derived.Test.YtcfendmhhhggeaaDoorDwD
import Derived.Test.YtcfendmhhhggeaaDoorRH
set_option linter.unusedSimpArgs false
set_option linter.unusedVariables false
attribute [local go_sem ↓] Go.wp_at_zero Go.wp_at_succ
namespace Go.Proofs.YtcfendmhhhggeaaDoor
open Go.ChangeShapes Go.WideShapes Go.ChangeAt Go.RowKit

theorem cw_bad {n : Int} {ws : List Wy} {e t : Int} (h : setOk n ws t = false) : costWithout n ws e t = -1 := by
  unfold costWithout
  rw [if_neg]
  intro h9
  simp only [Bool.and_eq_true] at h9
  unfold costWithout.inB' at h9
  simp only [Bool.and_eq_true, decide_eq_true_eq] at h9
  rw [setOk_mk h9.1 h9.2.2.1 h9.2.2.2] at h; cases h
theorem ch_bad {n : Int} {ws : List Wy} {e t : Int} (h : setOk n ws t = false) : costWith n ws e t = -1 := by
  unfold costWith
  rw [if_neg]
  intro h9
  simp only [Bool.and_eq_true] at h9
  unfold costWithout.inB' at h9
  simp only [Bool.and_eq_true, decide_eq_true_eq] at h9
  rw [setOk_mk h9.1 h9.2.2.1 h9.2.2.2] at h; cases h
theorem setOk_net {n : Int} {ws : List Wy} {t : Int} (h : setOk n ws t = true) : netOk n ws = true := by
  unfold setOk at h
  simp only [Bool.and_eq_true] at h
  exact h.1.1
theorem rootCost_bd {n : Int} {ws : List Wy} {e : Int} : -1 ≤ rootCost n ws e ∧ rootCost n ws e ≤ 81 := by
  cases h : netOk n ws && plOk n e
  · rw [rootCost_not h]; omega
  · obtain ⟨h1, h2⟩ : netOk n ws = true ∧ plOk n e = true := by simpa using h
    rw [rootCost_rc h1 h2]
    exact rc_ge (netOk_t h1) e
set_option maxRecDepth 100000 in
set_option maxHeartbeats 4000000 in
theorem netWithout_any (n t : Int) (A : Option Addr) (cap : Nat) (ws : List Wy) (w : World) (hr : RW w w.heap.size A ws) (hl9 : ws.length ≤ 9) (t0 : 0 ≤ t) (t9 : t ≤ 511) :
    Calls Tryd.prog 42 #[.agg #[.int .i64 n, .slice A ws.length cap], .int .i64 t] w fun en w' => ∃ A1 c1, en = .returned (.agg #[.int .i64 n, .slice A1 (wo ws t).length c1]) ∧ RW w' w'.heap.size A1 (wo ws t) ∧ Below w.heap.size w w' := by
  have HR := Lib.hid hr
  obtain ⟨w0, hw0⟩ : ∃ w0, (w.alloc (.cells #[.int .i64 n, .slice A ws.length cap] 25)).alloc (.cells #[.int .i64 0, .slice none 0 0] 25) = w0 := ⟨_, rfl⟩
  have hs0 : w0.heap.size = w.heap.size + 1 + 1 := by rw [← hw0]; simp
  have HB0 : Hid (Below w.heap.size w w0) := by show Below _ _ _; rw [← hw0]; exact ((Below.refl _ _).alloc (Nat.le_refl _) _).alloc (by simp) _
  have hres : w0.heap[w.heap.size + 1]? = some (.cells #[.int .i64 0, .slice none 0 0] 25 (0, 0)) := by
    rw [← hw0]
    have h9 := heap_alloc_new (w.alloc (.cells #[.int .i64 n, .slice A ws.length cap] 25)) (.cells #[.int .i64 0, .slice none 0 0] 25)
    simpa using h9
  have HRES := Lib.hid hres
  have hpar : w0.heap[w.heap.size]? = some (.cells #[.int .i64 n, .slice A ws.length cap] 25 (0, 0)) := by
    rw [← hw0, Below.heap_alloc _ _ _ (by simp)]
    exact heap_alloc_new w _
  have k10 : w0.cell? ⟨w.heap.size, 0, none⟩ = some (.int .i64 n) := cell_of_row _ _ 0 _ _ (0, 0) hpar
  have k11 : w0.cell? ⟨w.heap.size, 1, none⟩ = some (.slice A ws.length cap) := cell_of_row _ _ 1 _ _ (0, 0) hpar
  have HS0 := Lib.hid hs0
  have ST0 : Hid (BoxSt w0 (w0.alloc (.cells #[.int .i64 n, .slice none 0 0] 25)) (w.heap.size + 1 + 1) 25 55 n (.slice none 0 0) (woTo ws t 0)) := by
    show BoxSt _ _ _ _ _ _ _ _
    rw [← hs0]
    exact ⟨(Below.refl _ _).alloc (Nat.le_refl _) _, heap_alloc_new _ _, World.ownsRow_nil _ _ _ _⟩
  obtain ⟨i0, hi0, hz0, hz1', hz2⟩ := info_parts infoWy
  have hlt1 : w.heap.size < w0.heap.size := by omega
  clear hr hpar hres
  go_enter Tryd.func42, Tryd.ntmps42
  go_wp2_with fail
  (try rw [hw0])
  clear hw0 k10 k11
  go_loopw [14] (fun i wr => ∃ (k : Nat) (v : Value), k ≤ ws.length ∧ i = .int .i64 k ∧ BoxSt w0 wr (w.heap.size + 1 + 1) 25 55 n v (woTo ws t k)) (fun i _ => ws.length - (intOf i).toNat)
  case atStart => exact ⟨0, _, Nat.zero_le _, rfl, ST0.out⟩
  case round =>
    clear ST0 hs0
    obtain ⟨k, v, hk, rfl, hst⟩ := hrel
    have ST := Lib.hid hst
    obtain ⟨b0, b1, bf⟩ := hst.cells
    have hlt0 := hst.lt
    have hgl := wo_len (ws := ws) (t := t) k
    have HBR : Hid (Below w.heap.size w wr) := bstep HB0.out HB0.out.size (by rw [HS0.out]; exact hst.low)
    have hk0 : (0 : Int) ≤ (k : Int) := by omega
    clear hst
    by_cases hlt : k < ws.length
    · have hk1 : (k : Int) < (ws.length : Int) := by omega
      obtain ⟨x, hx⟩ : ∃ x, ws[k]? = some x := ⟨_, List.getElem?_eq_getElem hlt⟩
      obtain ⟨ob, oo, rfl, hOB, g0, g1, g2⟩ := HR.out.below HBR.out k x hx
      have ST2 := Lib.hid (ST.out.alloc_ (.cells #[.int .i64 x.a, .int .i64 x.b, .int .i64 x.c] 55))
      have hvb : (wr.alloc (.cells #[.int .i64 x.a, .int .i64 x.b, .int .i64 x.c] 55)).heap[wr.heap.size]? = some (.cells #[.int .i64 x.a, .int .i64 x.b, .int .i64 x.c] 55 (0, 0)) := heap_alloc_new _ _
      obtain ⟨V, hV⟩ : ∃ V, wr.alloc (.cells #[.int .i64 x.a, .int .i64 x.b, .int .i64 x.c] 55) = V := ⟨_, rfl⟩
      rw [hV] at ST2 hvb
      have p0 : V.cell? ⟨wr.heap.size, 0, none⟩ = some (.int .i64 x.a) := cell_of_row _ _ 0 _ _ (0, 0) hvb
      have p1 : V.cell? ⟨wr.heap.size, 1, none⟩ = some (.int .i64 x.b) := cell_of_row _ _ 1 _ _ (0, 0) hvb
      have p2 : V.cell? ⟨wr.heap.size, 2, none⟩ = some (.int .i64 x.c) := cell_of_row _ _ 2 _ _ (0, 0) hvb
      obtain ⟨y0, y1, yf⟩ := ST2.out.cells
      have hzV := ST2.out.lt
      obtain ⟨L, hL⟩ : ∃ L, woTo ws t k = L := ⟨_, rfl⟩
      cases hbit : bit t k
      · have HST : Hid (woTo ws t (k + 1) = L ++ [x]) := by show _ = _; rw [wo_out hx hbit, hL]
        have HBT := Lib.hid hbit
        rw [hL] at ST ST2 hgl
        clear hx hbit hL hvb
        go_wp2_with fail
        refine (inSet_any _ _ (by omega) (by omega) t0 (by omega) _).mono ?_; rintro e4 w4 ⟨rfl, rfl⟩; rw [HBT.out]
        go_wp2_with (at_builtin; refine wpList_append_lies _ rfl _ _ _ rfl (w.heap.size + 1 + 1 + 1) 55 i0 _ 3 24 Tryd.underlying23 hi0 hz0 hz1' hz2 rfl (by decide) v _ (wyCells L) rfl (World.ownsRow.alloc ST2.out.own _) ⟨V.heap.size, 0, none⟩ 1 1 [.int .i64 x.a, .int .i64 x.b, .int .i64 x.c] rfl rfl (World.news_of_block (cs := #[.int .i64 x.a, .int .i64 x.b, .int .i64 x.c]) (t := 55) (fr := (0, 0)) (heap_alloc_new _ _)) (by simp [Value.oneCell']) (by omega) (by unfold maxLen; omega) (by omega) (by (simp; omega)) (V.heap.size + 1) (by simp) ?_; intro gg cc w5 hown5 hgrow5 hat5 hlt5; have hlow5 := ST2.out.app_low hgrow5; obtain ⟨cc5, cf5⟩ := ST2.out.app_cells hgrow5; have S5 := Lib.hid (BoxSt.append ST2.out x hown5 hgrow5); clear hown5 hgrow5 hat5 hlt5 hlow5)
        go_roundw
        case rel => exact ⟨k + 1, _, by omega, by go_num, by rw [HST.out]; exact S5.out⟩
        case measure => (simp [intOf]) <;> omega
      · have HST : Hid (woTo ws t (k + 1) = L) := by show _ = _; rw [wo_in hbit, hL]
        have HBT := Lib.hid hbit
        rw [hL] at ST ST2 hgl
        clear hx hbit hL hvb
        go_wp2_with fail
        refine (inSet_any _ _ (by omega) (by omega) t0 (by omega) _).mono ?_; rintro e4 w4 ⟨rfl, rfl⟩; rw [HBT.out]
        go_wp2_with fail
        go_roundw
        case rel => exact ⟨k + 1, _, by omega, by go_num, by rw [HST.out]; exact ST2.out⟩
        case measure => (simp [intOf]) <;> omega
    · obtain rfl : k = ws.length := by omega
      obtain ⟨A1, c9, rfl⟩ := ST.out.form
      have HOW := Lib.hid ST.out.own
      have hres : wr.heap[w.heap.size + 1]? = some (.cells #[.int .i64 0, .slice none 0 0] 25 (0, 0)) := by
        rw [ST.out.low.block (w.heap.size + 1) (by omega)]; exact HRES.out
      have q0 : wr.cell? ⟨w.heap.size + 1, 0, none⟩ = some (.int .i64 0) := cell_of_row _ _ 0 _ _ (0, 0) hres
      have q1 : wr.cell? ⟨w.heap.size + 1, 1, none⟩ = some (.slice none 0 0) := cell_of_row _ _ 1 _ _ (0, 0) hres
      have f0 : wr.frozen? ⟨w.heap.size + 1, 0, none⟩ = false := by simp [World.frozen?, hres]
      have f1 : wr.frozen? ⟨w.heap.size + 1, 1, none⟩ = false := by simp [World.frozen?, hres]
      have T := Lib.hid (two_cells (v0 := .int .i64 n) (v1 := .slice A1 (woTo ws t ws.length).length c9) hres)
      have HO2 := Lib.hid (ownsRow_setCell_below (ownsRow_setCell_below HOW.out (a := ⟨w.heap.size + 1, 0, none⟩) (by simp; try omega) (.int .i64 n)) (a := ⟨w.heap.size + 1, 1, none⟩) (by simp; try omega) (.slice A1 (woTo ws t ws.length).length c9))
      have HL2 := Lib.hid ((HBR.out.setCell (p := ⟨w.heap.size + 1, 0, none⟩) (by simp) (.int .i64 n)).setCell (p := ⟨w.heap.size + 1, 1, none⟩) (by simp) (.slice A1 (woTo ws t ws.length).length c9))
      clear hres
      go_wp2_with fail
      obtain ⟨t0', t1'⟩ := T.out
      refine bodyPost_ret (v := .agg #[.int .i64 n, .slice A1 (woTo ws t ws.length).length c9]) (by simp [results, Tryd.results42, go_sem, t0', t1']) rfl ?_
      exact ⟨A1, c9, rfl, RowF.rw3 (rowF_of_ways HO2.out), HL2.out⟩
set_option maxHeartbeats 2000000 in
theorem CostWithout_any (n e t : Int) (A : Option Addr) (cap : Nat) (ws : List Wy) (w : World) (hr : RW w w.heap.size A ws) (hT : Tab w) :
    Calls Tryd.prog 14 #[.agg #[.int .i64 n, .slice A ws.length cap], .int .i64 e, .int .i64 t] w fun en w' => en = .returned (.int .i64 (costWithout n ws e t)) ∧ Below w.heap.size w w' := by
  have HR := Lib.hid hr
  have HT := Lib.hid hT
  clear hr hT
  cases hs : setOk n ws t
  · have HS := Lib.hid hs
    rw [cw_bad hs]
    clear hs
    go_enter Tryd.func14, Tryd.ntmps14
    go_wp2_with fail
    refine (waysOk_any _ _ _ _ _ _ (HR.out.later (by go_grown))).mono ?_; rintro e w1 ⟨rfl, hb1⟩
    rw [HS.out]
    obtain ⟨hc1, hf1⟩ := bcell hb1
    have hz1_0 : w.heap.size < w1.heap.size := by have hq := hb1.size; (try simp at hq); omega
    have HK1 := Lib.hid hb1
    have HB1 := Lib.hid (bstep (B := w.heap.size) (W := w) (by (try have hp := HB0.out); go_grown) (by go_size) hb1); clear hb1
    go_wp2_with fail
    go_ret
    exact ⟨rfl, HB1.out⟩
  · have HS := Lib.hid hs
    obtain ⟨hn, t0, t1, t9⟩ := setOk_t hs
    have HV : Hid (rootCost n (wo ws t) e = costWithout n ws e t) := cw_wo (setOk_net hs) t0 t1
    have hl9 := hn.len
    clear hs hn t1
    go_enter Tryd.func14, Tryd.ntmps14
    go_wp2_with fail
    refine (waysOk_any _ _ _ _ _ _ (HR.out.later (by go_grown))).mono ?_; rintro e w1 ⟨rfl, hb1⟩
    rw [HS.out]
    obtain ⟨hc1, hf1⟩ := bcell hb1
    have hz1_0 : w.heap.size < w1.heap.size := by have hq := hb1.size; (try simp at hq); omega
    have HK1 := Lib.hid hb1
    have HB1 := Lib.hid (bstep (B := w.heap.size) (W := w) (by (try have hp := HB0.out); go_grown) (by go_size) hb1); clear hb1
    have k10 : w1.cell? ⟨w.heap.size, 0, none⟩ = some (.int .i64 n) := by go_simp
    have k11 : w1.cell? ⟨w.heap.size, 1, none⟩ = some (.slice A ws.length cap) := by go_simp
    clear hc1 hf1 HK1
    go_wp2_with fail
    refine (netWithout_any n t A cap ws _ (HR.out.later (by have := HB1.out; go_grown)) hl9 t0 t9).mono ?_; rintro e2 w2 ⟨A2, c2, rfl, hr2, hb2⟩
    have HR2 := Lib.hid hr2
    have HB2 := Lib.hid (bstep (B := w.heap.size) (W := w) (by have := HB1.out; go_grown) (by first | exact HB3.out.size | exact HB2.out.size | exact HB1.out.size | go_size) hb2)
    clear hr2 hb2
    go_wp2_with fail
    refine (RootCost_any n e A2 c2 (wo ws t) _ (HR2.out.later (by go_grown)) (HT.out.later (by have := HB2.out; go_grown))).mono ?_; rintro e3 w3 ⟨rfl, hb3⟩; rw [HV.out]
    have HB3 := Lib.hid (bstep (B := w.heap.size) (W := w) (by have := HB2.out; go_grown) (by first | exact HB3.out.size | exact HB2.out.size | exact HB1.out.size | go_size) hb3)
    clear hb3
    go_wp2_with fail
    go_ret
    exact ⟨rfl, HB3.out⟩
set_option maxHeartbeats 2000000 in
theorem CostWith_any (n e t : Int) (A : Option Addr) (cap : Nat) (ws : List Wy) (w : World) (hr : RW w w.heap.size A ws) (hT : Tab w) :
    Calls Tryd.prog 21 #[.agg #[.int .i64 n, .slice A ws.length cap], .int .i64 e, .int .i64 t] w fun en w' => en = .returned (.int .i64 (costWith n ws e t)) ∧ Below w.heap.size w w' := by
  have HR := Lib.hid hr
  have HT := Lib.hid hT
  clear hr hT
  cases hs : setOk n ws t
  · have HS := Lib.hid hs
    rw [ch_bad hs]
    clear hs
    go_enter Tryd.func21, Tryd.ntmps21
    go_wp2_with fail
    refine (waysOk_any _ _ _ _ _ _ (HR.out.later (by go_grown))).mono ?_; rintro e w1 ⟨rfl, hb1⟩
    rw [HS.out]
    obtain ⟨hc1, hf1⟩ := bcell hb1
    have hz1_0 : w.heap.size < w1.heap.size := by have hq := hb1.size; (try simp at hq); omega
    have HK1 := Lib.hid hb1
    have HB1 := Lib.hid (bstep (B := w.heap.size) (W := w) (by (try have hp := HB0.out); go_grown) (by go_size) hb1); clear hb1
    go_wp2_with fail
    go_ret
    exact ⟨rfl, HB1.out⟩
  · have HS := Lib.hid hs
    obtain ⟨hn, t0, t1, t9⟩ := setOk_t hs
    have HV := Lib.hid (ch_fr (e := e) (setOk_net hs) t0 t1)
    have HN := Lib.hid hn
    have hl9 := hn.len
    have hcb := cost_bds hn t
    have hrb := rootCost_bd (n := n) (ws := fr ws t) (e := e)
    obtain ⟨R, hR⟩ : ∃ R, rootCost n (fr ws t) e = R := ⟨_, rfl⟩
    have HRR := Lib.hid hR
    rw [hR] at HV hrb
    clear hs hn t1 hR
    by_cases hneg : R < 0
    · have HV1 : Hid (costWith n ws e t = -1) := by show _ = _; rw [HV.out, if_pos hneg]
      rw [HV1.out]
      clear hcb hrb
      go_enter Tryd.func21, Tryd.ntmps21
      go_wp2_with fail
      refine (waysOk_any _ _ _ _ _ _ (HR.out.later (by go_grown))).mono ?_; rintro e w1 ⟨rfl, hb1⟩
      rw [HS.out]
      obtain ⟨hc1, hf1⟩ := bcell hb1
      have hz1_0 : w.heap.size < w1.heap.size := by have hq := hb1.size; (try simp at hq); omega
      have HK1 := Lib.hid hb1
      have HB1 := Lib.hid (bstep (B := w.heap.size) (W := w) (by (try have hp := HB0.out); go_grown) (by go_size) hb1); clear hb1
      have k10 : w1.cell? ⟨w.heap.size, 0, none⟩ = some (.int .i64 n) := by go_simp
      have k11 : w1.cell? ⟨w.heap.size, 1, none⟩ = some (.slice A ws.length cap) := by go_simp
      clear hc1 hf1 HK1
      go_wp2_with fail
      refine (netWithFree_any n t A cap ws _ (HR.out.later (by have := HB1.out; go_grown)) hl9 t0 t9).mono ?_; rintro e2 w2 ⟨A2, c2, rfl, hr2, hb2⟩
      have HR2 := Lib.hid hr2
      have HB2 := Lib.hid (bstep (B := w.heap.size) (W := w) (by have := HB1.out; go_grown) (by first | exact HB3.out.size | exact HB2.out.size | exact HB1.out.size | go_size) hb2)
      have HLE : Hid ((fr ws t).length = ws.length) := fr_len _
      clear hr2 hb2
      go_wp2_with fail
      rw [← HLE.out]
      refine (RootCost_any n e A2 c2 (fr ws t) _ (HR2.out.later (by go_grown)) (HT.out.later (by have := HB2.out; go_grown))).mono ?_; rintro e3 w3 ⟨rfl, hb3⟩; rw [HRR.out]
      have HB3 := Lib.hid (bstep (B := w.heap.size) (W := w) (by have := HB2.out; go_grown) (by first | exact HB3.out.size | exact HB2.out.size | exact HB1.out.size | go_size) hb3)
      clear hb3
      go_wp2_with fail
      go_ret
      exact ⟨rfl, HB3.out⟩
    · have HV1 : Hid (costWith n ws e t = cost ws t + R) := by show _ = _; rw [HV.out, if_neg hneg]
      rw [HV1.out]
      obtain ⟨C, hC⟩ : ∃ C, cost ws t = C := ⟨_, rfl⟩
      have HC := Lib.hid hC
      rw [hC] at hcb ⊢
      have HW1 : Hid (IntKind.i64.wrap (C + R) = C + R) := IntWalk.i64_in _ ⟨by omega, by omega⟩
      have HW2 : Hid (wrap64 (C + R) = C + R) := IntWalk.wrap64_in _ ⟨by omega, by omega⟩
      clear hC
      go_enter Tryd.func21, Tryd.ntmps21
      go_wp2_with fail
      refine (waysOk_any _ _ _ _ _ _ (HR.out.later (by go_grown))).mono ?_; rintro e w1 ⟨rfl, hb1⟩
      rw [HS.out]
      obtain ⟨hc1, hf1⟩ := bcell hb1
      have hz1_0 : w.heap.size < w1.heap.size := by have hq := hb1.size; (try simp at hq); omega
      have HK1 := Lib.hid hb1
      have HB1 := Lib.hid (bstep (B := w.heap.size) (W := w) (by (try have hp := HB0.out); go_grown) (by go_size) hb1); clear hb1
      have k10 : w1.cell? ⟨w.heap.size, 0, none⟩ = some (.int .i64 n) := by go_simp
      have k11 : w1.cell? ⟨w.heap.size, 1, none⟩ = some (.slice A ws.length cap) := by go_simp
      have z1 : w.heap.size < w1.heap.size := by have h9 := HK1.out.size; simp at h9; omega
      clear hc1 hf1 HK1
      go_wp2_with fail
      refine (netWithFree_any n t A cap ws _ (HR.out.later (by have := HB1.out; go_grown)) hl9 t0 t9).mono ?_; rintro e2 w2 ⟨A2, c2, rfl, hr2, hb2⟩
      have k2 := keep2 (und (k := 0) hb2) ⟨k10, k11⟩ z1
      have z2 : w.heap.size < w2.heap.size := Nat.lt_of_lt_of_le z1 (und (k := 0) hb2).size
      have HR2 := Lib.hid hr2
      have HB2 := Lib.hid (bstep (B := w.heap.size) (W := w) (by have := HB1.out; go_grown) (by first | exact HB3.out.size | exact HB2.out.size | exact HB1.out.size | go_size) hb2)
      have HLE : Hid ((fr ws t).length = ws.length) := fr_len _
      clear hr2 hb2
      obtain ⟨k20, k21⟩ := k2
      go_wp2_with fail
      rw [← HLE.out]
      refine (RootCost_any n e A2 c2 (fr ws t) _ (HR2.out.later (by go_grown)) (HT.out.later (by have := HB2.out; go_grown))).mono ?_; rintro e3 w3 ⟨rfl, hb3⟩; rw [HRR.out]
      have k3 := keep2 (und (k := 0) hb3) ⟨k20, k21⟩ z2
      have HB3 := Lib.hid (bstep (B := w.heap.size) (W := w) (by have := HB2.out; go_grown) (by first | exact HB3.out.size | exact HB2.out.size | exact HB1.out.size | go_size) hb3)
      clear hb3
      obtain ⟨k30, k31⟩ := k3
      go_wp2_with fail
      refine (setCost_any n t A cap ws _ (HR.out.later (by have := HB3.out; go_grown)) HN.out t0 (by omega)).mono ?_; rintro e4 w4 ⟨rfl, hb4⟩; rw [HC.out]
      have HB4 := Lib.hid (bstep (B := w.heap.size) (W := w) (by have := HB3.out; go_grown) (by first | exact HB3.out.size | exact HB2.out.size | exact HB1.out.size | go_size) hb4)
      have hw1 := HW1.out
      have hw2 := HW2.out
      clear hb4
      go_wp2_with fail
      go_ret
      exact ⟨rfl, HB4.out⟩
set_option maxHeartbeats 4000000 in
theorem MustWays_any (n e : Int) (A : Option Addr) (cap : Nat) (ws : List Wy) (w : World) (hr : RW w w.heap.size A ws) (hT : Tab w) :
    Calls Tryd.prog 25 #[.agg #[.int .i64 n, .slice A ws.length cap], .int .i64 e] w fun en w' => en = .returned (.int .i64 (mustWays n ws e)) ∧ Below w.heap.size w w' := by
  have HR := Lib.hid hr
  have HT := Lib.hid hT
  clear hr hT
  unfold mustWays
  obtain ⟨R, hR⟩ : ∃ R, rootCost n ws e = R := ⟨_, rfl⟩
  have HRC := Lib.hid hR
  have HST : Hid (∀ k : Nat, (costWithout n ws e (2 ^ k) = R → mustTo n ws e (k + 1) = mustTo n ws e k) ∧ (¬ costWithout n ws e (2 ^ k) = R → mustTo n ws e (k + 1) = ior (mustTo n ws e k) (2 ^ k))) := fun k => by
    rw [← hR]; exact ⟨mustTo_yes, mustTo_no⟩
  rw [hR]
  by_cases h0 : R < 0
  · rw [if_pos h0]
    clear hR
    go_enter Tryd.func25, Tryd.ntmps25
    go_wp2_with fail
    refine (RootCost_any _ _ _ _ _ _ (HR.out.later (by go_grown)) (HT.out.later (by go_grown))).mono ?_; rintro e w1 ⟨rfl, hb1⟩
    rw [HRC.out]
    obtain ⟨hc1, hf1⟩ := bcell hb1
    have hz1_0 : w.heap.size < w1.heap.size := by have hq := hb1.size; (try simp at hq); omega
    have HK1 := Lib.hid hb1
    have HB1 := Lib.hid (bstep (B := w.heap.size) (W := w) (by (try have hp := HB0.out); go_grown) (by go_size) hb1); clear hb1
    go_wp2_with fail
    go_ret
    exact ⟨rfl, HB1.out⟩
  · rw [if_neg h0]
    have hl9 : ws.length ≤ 9 := (netOk_t (rootCost_told (n := n) (ws := ws) (e := e) (by rw [hR]; exact h0)).1).len
    clear hR
    go_enter Tryd.func25, Tryd.ntmps25
    go_wp2_with fail
    refine (RootCost_any _ _ _ _ _ _ (HR.out.later (by go_grown)) (HT.out.later (by go_grown))).mono ?_; rintro e w1 ⟨rfl, hb1⟩
    rw [HRC.out]
    obtain ⟨hc1, hf1⟩ := bcell hb1
    have hz1_0 : w.heap.size < w1.heap.size := by have hq := hb1.size; (try simp at hq); omega
    have HK1 := Lib.hid hb1
    have HB1 := Lib.hid (bstep (B := w.heap.size) (W := w) (by (try have hp := HB0.out); go_grown) (by go_size) hb1); clear hb1
    have k10 : w1.cell? ⟨w.heap.size, 0, none⟩ = some (.int .i64 n) := by go_simp
    have k11 : w1.cell? ⟨w.heap.size, 1, none⟩ = some (.slice A ws.length cap) := by go_simp
    clear hc1 hf1
    go_wp2_with fail
    go_loopw [6, 16] (fun c i wr => ∃ k : Nat, k ≤ ws.length ∧ i = .int .i64 k ∧ c = .int .i64 (mustTo n ws e k) ∧ wr.cell? ⟨w.heap.size, 0, none⟩ = some (.int .i64 n) ∧ wr.cell? ⟨w.heap.size, 1, none⟩ = some (.slice A ws.length cap) ∧ Below w.heap.size w wr ∧ w.heap.size < wr.heap.size) (fun _ i _ => ws.length - (intOf i).toNat)
    case atStart => exact ⟨0, Nat.zero_le _, rfl, rfl, k10, k11, HB1.out, hz1_0⟩
    case round =>
      clear k10 k11 HB1 HK1 hz1_0
      obtain ⟨k, hk, rfl, rfl, b0, b1, hb, hz⟩ := hrel
      have HB0 := Lib.hid hb
      have hk0 : (0 : Int) ≤ (k : Int) := by omega
      have hst := HST.out k
      have hmb := mustTo_bd n ws e k
      have hpk := pow_bd (k : Int) 9 (by omega)
      rw [Int.toNat_natCast] at hpk
      obtain ⟨X, hX⟩ : ∃ X, mustTo n ws e k = X := ⟨_, rfl⟩
      have HXE := Lib.hid hX
      rw [hX] at hst hmb ⊢
      clear hb hX
      by_cases hlt : k < ws.length
      · have hk1 : (k : Int) < (ws.length : Int) := by omega
        have HP1 : Hid (IntKind.i64.wrap (2 ^ k) = 2 ^ k) := IntWalk.i64_in _ ⟨by omega, by omega⟩
        have HP2 : Hid (wrap64 (2 ^ k) = 2 ^ k) := IntWalk.wrap64_in _ ⟨by omega, by omega⟩
        have HOR : Hid (bits .or .i64 X (2 ^ k) = ior X (2 ^ k)) := bits_or _ _ hmb.1 (by omega) (by omega) (by omega)
        obtain ⟨V, hV⟩ : ∃ V, costWithout n ws e (2 ^ k) = V := ⟨_, rfl⟩
        have HV := Lib.hid hV
        rw [hV] at hst
        by_cases hVR : V = R
        · have HY : Hid (mustTo n ws e (k + 1) = X) := hst.1 hVR
          have hne : (V != R) = false := by rw [hVR]; simp
          clear hst hmb hpk hV hVR
          have hp1 := HP1.out
          have hp2 := HP2.out
          go_wp2_with fail
          refine wp_region_held_drew (S := (fun w' => w'.cell? ⟨w.heap.size, 0, none⟩ = some (.int .i64 n) ∧ w'.cell? ⟨w.heap.size, 1, none⟩ = some (.slice A ws.length cap))) (by kernel_rfl) ?_ (fun hHeld => ?_)
          · exact ⟨b0, b1⟩
          refine wpAnyH_take (i := 0) (v := ?_) rfl (by kernel_rfl) (by kernel_rfl) (by kernel_rfl) (fun _ _ _ h => h) (Or.inl ⟨by rfl, ?_⟩) (by assumption) ?_
          rotate_left
          · (intro w hSw; (try dsimp only at hSw); (try simp only [List.getElem_toArray, List.getElem_cons_succ, List.getElem_cons_zero]); first | (go_simp; done) | (go_simp; with_reducible rfl))
          try simp only [Act.put, List.getElem_toArray, List.getElem_cons_succ, List.getElem_cons_zero, List.setIfInBounds_toArray, List.set_cons_zero, List.set_cons_succ]
          refine wpAnyH_take (i := 1) (v := ?_) rfl (by kernel_rfl) (by kernel_rfl) (by kernel_rfl) (fun _ _ _ h => h) (Or.inl ⟨by rfl, ?_⟩) (by assumption) ?_
          rotate_left
          · (intro w hSw; (try dsimp only at hSw); (try simp only [List.getElem_toArray, List.getElem_cons_succ, List.getElem_cons_zero]); first | (go_simp; done) | (go_simp; with_reducible rfl))
          try simp only [Act.put, List.getElem_toArray, List.getElem_cons_succ, List.getElem_cons_zero, List.setIfInBounds_toArray, List.set_cons_zero, List.set_cons_succ]
          refine wpAnyH_take (i := 2) (v := ?_) rfl (by kernel_rfl) (by kernel_rfl) (by kernel_rfl) (fun _ _ _ h => h) (Or.inl ⟨by rfl, ?_⟩) (by assumption) ?_
          rotate_left
          · (intro w hSw; (try dsimp only at hSw); (try simp only [List.getElem_toArray, List.getElem_cons_succ, List.getElem_cons_zero]); first | (go_simp; done) | (go_simp; with_reducible rfl))
          try simp only [Act.put, List.getElem_toArray, List.getElem_cons_succ, List.getElem_cons_zero, List.setIfInBounds_toArray, List.set_cons_zero, List.set_cons_succ]
          refine wpAnyH_take (i := 3) (v := ?_) rfl (by kernel_rfl) (by kernel_rfl) (by kernel_rfl) (fun _ _ _ h => h) (Or.inl ⟨by rfl, ?_⟩) (by assumption) ?_
          rotate_left
          · (intro w hSw; (try dsimp only at hSw); (try simp only [List.getElem_toArray, List.getElem_cons_succ, List.getElem_cons_zero]); first | (go_simp; done) | (go_simp; with_reducible rfl))
          try simp only [Act.put, List.getElem_toArray, List.getElem_cons_succ, List.getElem_cons_zero, List.setIfInBounds_toArray, List.set_cons_zero, List.set_cons_succ]
          refine wpAnyH_take (i := 5) (v := ?_) rfl (by kernel_rfl) (by kernel_rfl) (by kernel_rfl) (fun _ _ _ h => h) (Or.inl ⟨by rfl, ?_⟩) (by assumption) ?_
          rotate_left
          · (intro w hSw; (try dsimp only at hSw); (try simp only [List.getElem_toArray, List.getElem_cons_succ, List.getElem_cons_zero]); first | (go_simp; done) | (go_simp; with_reducible rfl))
          try simp only [Act.put, List.getElem_toArray, List.getElem_cons_succ, List.getElem_cons_zero, List.setIfInBounds_toArray, List.set_cons_zero, List.set_cons_succ]
          refine wpAnyH_ready (rs := [4]) (by kernel_rfl) (by simp) ?_
          refine AllReadyH.cons rfl (fun K hK => ?_) AllReadyH.nil
          try simp only [List.getElem_toArray, List.getElem_cons_succ, List.getElem_cons_zero]
          go_simp
          go_at_call 14; refine (CostWithout_any _ _ _ _ _ _ _ (HR.out.later (by have := HB0.out; go_grown)) (HT.out.later (by have := HB0.out; go_grown))).mono ?_; rintro e2 w2 ⟨rfl, hb2⟩; rw [HV.out]; have gg2 := und hb2; have k2 := keep2 gg2 ⟨b0, b1⟩ hz; have z2 := Nat.lt_of_lt_of_le hz gg2.size; have HB2 := Lib.hid (bstep (B := w.heap.size) (W := w) HB0.out (Nat.le_of_lt hz) gg2); clear hb2
          refine hK.out _ _ ?_ (fun hHeld => ?_)
          · exact k2
          clear hK K
          try simp only [Act.put, List.getElem_toArray, List.getElem_cons_succ, List.getElem_cons_zero, List.setIfInBounds_toArray, List.set_cons_zero, List.set_cons_succ]
          refine wpAnyH_take (i := 6) (v := ?_) rfl (by kernel_rfl) (by kernel_rfl) (by kernel_rfl) (fun _ _ _ h => h) (Or.inl ⟨by rfl, ?_⟩) (by assumption) ?_
          rotate_left
          · (intro w hSw; (try dsimp only at hSw); (try simp only [List.getElem_toArray, List.getElem_cons_succ, List.getElem_cons_zero]); first | (go_simp; done) | (go_simp; with_reducible rfl))
          try simp only [Act.put, List.getElem_toArray, List.getElem_cons_succ, List.getElem_cons_zero, List.setIfInBounds_toArray, List.set_cons_zero, List.set_cons_succ]
          refine wpAnyH_done (by kernel_rfl) ?_ _
          clear hp1 hp2
          go_wp2_with fail
          clear hne
          go_roundw
          case rel => exact ⟨k + 1, by omega, by go_num, by rw [HY.out], k2.1, k2.2, HB2.out, z2⟩
          case measure => (simp [intOf]) <;> omega
        · have HY : Hid (mustTo n ws e (k + 1) = ior X (2 ^ k)) := hst.2 hVR
          have hne : (V != R) = true := by simp [hVR]
          clear hst hmb hpk hV hVR
          have hp1 := HP1.out
          have hp2 := HP2.out
          go_wp2_with fail
          refine wp_region_held_drew (S := (fun w' => w'.cell? ⟨w.heap.size, 0, none⟩ = some (.int .i64 n) ∧ w'.cell? ⟨w.heap.size, 1, none⟩ = some (.slice A ws.length cap))) (by kernel_rfl) ?_ (fun hHeld => ?_)
          · exact ⟨b0, b1⟩
          refine wpAnyH_take (i := 0) (v := ?_) rfl (by kernel_rfl) (by kernel_rfl) (by kernel_rfl) (fun _ _ _ h => h) (Or.inl ⟨by rfl, ?_⟩) (by assumption) ?_
          rotate_left
          · (intro w hSw; (try dsimp only at hSw); (try simp only [List.getElem_toArray, List.getElem_cons_succ, List.getElem_cons_zero]); first | (go_simp; done) | (go_simp; with_reducible rfl))
          try simp only [Act.put, List.getElem_toArray, List.getElem_cons_succ, List.getElem_cons_zero, List.setIfInBounds_toArray, List.set_cons_zero, List.set_cons_succ]
          refine wpAnyH_take (i := 1) (v := ?_) rfl (by kernel_rfl) (by kernel_rfl) (by kernel_rfl) (fun _ _ _ h => h) (Or.inl ⟨by rfl, ?_⟩) (by assumption) ?_
          rotate_left
          · (intro w hSw; (try dsimp only at hSw); (try simp only [List.getElem_toArray, List.getElem_cons_succ, List.getElem_cons_zero]); first | (go_simp; done) | (go_simp; with_reducible rfl))
          try simp only [Act.put, List.getElem_toArray, List.getElem_cons_succ, List.getElem_cons_zero, List.setIfInBounds_toArray, List.set_cons_zero, List.set_cons_succ]
          refine wpAnyH_take (i := 2) (v := ?_) rfl (by kernel_rfl) (by kernel_rfl) (by kernel_rfl) (fun _ _ _ h => h) (Or.inl ⟨by rfl, ?_⟩) (by assumption) ?_
          rotate_left
          · (intro w hSw; (try dsimp only at hSw); (try simp only [List.getElem_toArray, List.getElem_cons_succ, List.getElem_cons_zero]); first | (go_simp; done) | (go_simp; with_reducible rfl))
          try simp only [Act.put, List.getElem_toArray, List.getElem_cons_succ, List.getElem_cons_zero, List.setIfInBounds_toArray, List.set_cons_zero, List.set_cons_succ]
          refine wpAnyH_take (i := 3) (v := ?_) rfl (by kernel_rfl) (by kernel_rfl) (by kernel_rfl) (fun _ _ _ h => h) (Or.inl ⟨by rfl, ?_⟩) (by assumption) ?_
          rotate_left
          · (intro w hSw; (try dsimp only at hSw); (try simp only [List.getElem_toArray, List.getElem_cons_succ, List.getElem_cons_zero]); first | (go_simp; done) | (go_simp; with_reducible rfl))
          try simp only [Act.put, List.getElem_toArray, List.getElem_cons_succ, List.getElem_cons_zero, List.setIfInBounds_toArray, List.set_cons_zero, List.set_cons_succ]
          refine wpAnyH_take (i := 5) (v := ?_) rfl (by kernel_rfl) (by kernel_rfl) (by kernel_rfl) (fun _ _ _ h => h) (Or.inl ⟨by rfl, ?_⟩) (by assumption) ?_
          rotate_left
          · (intro w hSw; (try dsimp only at hSw); (try simp only [List.getElem_toArray, List.getElem_cons_succ, List.getElem_cons_zero]); first | (go_simp; done) | (go_simp; with_reducible rfl))
          try simp only [Act.put, List.getElem_toArray, List.getElem_cons_succ, List.getElem_cons_zero, List.setIfInBounds_toArray, List.set_cons_zero, List.set_cons_succ]
          refine wpAnyH_ready (rs := [4]) (by kernel_rfl) (by simp) ?_
          refine AllReadyH.cons rfl (fun K hK => ?_) AllReadyH.nil
          try simp only [List.getElem_toArray, List.getElem_cons_succ, List.getElem_cons_zero]
          go_simp
          go_at_call 14; refine (CostWithout_any _ _ _ _ _ _ _ (HR.out.later (by have := HB0.out; go_grown)) (HT.out.later (by have := HB0.out; go_grown))).mono ?_; rintro e2 w2 ⟨rfl, hb2⟩; rw [HV.out]; have gg2 := und hb2; have k2 := keep2 gg2 ⟨b0, b1⟩ hz; have z2 := Nat.lt_of_lt_of_le hz gg2.size; have HB2 := Lib.hid (bstep (B := w.heap.size) (W := w) HB0.out (Nat.le_of_lt hz) gg2); clear hb2
          refine hK.out _ _ ?_ (fun hHeld => ?_)
          · exact k2
          clear hK K
          try simp only [Act.put, List.getElem_toArray, List.getElem_cons_succ, List.getElem_cons_zero, List.setIfInBounds_toArray, List.set_cons_zero, List.set_cons_succ]
          refine wpAnyH_take (i := 6) (v := ?_) rfl (by kernel_rfl) (by kernel_rfl) (by kernel_rfl) (fun _ _ _ h => h) (Or.inl ⟨by rfl, ?_⟩) (by assumption) ?_
          rotate_left
          · (intro w hSw; (try dsimp only at hSw); (try simp only [List.getElem_toArray, List.getElem_cons_succ, List.getElem_cons_zero]); first | (go_simp; done) | (go_simp; with_reducible rfl))
          try simp only [Act.put, List.getElem_toArray, List.getElem_cons_succ, List.getElem_cons_zero, List.setIfInBounds_toArray, List.set_cons_zero, List.set_cons_succ]
          refine wpAnyH_done (by kernel_rfl) ?_ _
          go_wp2_with fail
          clear hne hp1 hp2
          go_roundw
          case rel => exact ⟨k + 1, by omega, by go_num, by rw [HY.out, HOR.out], k2.1, k2.2, HB2.out, z2⟩
          case measure => (simp [intOf]) <;> omega
      · obtain rfl : k = ws.length := by omega
        clear hst hmb hpk
        go_wp2_with fail
        go_ret
        exact ⟨ret_int HXE.out.symm, HB0.out⟩
theorem rootsOf_neg {n : Int} {ws : List Wy} {e : Int} (h : rootCost n ws e < 0) : rootsOf n ws e = [] := by unfold rootsOf; rw [if_pos h]
theorem rootsOf_pos {n : Int} {ws : List Wy} {e : Int} (h : ¬ rootCost n ws e < 0) : 0 < (rootsOf n ws e).length := by
  obtain ⟨h1, h2, _⟩ := rootCost_told h
  have h9 := best_mem h1 h2 (by rw [← rootCost_rc h1 h2]; omega)
  exact List.length_pos_of_mem h9
set_option maxHeartbeats 4000000 in
theorem MayWays_any (n e : Int) (A : Option Addr) (cap : Nat) (ws : List Wy) (w : World) (hr : RW w w.heap.size A ws) (hT : Tab w) :
    Calls Tryd.prog 29 #[.agg #[.int .i64 n, .slice A ws.length cap], .int .i64 e] w fun en w' => en = .returned (.int .i64 (mayWays n ws e)) ∧ Below w.heap.size w w' := by
  have HR := Lib.hid hr
  have HT := Lib.hid hT
  clear hr hT
  unfold mayWays
  by_cases h0 : rootCost n ws e < 0
  · rw [if_pos h0]
    have HL := Lib.hid (rootsOf_neg h0)
    clear h0
    go_enter Tryd.func29, Tryd.ntmps29
    go_wp2_with fail
    refine (AllRoots_any _ _ _ _ _ _ (HR.out.later (by go_grown)) (HT.out.later (by go_grown))).mono ?_
    rw [HL.out]
    rintro en2 w2 ⟨A1, c1, rfl, hrow, hb2⟩
    have HB2 := Lib.hid (bstep (B := w.heap.size) (W := w) (by go_grown) (by first | exact HB3.out.size | exact HB2.out.size | exact HB1.out.size | go_size) hb2)
    clear hb2 hrow
    go_wp2_with fail
    go_ret
    exact ⟨rfl, HB2.out⟩
  · rw [if_neg h0]
    have hpos := rootsOf_pos h0
    have hl5 := rootsOf_len (n := n) (ws := ws) (e := e)
    have HAB := Lib.hid (fun k => orAll_bd (n := n) (ws := ws) (e := e) k)
    have HRB := Lib.hid (fun x (hx : x ∈ rootsOf n ws e) => roots_bd hx)
    obtain ⟨L, hL⟩ : ∃ L, rootsOf n ws e = L := ⟨_, rfl⟩
    have HL := Lib.hid hL
    rw [hL] at hl5 HAB HRB hpos ⊢
    obtain ⟨ln, hln⟩ : ∃ ln, L.length = ln := ⟨_, rfl⟩
    have HLN := Lib.hid hln
    rw [hln] at hl5 hpos
    have hne : ((ln : Int) == 0) = false := by simp; omega
    have hne2 : ¬ ((ln : Int) = 0) := by omega
    have hne3 : ¬ (ln = 0) := by omega
    clear hL hln h0
    go_enter Tryd.func29, Tryd.ntmps29
    go_wp2_with fail
    refine (AllRoots_any _ _ _ _ _ _ (HR.out.later (by go_grown)) (HT.out.later (by go_grown))).mono ?_
    rw [HL.out]
    rintro en2 w2 ⟨A1, c1, rfl, hrow, hb2⟩
    rw [HLN.out] at hrow ⊢
    have HROW := Lib.hid hrow
    have HB2 := Lib.hid (bstep (B := w.heap.size) (W := w) (by go_grown) (by first | exact HB3.out.size | exact HB2.out.size | exact HB1.out.size | go_size) hb2)
    clear hb2 hrow
    go_wp2_with fail
    go_loopw [6, 17] (fun c i wr => ∃ k : Nat, k ≤ ln ∧ i = .int .i64 k ∧ c = .int .i64 (orAll (L.take k)) ∧ wr = w2) (fun _ i _ => ln - (intOf i).toNat)
    case atStart => exact ⟨0, Nat.zero_le _, rfl, rfl, rfl⟩
    case round =>
      obtain ⟨k, hk, rfl, rfl, rfl⟩ := hrel
      have hk0 : (0 : Int) ≤ (k : Int) := by omega
      have hab := HAB.out k
      by_cases hlt : k < ln
      · have hk1 : (k : Int) < (ln : Int) := by omega
        obtain ⟨x, hx⟩ : ∃ x, L[k]? = some x := ⟨_, List.getElem?_eq_getElem (by rw [HLN.out]; exact hlt)⟩
        have hxb := HRB.out x (List.mem_of_getElem? hx)
        have HT := Lib.hid (orAll_take hx)
        obtain ⟨b, o, rfl, -, -, hc, -⟩ := HROW.out.at_ k hlt
        (try simp only at hc)
        have hgx : L.getD k 0 = x := by rw [List.getD_eq_getElem?_getD, hx]; rfl
        rw [hgx] at hc
        have HOR : Hid (bits .or .i64 (orAll (L.take k)) x = ior (orAll (L.take k)) x) := bits_or _ _ hab.1 (by omega) hxb.1 (by omega)
        obtain ⟨X, hX⟩ : ∃ X, orAll (L.take k) = X := ⟨_, rfl⟩
        rw [hX] at HT HOR ⊢
        clear hx hxb hgx hX hab
        go_wp2_with fail
        go_roundw
        case rel => exact ⟨k + 1, by omega, by go_num, by rw [HT.out, HOR.out], by first | rfl | trivial⟩
        case measure => (simp [intOf]) <;> omega
      · obtain rfl : k = ln := by omega
        have HTT : Hid (orAll (L.take k) = orAll L) := by show _ = _; rw [← HLN.out, List.take_length]
        rw [HTT.out]
        clear hab
        go_wp2_with fail
        go_ret
        exact ⟨rfl, HB2.out⟩
end Go.Proofs.YtcfendmhhhggeaaDoor
