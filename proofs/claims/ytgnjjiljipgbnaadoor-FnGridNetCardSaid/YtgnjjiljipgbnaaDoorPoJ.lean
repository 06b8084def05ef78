/- The program's grids: gridOk, GridNet. -/
import Derived.Test.YtgnjjiljipgbnaaDoorPoN
set_option linter.unusedSimpArgs false
set_option linter.unusedVariables false
attribute [local go_sem ↓] Go.wp_at_zero Go.wp_at_succ
namespace Go.Proofs.YtgnjjiljipgbnaaDoor
open Go.ChangeShapes Go.WideShapes Go.ChangeAt Go.RowKit

theorem inB_no {n a b : Int} (h : n < a ∨ b < n) : inB n a b = false := by unfold inB; simp; omega
set_option maxHeartbeats 2000000 in
theorem gridOk_any (r c : Int) (w : World) :
    Calls Tryd.prog 16 #[.int .i64 r, .int .i64 c] w fun e w' => e = .returned (.bool (gridOk r c)) ∧ w = w' := by
  by_cases r1 : r < 1
  · have HG : Hid (gridOk r c = false) := by show _ = _; unfold gridOk; rw [inB_no (.inl r1)]; rfl
    rw [HG.out]
    go_enter Tryd.func16, Tryd.ntmps16
    go_wp2_with fail
    go_ret
    exact ⟨rfl, rfl⟩
  · by_cases r2 : 6 < r
    · have HG : Hid (gridOk r c = false) := by show _ = _; unfold gridOk; rw [inB_no (.inr r2)]; rfl
      rw [HG.out]
      go_enter Tryd.func16, Tryd.ntmps16
      go_wp2_with fail
      go_ret
      exact ⟨rfl, rfl⟩
    · by_cases c1 : c < 1
      · have HG : Hid (gridOk r c = false) := by show _ = _; unfold gridOk; rw [inB_no (n := c) (.inl c1)]; simp
        rw [HG.out]
        go_enter Tryd.func16, Tryd.ntmps16
        go_wp2_with fail
        go_ret
        exact ⟨rfl, rfl⟩
      · by_cases c2 : 6 < c
        · have HG : Hid (gridOk r c = false) := by show _ = _; unfold gridOk; rw [inB_no (n := c) (.inr c2)]; simp
          rw [HG.out]
          go_enter Tryd.func16, Tryd.ntmps16
          go_wp2_with fail
          go_ret
          exact ⟨rfl, rfl⟩
        · obtain ⟨R, rfl⟩ := Int.eq_ofNat_of_zero_le (show 0 ≤ r by omega)
          obtain ⟨C, rfl⟩ := Int.eq_ofNat_of_zero_le (show 0 ≤ c by omega)
          obtain ⟨n, hn⟩ : ∃ n, R * C = n := ⟨_, rfl⟩
          have hn36 : n ≤ 36 := by
            rw [← hn]
            exact Nat.mul_le_mul (show R ≤ 6 by omega) (show C ≤ 6 by omega)
          have hmul : (R : Int) * (C : Int) = (n : Int) := by rw [← hn]; simp
          have HW1 : Hid (IntKind.i64.wrap ((R : Int) * (C : Int)) = (n : Int)) := by show _ = _; rw [hmul]; exact IntWalk.i64_in _ ⟨by omega, by omega⟩
          have HW2 : Hid (wrap64 ((R : Int) * (C : Int)) = (n : Int)) := by show _ = _; rw [hmul]; exact IntWalk.wrap64_in _ ⟨by omega, by omega⟩
          have HG : Hid (gridOk (R : Int) (C : Int) = inB (n : Int) 2 6) := by
            show _ = _
            unfold gridOk
            rw [hmul, show inB (R : Int) 1 6 = true from by unfold inB; simp; omega, show inB (C : Int) 1 6 = true from by unfold inB; simp; omega]
            rfl
          rw [HG.out]
          clear hn hmul hn36
          by_cases n1 : 2 ≤ n
          · by_cases n2 : n ≤ 6
            · have HI : Hid (inB (n : Int) 2 6 = true) := by show _ = _; unfold inB; simp; omega
              have e1 : (2 : Int) ≤ (n : Int) := by omega
              have e2 : (n : Int) ≤ 6 := by omega
              rw [HI.out]
              have hw1 := HW1.out
              have hw2 := HW2.out
              clear n1 n2
              go_enter Tryd.func16, Tryd.ntmps16
              go_wp2_with fail
              go_ret
              exact ⟨rfl, rfl⟩
            · have HI : Hid (inB (n : Int) 2 6 = false) := inB_no (.inr (by omega))
              have e1 : (2 : Int) ≤ (n : Int) := by omega
              have e2 : ¬ (n : Int) ≤ 6 := by omega
              rw [HI.out]
              have hw1 := HW1.out
              have hw2 := HW2.out
              clear n1 n2
              go_enter Tryd.func16, Tryd.ntmps16
              go_wp2_with fail
              go_ret
              exact ⟨rfl, rfl⟩
          · have HI : Hid (inB (n : Int) 2 6 = false) := inB_no (.inl (by omega))
            have e1 : ¬ (2 : Int) ≤ (n : Int) := by omega
            rw [HI.out]
            have hw1 := HW1.out
            have hw2 := HW2.out
            clear n1
            go_enter Tryd.func16, Tryd.ntmps16
            go_wp2_with fail
            go_ret
            exact ⟨rfl, rfl⟩
set_option maxRecDepth 100000 in
set_option maxHeartbeats 8000000 in
theorem GridNet_any (r c : Int) (w : World) :
    Calls Tryd.prog 5 #[.int .i64 r, .int .i64 c] w (NewNetO (gridNet r c) w) := by
  cases hg : gridOk r c
  · have HG := Lib.hid hg
    rw [grid_none hg]
    unfold NewNetO
    clear hg
    go_enter Tryd.func5, Tryd.ntmps5
    go_wp2_with fail
    refine (gridOk_any r c _).mono ?_; rintro e1 w1 ⟨rfl, rfl⟩; rw [HG.out]
    go_wp2_with fail
    refine bodyPost_ret (v := .tuple #[.agg #[.int .i64 0, .slice none 0 0], .bool false]) (by simp [results, Tryd.results5, go_sem]) (by first | rfl | simp) ?_
    exact ⟨none, 0, rfl, by go_grown⟩
  · have hg' := hg
    unfold gridOk at hg'
    simp only [Bool.and_eq_true] at hg'
    obtain ⟨hr, hc, hm⟩ := hg'
    obtain ⟨r1, r2⟩ := inB_t hr
    obtain ⟨c1, c2⟩ := inB_t hc
    obtain ⟨R, rfl⟩ := Int.eq_ofNat_of_zero_le (show 0 ≤ r by omega)
    obtain ⟨C, rfl⟩ := Int.eq_ofNat_of_zero_le (show 0 ≤ c by omega)
    obtain ⟨n, hn⟩ : ∃ n, R * C = n := ⟨_, rfl⟩
    have hmul : (R : Int) * (C : Int) = (n : Int) := by rw [← hn]; simp
    rw [hmul] at hm
    obtain ⟨n1, n2⟩ := inB_t hm
    have HW1 : Hid (IntKind.i64.wrap ((R : Int) * (C : Int)) = (n : Int)) := by show _ = _; rw [hmul]; exact IntWalk.i64_in _ ⟨by omega, by omega⟩
    have HW2 : Hid (wrap64 ((R : Int) * (C : Int)) = (n : Int)) := by show _ = _; rw [hmul]; exact IntWalk.wrap64_in _ ⟨by omega, by omega⟩
    have hn36 : n ≤ 36 := by omega
    have HG := Lib.hid hg
    rw [grid_some (R := R) (C := C) (n := n) hg hn]
    unfold NewNetO
    clear hr hc hm hmul hn hg
    obtain ⟨i0, hi0, hz0, hz1', hz2⟩ := info_parts infoWy
    go_enter Tryd.func5, Tryd.ntmps5
    go_wp2_with fail
    refine (gridOk_any _ _ _).mono ?_; rintro e1 w1 ⟨rfl, rfl⟩; rw [HG.out]
    have hw1 := HW1.out
    have hw2 := HW2.out
    obtain ⟨w0, hw0⟩ : ∃ w0, w.alloc (.cells #[.int .i64 0, .slice none 0 0] 27) = w0 := ⟨_, rfl⟩
    obtain ⟨B, hB⟩ : ∃ B, w0.heap.size = B := ⟨_, rfl⟩
    have hBw : B = w.heap.size + 1 := by rw [← hB, ← hw0]; simp
    have HB0 : Hid (Below w.heap.size w w0) := by show Below _ _ _; rw [← hw0]; exact (Below.refl _ _).alloc (Nat.le_refl _) _
    have ST0 : Hid (BoxSt w0 (w0.alloc (.cells #[.int .i64 n, .slice none 0 0] 27)) B 27 31 (n : Int) (.slice none 0 0) (gwTo n C 0)) := by
      show BoxSt _ _ _ _ _ _ _ _
      rw [← hB]
      exact ⟨(Below.refl _ _).alloc (Nat.le_refl _) _, heap_alloc_new _ _, World.ownsRow_nil _ _ _ _⟩
    subst hBw
    have c0 : (C : Int) ≠ 0 := by omega
    have HRW0 := Lib.hid hw0
    rw [hw0]
    go_wp2_with fail
    clear hw1 hw2
    go_loopw [19] (fun i wr => ∃ (k : Nat) (v : Value), k ≤ n ∧ i = .int .i64 k ∧ BoxSt w0 wr (w.heap.size + 1) 27 31 (n : Int) v (gwTo n C k)) (fun i _ => n - (intOf i).toNat)
    case atStart => exact ⟨0, _, Nat.zero_le _, rfl, ST0.out⟩
    case round =>
      clear ST0
      obtain ⟨k, v, hk, rfl, hst⟩ := hrel
      have ST := Lib.hid hst
      obtain ⟨b0, b1, bf⟩ := hst.cells
      have hlt0 := hst.lt
      have hgl := gwTo_len n C k
      have hk0 : (0 : Int) ≤ (k : Int) := by omega
      clear hst
      by_cases hlt : k < n
      · have hk1 : (k : Int) < (n : Int) := by omega
        obtain ⟨L, hL⟩ : ∃ L, gwTo n C k = L := ⟨_, rfl⟩
        rw [hL] at ST hgl
        have hrem : (k : Int).tmod (C : Int) = ((k % C : Nat) : Int) := by rw [Int.tmod_eq_emod_of_nonneg hk0]; simp
        by_cases h1 : k % C < C - 1
        · by_cases h2 : k + C < n
          · have HST : Hid (gwTo n C (k + 1) = L ++ [⟨(k : Int), (k + 1 : Int), 1⟩] ++ [⟨(k : Int), (k + C : Int), 1⟩]) := by show _ = _; rw [gwTo_step, hL, if_pos h1, if_pos h2]; simp
            have e1 : ((k % C : Nat) : Int) < (C : Int) - 1 := by omega
            have e2 : (k : Int) + (C : Int) < (n : Int) := by omega
            clear hL
            go_wp2_with (first | (at_builtin; refine wpList_append_lies _ rfl _ _ _ rfl (w.heap.size + 1 + 1) 31 i0 _ 3 24 Tryd.underlying25 hi0 hz0 hz1' hz2 rfl (by decide) v _ (wyCells (L)) rfl (World.ownsRow.alloc ST.out.own _) ⟨wr.heap.size, 0, none⟩ 1 1 [.int .i64 (k : Int), .int .i64 (k + 1 : Int), .int .i64 1] rfl rfl (World.news_of_block (cs := #[.int .i64 (k : Int), .int .i64 (k + 1 : Int), .int .i64 1]) (t := 31) (fr := (0, 0)) (heap_alloc_new _ _)) (by simp [Value.oneCell']) (by omega) (by unfold maxLen; omega) (by omega) (by (simp; omega)) (wr.heap.size + 1) (by simp) ?_; intro gg cc w5 hown5 hgrow5 hat5 hlt5; have hlow5 := ST.out.app_low hgrow5; obtain ⟨cc5, cf5⟩ := ST.out.app_cells hgrow5; have S5 := Lib.hid (BoxSt.append ST.out ⟨(k : Int), (k + 1 : Int), 1⟩ hown5 hgrow5); obtain ⟨p50, p51, p52⟩ := S5.out.cells; have hz5 := S5.out.lt; have hsz5 : (w5.setCell ⟨w.heap.size + 1, 1, none⟩ (.slice (some ⟨gg, 0, none⟩) (L.length + 1) cc)).heap.size = w5.heap.size := (by simp [World.setCell]); clear hown5 hgrow5 hat5 hlt5 hlow5) | (at_builtin; refine wpList_append_lies _ rfl _ _ _ rfl (w.heap.size + 1 + 1) 31 i0 _ 3 24 Tryd.underlying25 hi0 hz0 hz1' hz2 rfl (by decide) (.slice (some ⟨gg, 0, none⟩) (L.length + 1) cc) _ (wyCells (L ++ [⟨(k : Int), (k + 1 : Int), 1⟩])) rfl (World.ownsRow.alloc S5.out.own _) ⟨w5.heap.size, 0, none⟩ 1 1 [.int .i64 (k : Int), .int .i64 (k + C : Int), .int .i64 1] rfl rfl (by have hn := World.news_of_block (cs := #[.int .i64 (k : Int), .int .i64 (k + C : Int), .int .i64 1]) (t := 31) (fr := (0, 0)) (heap_alloc_new (w5.setCell ⟨w.heap.size + 1, 1, none⟩ (.slice (some ⟨gg, 0, none⟩) (L.length + 1) cc)) (.cells #[.int .i64 (k : Int), .int .i64 (k + C : Int), .int .i64 1] 31)); rw [hsz5] at hn; exact hn) (by simp [Value.oneCell']) (by first | omega | (simp; omega)) (by unfold maxLen; first | omega | (simp; omega)) (by first | omega | (simp; omega)) (by (simp [World.setCell]; omega)) (w5.heap.size + 1) (by simp [World.setCell]) ?_; intro gh ch w6 hown6 hgrow6 hat6 hlt6; have hlow6 := S5.out.app_low hgrow6; obtain ⟨cc6, cf6⟩ := S5.out.app_cells hgrow6; have S6 := Lib.hid (BoxSt.append S5.out ⟨(k : Int), (k + C : Int), 1⟩ hown6 hgrow6); obtain ⟨p60, p61, p62⟩ := S6.out.cells; have hz6 := S6.out.lt; clear hown6 hgrow6 hat6 hlt6 hlow6))
            (try clear e1 e2)
            go_roundw
            case rel => exact ⟨k + 1, _, by omega, by go_num, by rw [HST.out]; have h9 := S6.out; first | exact h9 | simpa only [List.length_append, List.length_cons, List.length_nil, Nat.zero_add] using h9⟩
            case measure => (simp [intOf]) <;> omega
          · have HST : Hid (gwTo n C (k + 1) = L ++ [⟨(k : Int), (k + 1 : Int), 1⟩]) := by show _ = _; rw [gwTo_step, hL, if_pos h1, if_neg h2]; simp
            have e1 : ((k % C : Nat) : Int) < (C : Int) - 1 := by omega
            have e2 : ¬ (k : Int) + (C : Int) < (n : Int) := by omega
            clear hL
            go_wp2_with (at_builtin; refine wpList_append_lies _ rfl _ _ _ rfl (w.heap.size + 1 + 1) 31 i0 _ 3 24 Tryd.underlying25 hi0 hz0 hz1' hz2 rfl (by decide) v _ (wyCells (L)) rfl (World.ownsRow.alloc ST.out.own _) ⟨wr.heap.size, 0, none⟩ 1 1 [.int .i64 (k : Int), .int .i64 (k + 1 : Int), .int .i64 1] rfl rfl (World.news_of_block (cs := #[.int .i64 (k : Int), .int .i64 (k + 1 : Int), .int .i64 1]) (t := 31) (fr := (0, 0)) (heap_alloc_new _ _)) (by simp [Value.oneCell']) (by omega) (by unfold maxLen; omega) (by omega) (by (simp; omega)) (wr.heap.size + 1) (by simp) ?_; intro gg cc w5 hown5 hgrow5 hat5 hlt5; have hlow5 := ST.out.app_low hgrow5; obtain ⟨cc5, cf5⟩ := ST.out.app_cells hgrow5; have S5 := Lib.hid (BoxSt.append ST.out ⟨(k : Int), (k + 1 : Int), 1⟩ hown5 hgrow5); obtain ⟨p50, p51, p52⟩ := S5.out.cells; have hz5 := S5.out.lt; have hsz5 : (w5.setCell ⟨w.heap.size + 1, 1, none⟩ (.slice (some ⟨gg, 0, none⟩) (L.length + 1) cc)).heap.size = w5.heap.size := (by simp [World.setCell]); clear hown5 hgrow5 hat5 hlt5 hlow5)
            (try clear e1 e2)
            go_roundw
            case rel => exact ⟨k + 1, _, by omega, by go_num, by rw [HST.out]; have h9 := S5.out; first | exact h9 | simpa only [List.length_append, List.length_cons, List.length_nil, Nat.zero_add] using h9⟩
            case measure => (simp [intOf]) <;> omega
        · by_cases h2 : k + C < n
          · have HST : Hid (gwTo n C (k + 1) = L ++ [⟨(k : Int), (k + C : Int), 1⟩]) := by show _ = _; rw [gwTo_step, hL, if_neg h1, if_pos h2]; simp
            have e1 : ¬ ((k % C : Nat) : Int) < (C : Int) - 1 := by omega
            have e2 : (k : Int) + (C : Int) < (n : Int) := by omega
            clear hL
            go_wp2_with (at_builtin; refine wpList_append_lies _ rfl _ _ _ rfl (w.heap.size + 1 + 1) 31 i0 _ 3 24 Tryd.underlying25 hi0 hz0 hz1' hz2 rfl (by decide) v _ (wyCells (L)) rfl (World.ownsRow.alloc ST.out.own _) ⟨wr.heap.size, 0, none⟩ 1 1 [.int .i64 (k : Int), .int .i64 (k + C : Int), .int .i64 1] rfl rfl (World.news_of_block (cs := #[.int .i64 (k : Int), .int .i64 (k + C : Int), .int .i64 1]) (t := 31) (fr := (0, 0)) (heap_alloc_new _ _)) (by simp [Value.oneCell']) (by omega) (by unfold maxLen; omega) (by omega) (by (simp; omega)) (wr.heap.size + 1) (by simp) ?_; intro gh ch w6 hown6 hgrow6 hat6 hlt6; have hlow6 := ST.out.app_low hgrow6; obtain ⟨cc6, cf6⟩ := ST.out.app_cells hgrow6; have S6 := Lib.hid (BoxSt.append ST.out ⟨(k : Int), (k + C : Int), 1⟩ hown6 hgrow6); obtain ⟨p60, p61, p62⟩ := S6.out.cells; have hz6 := S6.out.lt; clear hown6 hgrow6 hat6 hlt6 hlow6)
            (try clear e1 e2)
            go_roundw
            case rel => exact ⟨k + 1, _, by omega, by go_num, by rw [HST.out]; have h9 := S6.out; first | exact h9 | simpa only [List.length_append, List.length_cons, List.length_nil, Nat.zero_add] using h9⟩
            case measure => (simp [intOf]) <;> omega
          · have HST : Hid (gwTo n C (k + 1) = L) := by show _ = _; rw [gwTo_step, hL, if_neg h1, if_neg h2]; simp
            have e1 : ¬ ((k % C : Nat) : Int) < (C : Int) - 1 := by omega
            have e2 : ¬ (k : Int) + (C : Int) < (n : Int) := by omega
            clear hL
            go_wp2_with fail
            (try clear e1 e2)
            go_roundw
            case rel => exact ⟨k + 1, _, by omega, by go_num, by rw [HST.out]; have h9 := ST.out; first | exact h9 | simpa only [List.length_append, List.length_cons, List.length_nil, Nat.zero_add] using h9⟩
            case measure => (simp [intOf]) <;> omega
      · obtain rfl : k = n := by omega
        obtain ⟨A1, c9, rfl⟩ := ST.out.form
        have HOW := Lib.hid ST.out.own
        have HLO : Hid (Below w.heap.size w wr) := by
          have h9 := ST.out.low
          have h8 := HB0.out
          exact bstep h8 h8.size (by rw [hB]; exact h9)
        have hres : wr.heap[w.heap.size]? = some (.cells #[.int .i64 0, .slice none 0 0] 27 (0, 0)) := by
          rw [ST.out.low.block w.heap.size (by omega), ← HRW0.out]
          exact heap_alloc_new w _
        have q0 : wr.cell? ⟨w.heap.size, 0, none⟩ = some (.int .i64 0) := cell_of_row _ _ 0 _ _ (0, 0) hres
        have q1 : wr.cell? ⟨w.heap.size, 1, none⟩ = some (.slice none 0 0) := cell_of_row _ _ 1 _ _ (0, 0) hres
        have f0 : wr.frozen? ⟨w.heap.size, 0, none⟩ = false := by simp [World.frozen?, hres]
        have f1 : wr.frozen? ⟨w.heap.size, 1, none⟩ = false := by simp [World.frozen?, hres]
        have T := Lib.hid (two_cells (v0 := .int .i64 k) (v1 := .slice A1 (gwTo k C k).length c9) hres)
        have HO2 := Lib.hid (ownsRow_setCell_below (ownsRow_setCell_below HOW.out (a := ⟨w.heap.size, 0, none⟩) (by simp; omega) (.int .i64 k)) (a := ⟨w.heap.size, 1, none⟩) (by simp; omega) (.slice A1 (gwTo k C k).length c9))
        have HL2 := Lib.hid ((HLO.out.setCell (p := ⟨w.heap.size, 0, none⟩) (Nat.le_refl _) (.int .i64 k)).setCell (p := ⟨w.heap.size, 1, none⟩) (Nat.le_refl _) (.slice A1 (gwTo k C k).length c9))
        clear hres
        go_wp2_with fail
        obtain ⟨t0, t1⟩ := T.out
        refine bodyPost_ret (v := .tuple #[.agg #[.int .i64 k, .slice A1 (gwTo k C k).length c9], .bool true]) (by simp [results, Tryd.results5, go_sem, t0, t1]) rfl ?_
        exact ⟨A1, c9, w.heap.size + 1 + 1, _, rfl, rowF_of_ways HO2.out, by omega, HL2.out⟩
end Go.Proofs.YtgnjjiljipgbnaaDoor
