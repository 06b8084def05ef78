/- The law of SpanMany: trees there are just for nets that hang together, and as many more with the last way doubled as without it fewer. -/
import Derived.Test.YtkjheobeogkhlaaDoorLKh
import Derived.Test.YtkjheobeogkhlaaDoorWN
set_option linter.unusedSimpArgs false
set_option linter.unusedVariables false
attribute [local go_sem ↓] Go.wp_at_zero Go.wp_at_succ
namespace Go.Proofs.YtkjheobeogkhlaaDoor
open Go.ChangeShapes Go.WideShapes Go.ChangeAt Go.RowKit

theorem below_app2 {w0 W w3 : World} {base size n : Nat} {e : TypeId} {v : Value} {xs : List Value} (h : Below w0.heap.size w0 W) (hg : W.grownBy w3 v.ownBlock) (ho : W.ownsRow base e size v n xs) (hB : w0.heap.size ≤ base) : Below w0.heap.size w0 w3 :=
  ⟨hg.os.trans h.os, hg.tape.trans h.tape, hg.output.trans h.output, Nat.le_trans h.size hg.size, fun k hk => (hg.block k (Nat.lt_of_lt_of_le hk h.size) (fun e => by have := (ho.lt k e.symm).1; omega)).trans (h.block k hk)⟩

set_option maxHeartbeats 8000000 in
theorem FnSpanMany_walk (A : Option Addr) (len cap : Nat) (w : World) (hr : RB w w.heap.size A len) (hc : len ≤ cap) (hlen : len ≤ 9223372036854775807) (hT : Tab w) :
    Calls Tryd.prog 10 #[.slice A len cap] w fun e w' => e = .returned (.bool true) ∧ Below w.heap.size w w' := by
  have HR := Lib.hid hr
  have HT := Lib.hid hT
  clear hr hT
  by_cases hm : 1048576 < len
  · go_enter Tryd.func10, Tryd.ntmps10
    go_wp2_with fail
    go_ret
    exact ⟨rfl, Below.refl _ _⟩
  · obtain ⟨i0, hi0, hz0, hz1', hz2⟩ := info_parts infoWy
    go_enter Tryd.func10, Tryd.ntmps10
    go_wp2_with fail
    refine (DrawSpanMany_any A len cap _ HR.out hc (by omega)).mono ?_
    rintro e wd ⟨nn, A', c', ws, rfl, hrw, hl10, hcc, hn0, hn7, hbd⟩
    have HRW := Lib.hid hrw
    have HBD := Lib.hid hbd
    have HTD := Lib.hid (HT.out.later hbd)
    have hzd : w.heap.size ≤ wd.heap.size := hbd.size
    clear hrw hbd
    go_wp2_with fail
    refine (SpanMany_any _ _ _ _ _ (HRW.out.later (by go_grown)) (HTD.out.later (by go_grown))).mono ?_; rintro e w1 ⟨rfl, hb1⟩
    obtain ⟨hc1, hf1⟩ := bcell hb1
    have hz1_0 : wd.heap.size < w1.heap.size := by have hq := hb1.size; (try simp at hq); omega
    have HK1 := Lib.hid hb1
    have HB1 := Lib.hid (bstep (B := wd.heap.size) (W := wd) (by (try have hp := HB0.out); go_grown) (by go_size) hb1); clear hb1
    go_wp2_with fail
    refine (sSpanMany_any _ _ _ _ _ (HRW.out.later (by have := HB1.out; go_grown)) (by omega)).mono ?_; rintro e w2 ⟨rfl, hb2⟩
    obtain ⟨hc2, hf2⟩ := bcell hb2
    have hz2_0 : wd.heap.size < w2.heap.size := by have hq := hb2.size; (try simp at hq); omega
    have HK2 := Lib.hid hb2
    have HB2 := Lib.hid (bstep (B := wd.heap.size) (W := wd) (by have hp := HB1.out; go_grown) (by go_size) hb2); clear hb2
    cases hno : netOk nn ws
    · have HNO := Lib.hid hno
      have h1 : manyOf nn ws = -1 := by unfold manyOf; rw [hno]; simp
      rw [h1]
      clear hno h1
      go_wp2_with fail
      refine (NetOk_any _ _ _ _ _ (HRW.out.later (by have := HB2.out; go_grown))).mono ?_; rintro e w3 ⟨rfl, hb3⟩
      rw [HNO.out]
      obtain ⟨hc3, hf3⟩ := bcell hb3
      have hz3_0 : wd.heap.size < w3.heap.size := by have hq := hb3.size; (try simp at hq); omega
      have HK3 := Lib.hid hb3
      have HB3 := Lib.hid (bstep (B := wd.heap.size) (W := wd) (by have hp := HB2.out; go_grown) (by go_size) hb3); clear hb3
      go_wp2_with fail
      refine (alive_any _).mono ?_; rintro e w4 ⟨rfl, hb4⟩
      obtain ⟨hc4, hf4⟩ := bcell hb4
      have hz4_0 : wd.heap.size < w4.heap.size := by have hq := hb4.size; (try simp at hq); omega
      have HK4 := Lib.hid hb4
      have HB4 := Lib.hid (bstep (B := wd.heap.size) (W := wd) (by have hp := HB3.out; go_grown) (by go_size) hb4); clear hb4
      go_wp2_with fail
      go_ret
      exact ⟨rfl, bstep HBD.out hzd HB4.out⟩
    · have hni := netOk_t hno
      have hl9 := hni.len
      have hmt := many_told hno
      have hM0 : 0 ≤ manyOf nn ws := by unfold manyOf; rw [if_pos hno]; exact (manyTo_bd nn ws _).1
      have hM2 : manyOf nn ws ≤ 512 := by
        have h1 := (manyTo_bd nn ws (2 ^ ws.length)).2
        have h2 : 2 ^ ws.length ≤ 2 ^ 9 := Nat.pow_le_pow_right (by omega) hl9
        unfold manyOf; rw [if_pos hno]; omega
      by_cases hedge : ws.length = 0 ∨ ws.length = 9
      · have hpick : (((ws.length : Int) == 0) = true) ∨ (((ws.length : Int) == 0) = false ∧ ((ws.length : Int) == 9) = true) := by
          rcases hedge with h | h
          · left; rw [beq_iff_eq]; omega
          · right; exact ⟨by rw [beq_eq_false_iff_ne]; omega, by rw [beq_iff_eq]; omega⟩
        obtain ⟨M, hM⟩ : ∃ M, manyOf nn ws = M := ⟨_, rfl⟩
        obtain ⟨ST, hST⟩ : ∃ ST, spanTreeOf nn ws = ST := ⟨_, rfl⟩
        rw [hM] at hM0 hM2 hmt
        rw [hST] at hmt
        have HST := Lib.hid hST
        rw [hM]
        have hng : ¬ M < 0 := by omega
        clear hM hST hni hno hedge
        cases ht : decide (M > 0)
        · rw [ht] at hmt
          have t1 : ¬ (0 : Int) < M := by simpa using ht
          have t2 : ¬ (0 : Int) ≤ ST := by have := hmt.symm; simpa using this
          clear hmt ht
          rcases hpick with h1 | ⟨h1, h2⟩
          all_goals
            go_wp2_with fail
            refine (SpanTree_any _ _ _ _ _ (HRW.out.later HB2.out) (HTD.out.later HB2.out)).mono ?_; rintro e w3 ⟨rfl, hb3⟩
            rw [HST.out]
            have HB3 := Lib.hid (bstep (B := wd.heap.size) (W := wd) HB2.out (Nat.le_of_lt hz2_0) hb3)
            have hz3 := Nat.lt_of_lt_of_le hz2_0 hb3.size
            clear hb3
            go_wp2_with fail
            refine (alive_any _).mono ?_; rintro e w4 ⟨rfl, hb4⟩
            have HB4 := Lib.hid (bstep (B := wd.heap.size) (W := wd) HB3.out (Nat.le_of_lt hz3) hb4)
            clear hb4
            go_wp2_with fail
            go_ret
            exact ⟨rfl, bstep HBD.out hzd HB4.out⟩
        · rw [ht] at hmt
          have t1 : (0 : Int) < M := by simpa using ht
          have t2 : (0 : Int) ≤ ST := by have := hmt.symm; simpa using this
          clear hmt ht
          rcases hpick with h1 | ⟨h1, h2⟩
          all_goals
            go_wp2_with fail
            refine (SpanTree_any _ _ _ _ _ (HRW.out.later HB2.out) (HTD.out.later HB2.out)).mono ?_; rintro e w3 ⟨rfl, hb3⟩
            rw [HST.out]
            have HB3 := Lib.hid (bstep (B := wd.heap.size) (W := wd) HB2.out (Nat.le_of_lt hz2_0) hb3)
            have hz3 := Nat.lt_of_lt_of_le hz2_0 hb3.size
            clear hb3
            go_wp2_with fail
            refine (alive_any _).mono ?_; rintro e w4 ⟨rfl, hb4⟩
            have HB4 := Lib.hid (bstep (B := wd.heap.size) (W := wd) HB3.out (Nat.le_of_lt hz3) hb4)
            clear hb4
            go_wp2_with fail
            go_ret
            exact ⟨rfl, bstep HBD.out hzd HB4.out⟩
      · obtain ⟨m, hm1⟩ : ∃ m, ws.length = m + 1 := ⟨ws.length - 1, by omega⟩
        obtain ⟨x, hx⟩ : ∃ x, ws[m]? = some x := ⟨_, List.getElem?_eq_getElem (by omega)⟩
        have hdb := many_dbl hno hm1 (by omega) hx
        obtain ⟨M, hM⟩ : ∃ M, manyOf nn ws = M := ⟨_, rfl⟩
        obtain ⟨ST, hST⟩ : ∃ ST, spanTreeOf nn ws = ST := ⟨_, rfl⟩
        obtain ⟨WO, hWO⟩ : ∃ WO, manyOf nn (ws.take m) = WO := ⟨_, rfl⟩
        obtain ⟨TW, hTW⟩ : ∃ TW, manyOf nn (ws ++ [x]) = TW := ⟨_, rfl⟩
        rw [hM] at hM0 hM2 hmt hdb
        rw [hST] at hmt
        rw [hWO, hTW] at hdb
        have HST := Lib.hid hST
        have HWO := Lib.hid hWO
        have HTW := Lib.hid hTW
        have HM1 := Lib.hid hm1
        have HX := Lib.hid hx
        rw [hM]
        have hng : ¬ M < 0 := by omega
        have hp1 : ((ws.length : Int) == 0) = false := by rw [beq_eq_false_iff_ne]; omega
        have hp2 : ((ws.length : Int) == 9) = false := by rw [beq_eq_false_iff_ne]; omega
        have hlm : (ws.length : Int) - 1 = (m : Int) := by omega
        have hw0 : IntKind.i64.wrap (m : Int) = (m : Int) := IntWalk.i64_in _ ⟨by omega, by omega⟩
        have hm0 : (0 : Int) ≤ (m : Int) := by omega
        have hmc : (m : Int) ≤ (c' : Int) := by omega
        have hml : (m : Int) < (ws.length : Int) := by omega
        have hm9 : m ≤ 9 := by omega
        have HV1 : Hid (IntKind.i64.wrap (TW - M) = TW - M) := IntWalk.i64_in _ ⟨by omega, by omega⟩
        have HV2 : Hid (IntKind.i64.wrap (M - WO) = M - WO) := IntWalk.i64_in _ ⟨by omega, by omega⟩
        have HV3 : Hid (wrap64 (TW - M) = TW - M) := IntWalk.wrap64_in _ ⟨by omega, by omega⟩
        have HV4 : Hid (wrap64 (M - WO) = M - WO) := IntWalk.wrap64_in _ ⟨by omega, by omega⟩
        have HV5 : Hid ((TW - M == M - WO) = true) := by show (TW - M == M - WO) = true; rw [hdb.1]; simp
        have HTL : Hid ((ws.take m).length = m) := by show (ws.take m).length = m; rw [List.length_take]; omega
        obtain ⟨b, o, rfl, hB, e0, e1, e2⟩ := HRW.out.below HB2.out m x hx
        have k2 : w2.cell? ⟨wd.heap.size, 0, none⟩ = some (.int .i64 nn) ∧ w2.cell? ⟨wd.heap.size, 1, none⟩ = some (.slice (some ⟨b, o, none⟩) ws.length c') := ⟨by go_simp, by go_simp⟩
        have hbs := emptyWays
        have hcon : ∀ (A1 : Option Addr) (c1 : Nat) (W : World), RW W W.heap.size A1 (ws.take m) → Tab W → Calls Tryd.prog 34 #[.agg #[.int .i64 nn, .slice A1 m c1]] W fun e w' => e = .returned (.int .i64 WO) ∧ Below W.heap.size W w' := fun A1 c1 W g1 g2 => by
          have h := SpanMany_any nn A1 c1 (ws.take m) W g1 g2
          rw [HTL.out, HWO.out] at h
          exact h
        have hcon2 : ∀ (A1 : Option Addr) (c1 : Nat) (W : World), RW W W.heap.size A1 (ws ++ [x]) → Tab W → Calls Tryd.prog 34 #[.agg #[.int .i64 nn, .slice A1 (ws.length + 1) c1]] W fun e w' => e = .returned (.int .i64 TW) ∧ Below W.heap.size W w' := fun A1 c1 W g1 g2 => by
          have h := SpanMany_any nn A1 c1 (ws ++ [x]) W g1 g2
          rw [HTW.out, List.length_append, List.length_singleton] at h
          exact h
        have HC1 := Lib.hid hcon
        have HC2 := Lib.hid hcon2
        -- the last way's box
        have kv : (w2.alloc (.cells #[.int .i64 x.a, .int .i64 x.b, .int .i64 x.c] 45)).cell? ⟨wd.heap.size, 0, none⟩ = some (.int .i64 nn) ∧ (w2.alloc (.cells #[.int .i64 x.a, .int .i64 x.b, .int .i64 x.c] 45)).cell? ⟨wd.heap.size, 1, none⟩ = some (.slice (some ⟨b, o, none⟩) ws.length c') ∧ (w2.alloc (.cells #[.int .i64 x.a, .int .i64 x.b, .int .i64 x.c] 45)).cell? ⟨w2.heap.size, 0, none⟩ = some (.int .i64 x.a) ∧ (w2.alloc (.cells #[.int .i64 x.a, .int .i64 x.b, .int .i64 x.c] 45)).cell? ⟨w2.heap.size, 1, none⟩ = some (.int .i64 x.b) ∧ (w2.alloc (.cells #[.int .i64 x.a, .int .i64 x.b, .int .i64 x.c] 45)).cell? ⟨w2.heap.size, 2, none⟩ = some (.int .i64 x.c) :=
          ⟨(World.cell?_alloc_lt _ _ _ hz2_0).trans k2.1, (World.cell?_alloc_lt _ _ _ hz2_0).trans k2.2, cell_of_row _ _ 0 _ _ (0, 0) (heap_alloc_new w2 _), cell_of_row _ _ 1 _ _ (0, 0) (heap_alloc_new w2 _), cell_of_row _ _ 2 _ _ (0, 0) (heap_alloc_new w2 _)⟩
        have HBV := Lib.hid (HB2.out.alloc (Nat.le_of_lt hz2_0) (.cells #[.int .i64 x.a, .int .i64 x.b, .int .i64 x.c] 45))
        have zv : wd.heap.size < (w2.alloc (.cells #[.int .i64 x.a, .int .i64 x.b, .int .i64 x.c] 45)).heap.size := by simp; omega
        have zl : w2.heap.size < (w2.alloc (.cells #[.int .i64 x.a, .int .i64 x.b, .int .i64 x.c] 45)).heap.size := by simp
        clear hM hST hWO hTW hni hno hedge hm1 hx hcon hcon2 hc1 hf1 hc2 hf2 hdb
        go_wp2_with fail
        generalize hwv : w2.alloc (.cells #[.int .i64 x.a, .int .i64 x.b, .int .i64 x.c] 45) = wv at kv HBV zv zl ⊢
        have rv := Lib.hid (HRW.out.later HBV.out)
        have tv := Lib.hid (HTD.out.later HBV.out)
        clear hwv e0 e1 e2
        obtain ⟨Lb, hLb⟩ : ∃ Lb, Lb = w2.heap.size := ⟨_, rfl⟩
        rw [← hLb] at kv zl ⊢
        clear hLb k2
        refine wp_region_held_drew (S := (fun w' => w'.cell? ⟨wd.heap.size, 0, none⟩ = some (.int .i64 nn) ∧ w'.cell? ⟨wd.heap.size, 1, none⟩ = some (.slice (some ⟨b, o, none⟩) ws.length c') ∧ w'.cell? ⟨Lb, 0, none⟩ = some (.int .i64 x.a) ∧ w'.cell? ⟨Lb, 1, none⟩ = some (.int .i64 x.b) ∧ w'.cell? ⟨Lb, 2, none⟩ = some (.int .i64 x.c))) (by kernel_rfl) ?_ (fun hHeld => ?_)
        · exact kv
        refine wpAnyH_take (i := 0) (v := ?_) rfl (by kernel_rfl) (by kernel_rfl) (by kernel_rfl) (fun _ _ _ h => h) (Or.inl ⟨by rfl, ?_⟩) (by assumption) ?_
        rotate_left
        · (intro w hSw; (try dsimp only at hSw); (try simp only [List.getElem_toArray, List.getElem_cons_succ, List.getElem_cons_zero]); first | (go_simp; done) | (go_simp; with_reducible rfl))
        try simp only [Act.put, List.getElem_toArray, List.getElem_cons_succ, List.getElem_cons_zero, List.setIfInBounds_toArray, List.set_cons_zero, List.set_cons_succ]
        refine wpAnyH_take (i := 1) (v := ?_) rfl (by kernel_rfl) (by kernel_rfl) (by kernel_rfl) (fun _ _ _ h => h) (Or.inl ⟨by rfl, ?_⟩) (by assumption) ?_
        rotate_left
        · (intro w hSw; (try dsimp only at hSw); (try simp only [List.getElem_toArray, List.getElem_cons_succ, List.getElem_cons_zero]); first | (go_simp; done) | (go_simp; with_reducible rfl))
        try simp only [Act.put, List.getElem_toArray, List.getElem_cons_succ, List.getElem_cons_zero, List.setIfInBounds_toArray, List.set_cons_zero, List.set_cons_succ]
        refine wpAnyH_take (i := 3) (v := ?_) rfl (by kernel_rfl) (by kernel_rfl) (by kernel_rfl) (fun _ _ _ h => h) (Or.inl ⟨by rfl, ?_⟩) (by assumption) ?_
        rotate_left
        · (intro w hSw; (try dsimp only at hSw); (try simp only [List.getElem_toArray, List.getElem_cons_succ, List.getElem_cons_zero]); first | (go_simp; done) | (go_simp; with_reducible rfl))
        try simp only [Act.put, List.getElem_toArray, List.getElem_cons_succ, List.getElem_cons_zero, List.setIfInBounds_toArray, List.set_cons_zero, List.set_cons_succ]
        refine wpAnyH_take (i := 4) (v := ?_) rfl (by kernel_rfl) (by kernel_rfl) (by kernel_rfl) (fun _ _ _ h => h) (Or.inl ⟨by rfl, ?_⟩) (by assumption) ?_
        rotate_left
        · (intro w hSw; (try dsimp only at hSw); (try simp only [List.getElem_toArray, List.getElem_cons_succ, List.getElem_cons_zero]); first | (go_simp; done) | (go_simp; with_reducible rfl))
        try simp only [Act.put, List.getElem_toArray, List.getElem_cons_succ, List.getElem_cons_zero, List.setIfInBounds_toArray, List.set_cons_zero, List.set_cons_succ]
        refine wpAnyH_take (i := 5) (v := ?_) rfl (by kernel_rfl) (by kernel_rfl) (by kernel_rfl) (fun _ _ _ h => h) (Or.inl ⟨by rfl, ?_⟩) (by assumption) ?_
        rotate_left
        · (intro w hSw; (try dsimp only at hSw); (try simp only [List.getElem_toArray, List.getElem_cons_succ, List.getElem_cons_zero]); first | (go_simp; done) | (go_simp; with_reducible rfl))
        try simp only [Act.put, List.getElem_toArray, List.getElem_cons_succ, List.getElem_cons_zero, List.setIfInBounds_toArray, List.set_cons_zero, List.set_cons_succ]
        refine wpAnyH_take (i := 6) (v := ?_) rfl (by kernel_rfl) (by kernel_rfl) (by kernel_rfl) (fun _ _ _ h => h) (Or.inl ⟨by rfl, ?_⟩) (by assumption) ?_
        rotate_left
        · (intro w hSw; (try dsimp only at hSw); (try simp only [List.getElem_toArray, List.getElem_cons_succ, List.getElem_cons_zero]); first | (go_simp; done) | (go_simp; with_reducible rfl))
        try simp only [Act.put, List.getElem_toArray, List.getElem_cons_succ, List.getElem_cons_zero, List.setIfInBounds_toArray, List.set_cons_zero, List.set_cons_succ]
        refine wpAnyH_take (i := 7) (v := ?_) rfl (by kernel_rfl) (by kernel_rfl) (by kernel_rfl) (fun _ _ _ h => h) (Or.inl ⟨by rfl, ?_⟩) (by assumption) ?_
        rotate_left
        · (intro w hSw; (try dsimp only at hSw); (try simp only [List.getElem_toArray, List.getElem_cons_succ, List.getElem_cons_zero]); first | (go_simp; done) | (go_simp; with_reducible rfl))
        try simp only [Act.put, List.getElem_toArray, List.getElem_cons_succ, List.getElem_cons_zero, List.setIfInBounds_toArray, List.set_cons_zero, List.set_cons_succ]
        refine wpAnyH_take (i := 8) (v := ?_) rfl (by kernel_rfl) (by kernel_rfl) (by kernel_rfl) (fun _ _ _ h => h) (Or.inl ⟨by rfl, ?_⟩) (by assumption) ?_
        rotate_left
        · (intro w hSw; (try dsimp only at hSw); (try simp only [List.getElem_toArray, List.getElem_cons_succ, List.getElem_cons_zero]); first | (go_simp; done) | (go_simp; with_reducible rfl))
        try simp only [Act.put, List.getElem_toArray, List.getElem_cons_succ, List.getElem_cons_zero, List.setIfInBounds_toArray, List.set_cons_zero, List.set_cons_succ]
        refine wpAnyH_take (i := 9) (v := ?_) rfl (by kernel_rfl) (by kernel_rfl) (by kernel_rfl) (fun _ _ _ h => h) (Or.inl ⟨by rfl, ?_⟩) (by assumption) ?_
        rotate_left
        · (intro w hSw; (try dsimp only at hSw); (try simp only [List.getElem_toArray, List.getElem_cons_succ, List.getElem_cons_zero]); first | (go_simp; done) | (go_simp; with_reducible rfl))
        try simp only [Act.put, List.getElem_toArray, List.getElem_cons_succ, List.getElem_cons_zero, List.setIfInBounds_toArray, List.set_cons_zero, List.set_cons_succ]
        refine wpAnyH_ready (rs := [2]) (by kernel_rfl) (by simp) ?_
        refine AllReadyH.cons rfl (fun K hK => ?_) AllReadyH.nil
        try simp only [List.getElem_toArray, List.getElem_cons_succ, List.getElem_cons_zero]
        go_simp
        have ka := (⟨(World.cell?_alloc_lt _ _ _ (zv)).trans kv.1, (World.cell?_alloc_lt _ _ _ (zv)).trans kv.2.1, (World.cell?_alloc_lt _ _ _ (zl)).trans kv.2.2.1, (World.cell?_alloc_lt _ _ _ (zl)).trans kv.2.2.2.1, (World.cell?_alloc_lt _ _ _ (zl)).trans kv.2.2.2.2⟩ : (fun w' => w'.cell? ⟨wd.heap.size, 0, none⟩ = some (.int .i64 nn) ∧ w'.cell? ⟨wd.heap.size, 1, none⟩ = some (.slice (some ⟨b, o, none⟩) ws.length c') ∧ w'.cell? ⟨Lb, 0, none⟩ = some (.int .i64 x.a) ∧ w'.cell? ⟨Lb, 1, none⟩ = some (.int .i64 x.b) ∧ w'.cell? ⟨Lb, 2, none⟩ = some (.int .i64 x.c)) (wv.drew.alloc (.cells #[] 45)))
        refine hK.out _ _ ?_ (fun hHeld => ?_)
        · exact ka
        clear hK K
        try simp only [Act.put, List.getElem_toArray, List.getElem_cons_succ, List.getElem_cons_zero, List.setIfInBounds_toArray, List.set_cons_zero, List.set_cons_succ]
        refine wpAnyH_ready (rs := [10]) (by kernel_rfl) (by simp) ?_
        refine AllReadyH.cons rfl (fun K hK => ?_) AllReadyH.nil
        refine step_append_copy (by rfl) _ _ _ (by rfl) wv.heap.size 45 i0 _ 3 24 Tryd.underlying23 hi0 hz0 hz1' hz2 rfl (by omega) (.slice (some ⟨wv.heap.size, 0, none⟩) 0 0) (by rfl) (World.ownsRow_made wv.drew #[] 0 (by simp) (by unfold maxLen; omega) rfl) ⟨b, o, none⟩ m c' (wyCells (ws.take m)) (by rfl) (by rw [wyCells_len, HTL.out]) (RW.news (B := (wv.drew.alloc (.cells #[] 45)).heap.size) ((rv.out.later (by go_grown)).take m)) (wyCells_one _) (by unfold maxLen; omega) (by omega) (by simp; try omega) _ rfl ?_; intro A1 c1 w3 hown3 hg3 hat3
        have hlw : Below wv.heap.size wv w3 := below_app (H := wv.heap.size) (by go_grown) hg3 (Nat.le_refl _)
        have k3 := keep5' hlw kv zv zl
        have z3 := Nat.lt_of_lt_of_le zv hlw.size
        have y3 := Nat.lt_of_lt_of_le zl hlw.size
        have q3 := Lib.hid (rw_of_own (ws := ws.take m) (by rw [HTL.out]; exact hown3))
        have r3 := Lib.hid (rv.out.later hlw)
        have t3 := Lib.hid (tv.out.later hlw)
        have HB3 := Lib.hid (bstep (B := wd.heap.size) (W := wd) HBV.out (Nat.le_of_lt zv) hlw)
        clear hown3 hg3 hat3 hlw
        refine hK.out _ _ ?_ (fun hHeld => ?_)
        · exact k3
        clear hK K
        try simp only [Act.put, List.getElem_toArray, List.getElem_cons_succ, List.getElem_cons_zero, List.setIfInBounds_toArray, List.set_cons_zero, List.set_cons_succ]
        refine wpAnyH_take (i := 11) (v := ?_) rfl (by kernel_rfl) (by kernel_rfl) (by kernel_rfl) (fun _ _ _ h => h) (Or.inl ⟨by rfl, ?_⟩) (by assumption) ?_
        rotate_left
        · (intro w hSw; (try dsimp only at hSw); (try simp only [List.getElem_toArray, List.getElem_cons_succ, List.getElem_cons_zero]); first | (go_simp; done) | (go_simp; with_reducible rfl))
        try simp only [Act.put, List.getElem_toArray, List.getElem_cons_succ, List.getElem_cons_zero, List.setIfInBounds_toArray, List.set_cons_zero, List.set_cons_succ]
        refine wpAnyH_ready (rs := [12]) (by kernel_rfl) (by simp) ?_
        refine AllReadyH.cons rfl (fun K hK => ?_) AllReadyH.nil
        try simp only [List.getElem_toArray, List.getElem_cons_succ, List.getElem_cons_zero]
        go_simp
        go_at_call 34; refine (HC1.out A1 c1 w3 q3.out t3.out).mono ?_; rintro e4 w4 ⟨rfl, hb4⟩; have k4 := keep5' hb4 k3 z3 y3; have z4 := Nat.lt_of_lt_of_le z3 hb4.size; have y4 := Nat.lt_of_lt_of_le y3 hb4.size; have r4 := Lib.hid (r3.out.later hb4); have t4 := Lib.hid (t3.out.later hb4); have HB4 := Lib.hid (bstep (B := wd.heap.size) (W := wd) HB3.out (Nat.le_of_lt z3) hb4); clear hb4
        refine hK.out _ _ ?_ (fun hHeld => ?_)
        · exact k4
        clear hK K
        try simp only [Act.put, List.getElem_toArray, List.getElem_cons_succ, List.getElem_cons_zero, List.setIfInBounds_toArray, List.set_cons_zero, List.set_cons_succ]
        refine wpAnyH_take (i := 13) (v := ?_) rfl (by kernel_rfl) (by kernel_rfl) (by kernel_rfl) (fun _ _ _ h => h) (Or.inl ⟨by rfl, ?_⟩) (by assumption) ?_
        rotate_left
        · (intro w hSw; (try dsimp only at hSw); (try simp only [List.getElem_toArray, List.getElem_cons_succ, List.getElem_cons_zero]); first | (go_simp; done) | (go_simp; with_reducible rfl))
        try simp only [Act.put, List.getElem_toArray, List.getElem_cons_succ, List.getElem_cons_zero, List.setIfInBounds_toArray, List.set_cons_zero, List.set_cons_succ]
        refine wpAnyH_done (by kernel_rfl) ?_ _
        clear q3 r3 t3 k3 z3 y3 rv tv kv zv zl HBV HB3
        go_wp2_with fail
        refine wp_region_held_drew (S := (fun w' => w'.cell? ⟨wd.heap.size, 0, none⟩ = some (.int .i64 nn) ∧ w'.cell? ⟨wd.heap.size, 1, none⟩ = some (.slice (some ⟨b, o, none⟩) ws.length c') ∧ w'.cell? ⟨Lb, 0, none⟩ = some (.int .i64 x.a) ∧ w'.cell? ⟨Lb, 1, none⟩ = some (.int .i64 x.b) ∧ w'.cell? ⟨Lb, 2, none⟩ = some (.int .i64 x.c))) (by kernel_rfl) ?_ (fun hHeld => ?_)
        · exact k4
        refine wpAnyH_take (i := 0) (v := ?_) rfl (by kernel_rfl) (by kernel_rfl) (by kernel_rfl) (fun _ _ _ h => h) (Or.inl ⟨by rfl, ?_⟩) (by assumption) ?_
        rotate_left
        · (intro w hSw; (try dsimp only at hSw); (try simp only [List.getElem_toArray, List.getElem_cons_succ, List.getElem_cons_zero]); first | (go_simp; done) | (go_simp; with_reducible rfl))
        try simp only [Act.put, List.getElem_toArray, List.getElem_cons_succ, List.getElem_cons_zero, List.setIfInBounds_toArray, List.set_cons_zero, List.set_cons_succ]
        refine wpAnyH_take (i := 1) (v := ?_) rfl (by kernel_rfl) (by kernel_rfl) (by kernel_rfl) (fun _ _ _ h => h) (Or.inl ⟨by rfl, ?_⟩) (by assumption) ?_
        rotate_left
        · (intro w hSw; (try dsimp only at hSw); (try simp only [List.getElem_toArray, List.getElem_cons_succ, List.getElem_cons_zero]); first | (go_simp; done) | (go_simp; with_reducible rfl))
        try simp only [Act.put, List.getElem_toArray, List.getElem_cons_succ, List.getElem_cons_zero, List.setIfInBounds_toArray, List.set_cons_zero, List.set_cons_succ]
        refine wpAnyH_take (i := 3) (v := ?_) rfl (by kernel_rfl) (by kernel_rfl) (by kernel_rfl) (fun _ _ _ h => h) (Or.inl ⟨by rfl, ?_⟩) (by assumption) ?_
        rotate_left
        · (intro w hSw; (try dsimp only at hSw); (try simp only [List.getElem_toArray, List.getElem_cons_succ, List.getElem_cons_zero]); first | (go_simp; done) | (go_simp; with_reducible rfl))
        try simp only [Act.put, List.getElem_toArray, List.getElem_cons_succ, List.getElem_cons_zero, List.setIfInBounds_toArray, List.set_cons_zero, List.set_cons_succ]
        refine wpAnyH_take (i := 4) (v := ?_) rfl (by kernel_rfl) (by kernel_rfl) (by kernel_rfl) (fun _ _ _ h => h) (Or.inl ⟨by rfl, ?_⟩) (by assumption) ?_
        rotate_left
        · (intro w hSw; (try dsimp only at hSw); (try simp only [List.getElem_toArray, List.getElem_cons_succ, List.getElem_cons_zero]); first | (go_simp; done) | (go_simp; with_reducible rfl))
        try simp only [Act.put, List.getElem_toArray, List.getElem_cons_succ, List.getElem_cons_zero, List.setIfInBounds_toArray, List.set_cons_zero, List.set_cons_succ]
        refine wpAnyH_take (i := 6) (v := ?_) rfl (by kernel_rfl) (by kernel_rfl) (by kernel_rfl) (fun _ _ _ h => h) (Or.inl ⟨by rfl, ?_⟩) (by assumption) ?_
        rotate_left
        · (intro w hSw; (try dsimp only at hSw); (try simp only [List.getElem_toArray, List.getElem_cons_succ, List.getElem_cons_zero]); first | (go_simp; done) | (go_simp; with_reducible rfl))
        try simp only [Act.put, List.getElem_toArray, List.getElem_cons_succ, List.getElem_cons_zero, List.setIfInBounds_toArray, List.set_cons_zero, List.set_cons_succ]
        refine wpAnyH_ready (rs := [2, 7]) (by kernel_rfl) (by simp) ?_
        refine AllReadyH.cons rfl (fun K hK => ?_) (AllReadyH.cons rfl (fun K hK => ?_) AllReadyH.nil)
        · try simp only [List.getElem_toArray, List.getElem_cons_succ, List.getElem_cons_zero]
          go_simp
          have ka := (⟨(World.cell?_alloc_lt _ _ _ (z4)).trans k4.1, (World.cell?_alloc_lt _ _ _ (z4)).trans k4.2.1, (World.cell?_alloc_lt _ _ _ (y4)).trans k4.2.2.1, (World.cell?_alloc_lt _ _ _ (y4)).trans k4.2.2.2.1, (World.cell?_alloc_lt _ _ _ (y4)).trans k4.2.2.2.2⟩ : (fun w' => w'.cell? ⟨wd.heap.size, 0, none⟩ = some (.int .i64 nn) ∧ w'.cell? ⟨wd.heap.size, 1, none⟩ = some (.slice (some ⟨b, o, none⟩) ws.length c') ∧ w'.cell? ⟨Lb, 0, none⟩ = some (.int .i64 x.a) ∧ w'.cell? ⟨Lb, 1, none⟩ = some (.int .i64 x.b) ∧ w'.cell? ⟨Lb, 2, none⟩ = some (.int .i64 x.c)) (w4.drew.alloc (.cells #[] 45)))
          refine hK.out _ _ ?_ (fun hHeld => ?_)
          · exact ka
          clear hK K
          try simp only [Act.put, List.getElem_toArray, List.getElem_cons_succ, List.getElem_cons_zero, List.setIfInBounds_toArray, List.set_cons_zero, List.set_cons_succ]
          refine wpAnyH_ready (rs := [5, 7]) (by kernel_rfl) (by simp) ?_
          refine AllReadyH.cons rfl (fun K hK => ?_) (AllReadyH.cons rfl (fun K hK => ?_) AllReadyH.nil)
          · refine step_append_copy (by rfl) _ _ _ (by rfl) w4.heap.size 45 i0 _ 3 24 Tryd.underlying23 hi0 hz0 hz1' hz2 rfl (by omega) (.slice (some ⟨w4.heap.size, 0, none⟩) 0 0) (by rfl) (World.ownsRow_made w4.drew #[] 0 (by simp) (by unfold maxLen; omega) rfl) ⟨b, o, none⟩ ws.length c' (wyCells ws) (by rfl) (by rw [wyCells_len]) (RW.news (B := (w4.drew.alloc (.cells #[] 45)).heap.size) (r4.out.later (by go_grown))) (wyCells_one _) (by unfold maxLen; omega) (by omega) (by simp; try omega) _ rfl ?_; intro A1 c1 w3 hown3 hg3 hat3
            have hlw : Below w4.heap.size w4 w3 := below_app (H := w4.heap.size) (by go_grown) hg3 (Nat.le_refl _)
            have k3 := keep5' hlw k4 z4 y4
            have z3 := Nat.lt_of_lt_of_le z4 hlw.size
            have y3 := Nat.lt_of_lt_of_le y4 hlw.size
            refine hK.out _ _ ?_ (fun hHeld => ?_)
            · exact k3
            clear hK K
            try simp only [Act.put, List.getElem_toArray, List.getElem_cons_succ, List.getElem_cons_zero, List.setIfInBounds_toArray, List.set_cons_zero, List.set_cons_succ]
            refine wpAnyH_ready (rs := [7]) (by kernel_rfl) (by simp) ?_
            refine AllReadyH.cons rfl (fun K hK => ?_) AllReadyH.nil
            try simp only [List.getElem_toArray, List.getElem_cons_succ, List.getElem_cons_zero]
            go_simp
            have kb := (⟨(World.cell?_alloc_lt _ _ _ (z3)).trans k3.1, (World.cell?_alloc_lt _ _ _ (z3)).trans k3.2.1, (World.cell?_alloc_lt _ _ _ (y3)).trans k3.2.2.1, (World.cell?_alloc_lt _ _ _ (y3)).trans k3.2.2.2.1, (World.cell?_alloc_lt _ _ _ (y3)).trans k3.2.2.2.2⟩ : (fun w' => w'.cell? ⟨wd.heap.size, 0, none⟩ = some (.int .i64 nn) ∧ w'.cell? ⟨wd.heap.size, 1, none⟩ = some (.slice (some ⟨b, o, none⟩) ws.length c') ∧ w'.cell? ⟨Lb, 0, none⟩ = some (.int .i64 x.a) ∧ w'.cell? ⟨Lb, 1, none⟩ = some (.int .i64 x.b) ∧ w'.cell? ⟨Lb, 2, none⟩ = some (.int .i64 x.c)) (w3.alloc (.cells #[.int .i64 x.a, .int .i64 x.b, .int .i64 x.c] 45)))
            refine hK.out _ _ ?_ (fun hHeld => ?_)
            · exact kb
            clear hK K
            try simp only [Act.put, List.getElem_toArray, List.getElem_cons_succ, List.getElem_cons_zero, List.setIfInBounds_toArray, List.set_cons_zero, List.set_cons_succ]
            refine wpAnyH_ready (rs := [8]) (by kernel_rfl) (by simp) ?_
            refine AllReadyH.cons rfl (fun K hK => ?_) AllReadyH.nil
            refine step_append_lies _ (by rfl) _ _ _ (by rfl) (w4.heap.size) 45 i0 _ 3 24 Tryd.underlying23 hi0 hz0 hz1' hz2 rfl (by omega) (.slice A1 ws.length c1) ws.length (wyCells ws) (by rfl) (World.ownsRow.alloc hown3 _) ⟨w3.heap.size, 0, none⟩ 1 1 [.int .i64 x.a, .int .i64 x.b, .int .i64 x.c] (by rfl) (by rfl) (World.news_of_block (cs := #[.int .i64 x.a, .int .i64 x.b, .int .i64 x.c]) (t := 45) (fr := (0, 0)) (heap_alloc_new w3 _)) (by simp [Value.oneCell']) (by omega) (by unfold maxLen; omega) (by omega) (by have h9 := hlw.size; first | omega | (simp; omega)) _ rfl ?_; intro gg cc w6 hown6 hg6 hat6 hlt6
            have hlw6 : Below w4.heap.size w4 w6 := below_app2 (hlw.alloc hlw.size _) hg6 (World.ownsRow.alloc hown3 _) (by omega)
            have k6 := keep5' hlw6 k4 z4 y4
            have z6 := Nat.lt_of_lt_of_le z4 hlw6.size
            have q6 := Lib.hid (rw_of_own (ws := ws ++ [x]) (by rw [List.length_append, List.length_singleton, wyCells_snoc]; exact hown6))
            have r6 := Lib.hid (r4.out.later hlw6)
            have t6 := Lib.hid (t4.out.later hlw6)
            have HB6 := Lib.hid (bstep (B := wd.heap.size) (W := wd) HB4.out (Nat.le_of_lt z4) hlw6)
            have y6 := Nat.lt_of_lt_of_le y4 hlw6.size
            clear hown6 hg6 hat6 hlt6 hlw6
            refine hK.out _ _ ?_ (fun hHeld => ?_)
            · exact k6
            clear hK K
            try simp only [Act.put, List.getElem_toArray, List.getElem_cons_succ, List.getElem_cons_zero, List.setIfInBounds_toArray, List.set_cons_zero, List.set_cons_succ]
            refine wpAnyH_take (i := 9) (v := ?_) rfl (by kernel_rfl) (by kernel_rfl) (by kernel_rfl) (fun _ _ _ h => h) (Or.inl ⟨by rfl, ?_⟩) (by assumption) ?_
            rotate_left
            · (intro w hSw; (try dsimp only at hSw); (try simp only [List.getElem_toArray, List.getElem_cons_succ, List.getElem_cons_zero]); first | (go_simp; done) | (go_simp; with_reducible rfl))
            try simp only [Act.put, List.getElem_toArray, List.getElem_cons_succ, List.getElem_cons_zero, List.setIfInBounds_toArray, List.set_cons_zero, List.set_cons_succ]
            refine wpAnyH_ready (rs := [10]) (by kernel_rfl) (by simp) ?_
            refine AllReadyH.cons rfl (fun K hK => ?_) AllReadyH.nil
            try simp only [List.getElem_toArray, List.getElem_cons_succ, List.getElem_cons_zero]
            go_simp
            go_at_call 34; refine (HC2.out (some ⟨gg, 0, none⟩) cc w6 q6.out t6.out).mono ?_; rintro e7 w7 ⟨rfl, hb7⟩; have k7 := keep5' hb7 k6 z6 y6; have z7 := Nat.lt_of_lt_of_le z6 hb7.size; have r7 := Lib.hid (r6.out.later hb7); have t7 := Lib.hid (t6.out.later hb7); have HB7 := Lib.hid (bstep (B := wd.heap.size) (W := wd) HB6.out (Nat.le_of_lt z6) hb7); clear hb7
            refine hK.out _ _ ?_ (fun hHeld => ?_)
            · exact k7
            clear hK K
            try simp only [Act.put, List.getElem_toArray, List.getElem_cons_succ, List.getElem_cons_zero, List.setIfInBounds_toArray, List.set_cons_zero, List.set_cons_succ]
            refine wpAnyH_take (i := 11) (v := ?_) rfl (by kernel_rfl) (by kernel_rfl) (by kernel_rfl) (fun _ _ _ h => h) (Or.inl ⟨by rfl, ?_⟩) (by assumption) ?_
            rotate_left
            · (intro w hSw; (try dsimp only at hSw); (try simp only [List.getElem_toArray, List.getElem_cons_succ, List.getElem_cons_zero]); first | (go_simp; done) | (go_simp; with_reducible rfl))
            try simp only [Act.put, List.getElem_toArray, List.getElem_cons_succ, List.getElem_cons_zero, List.setIfInBounds_toArray, List.set_cons_zero, List.set_cons_succ]
            refine wpAnyH_done (by kernel_rfl) ?_ _
            have v1 := HV1.out
            have v2 := HV2.out
            have v3 := HV3.out
            have v4 := HV4.out
            have v5 := HV5.out
            cases ht : decide (M > 0)
            · rw [ht] at hmt
              have u1 : decide ((0 : Int) < M) = false := by simpa using ht
              have u2 : decide ((0 : Int) ≤ ST) = false := by have h9 := hmt.symm; simpa using h9
              have u3 : decide (ST ≥ 0) = false := hmt.symm
              clear hmt
              go_wp2_with fail
              refine (SpanTree_any _ _ _ _ _ r7.out t7.out).mono ?_; rintro e8 w8 ⟨rfl, hb8⟩
              rw [HST.out]
              have g8 := hb8
              have HB8 := Lib.hid (bstep (B := wd.heap.size) (W := wd) HB7.out (Nat.le_of_lt z7) g8)
              clear g8 hb8
              go_wp2_with fail
              go_ret
              exact ⟨rfl, bstep HBD.out hzd HB8.out⟩
            · rw [ht] at hmt
              have u1 : decide ((0 : Int) < M) = true := by simpa using ht
              have u2 : decide ((0 : Int) ≤ ST) = true := by have h9 := hmt.symm; simpa using h9
              have u3 : decide (ST ≥ 0) = true := hmt.symm
              clear hmt
              go_wp2_with fail
              refine (SpanTree_any _ _ _ _ _ r7.out t7.out).mono ?_; rintro e8 w8 ⟨rfl, hb8⟩
              rw [HST.out]
              have g8 := hb8
              have HB8 := Lib.hid (bstep (B := wd.heap.size) (W := wd) HB7.out (Nat.le_of_lt z7) g8)
              clear g8 hb8
              go_wp2_with fail
              go_ret
              exact ⟨rfl, bstep HBD.out hzd HB8.out⟩
          · try simp only [List.getElem_toArray, List.getElem_cons_succ, List.getElem_cons_zero]
            go_simp
            have kb := (⟨(World.cell?_alloc_lt _ _ _ (by simp; omega)).trans ka.1, (World.cell?_alloc_lt _ _ _ (by simp; omega)).trans ka.2.1, (World.cell?_alloc_lt _ _ _ (by simp; omega)).trans ka.2.2.1, (World.cell?_alloc_lt _ _ _ (by simp; omega)).trans ka.2.2.2.1, (World.cell?_alloc_lt _ _ _ (by simp; omega)).trans ka.2.2.2.2⟩ : (fun w' => w'.cell? ⟨wd.heap.size, 0, none⟩ = some (.int .i64 nn) ∧ w'.cell? ⟨wd.heap.size, 1, none⟩ = some (.slice (some ⟨b, o, none⟩) ws.length c') ∧ w'.cell? ⟨Lb, 0, none⟩ = some (.int .i64 x.a) ∧ w'.cell? ⟨Lb, 1, none⟩ = some (.int .i64 x.b) ∧ w'.cell? ⟨Lb, 2, none⟩ = some (.int .i64 x.c)) ((w4.drew.alloc (.cells #[] 45)).alloc (.cells #[.int .i64 x.a, .int .i64 x.b, .int .i64 x.c] 45)))
            refine hK.out _ _ ?_ (fun hHeld => ?_)
            · exact kb
            clear hK K
            try simp only [Act.put, List.getElem_toArray, List.getElem_cons_succ, List.getElem_cons_zero, List.setIfInBounds_toArray, List.set_cons_zero, List.set_cons_succ]
            refine wpAnyH_ready (rs := [5]) (by kernel_rfl) (by simp) ?_
            refine AllReadyH.cons rfl (fun K hK => ?_) AllReadyH.nil
            refine step_append_copy (by rfl) _ _ _ (by rfl) w4.heap.size 45 i0 _ 3 24 Tryd.underlying23 hi0 hz0 hz1' hz2 rfl (by omega) (.slice (some ⟨w4.heap.size, 0, none⟩) 0 0) (by rfl) (World.ownsRow.alloc (World.ownsRow_made w4.drew #[] 0 (by simp) (by unfold maxLen; omega) rfl) _) ⟨b, o, none⟩ ws.length c' (wyCells ws) (by rfl) (by rw [wyCells_len]) (RW.news (B := ((w4.drew.alloc (.cells #[] 45)).alloc (.cells #[.int .i64 x.a, .int .i64 x.b, .int .i64 x.c] 45)).heap.size) (r4.out.later (by go_grown))) (wyCells_one _) (by unfold maxLen; omega) (by omega) (by simp; try omega) _ rfl ?_; intro A1 c1 w3 hown3 hg3 hat3
            have hlw : Below w4.heap.size w4 w3 := below_app (H := w4.heap.size) (by go_grown) hg3 (Nat.le_refl _)
            have k3 := keep5' hlw k4 z4 y4
            refine hK.out _ _ ?_ (fun hHeld => ?_)
            · exact k3
            clear hK K
            try simp only [Act.put, List.getElem_toArray, List.getElem_cons_succ, List.getElem_cons_zero, List.setIfInBounds_toArray, List.set_cons_zero, List.set_cons_succ]
            refine wpAnyH_ready (rs := [8]) (by kernel_rfl) (by simp) ?_
            refine AllReadyH.cons rfl (fun K hK => ?_) AllReadyH.nil
            refine step_append_lies _ (by rfl) _ _ _ (by rfl) (w4.heap.size) 45 i0 _ 3 24 Tryd.underlying23 hi0 hz0 hz1' hz2 rfl (by omega) (.slice A1 ws.length c1) ws.length (wyCells ws) (by rfl) (hown3) ⟨w4.heap.size + 1, 0, none⟩ 1 1 [.int .i64 x.a, .int .i64 x.b, .int .i64 x.c] (by rfl) (by rfl) (World.news_of_block (cs := #[.int .i64 x.a, .int .i64 x.b, .int .i64 x.c]) (t := 45) (fr := (0, 0)) ((hg3.block (w4.heap.size + 1) (by simp) (by intro e; simp [Value.ownBlock] at e)).trans (by have h8 := heap_alloc_new (w4.drew.alloc (.cells #[] 45)) (.cells #[.int .i64 x.a, .int .i64 x.b, .int .i64 x.c] 45); rw [World.size_alloc] at h8; exact h8))) (by simp [Value.oneCell']) (by omega) (by unfold maxLen; omega) (by omega) (by have h9 := hlw.size; first | omega | (simp; omega)) _ rfl ?_; intro gg cc w6 hown6 hg6 hat6 hlt6
            have hlw6 : Below w4.heap.size w4 w6 := below_app2 (hlw) hg6 (hown3) (by omega)
            have k6 := keep5' hlw6 k4 z4 y4
            have z6 := Nat.lt_of_lt_of_le z4 hlw6.size
            have q6 := Lib.hid (rw_of_own (ws := ws ++ [x]) (by rw [List.length_append, List.length_singleton, wyCells_snoc]; exact hown6))
            have r6 := Lib.hid (r4.out.later hlw6)
            have t6 := Lib.hid (t4.out.later hlw6)
            have HB6 := Lib.hid (bstep (B := wd.heap.size) (W := wd) HB4.out (Nat.le_of_lt z4) hlw6)
            have y6 := Nat.lt_of_lt_of_le y4 hlw6.size
            clear hown6 hg6 hat6 hlt6 hlw6
            refine hK.out _ _ ?_ (fun hHeld => ?_)
            · exact k6
            clear hK K
            try simp only [Act.put, List.getElem_toArray, List.getElem_cons_succ, List.getElem_cons_zero, List.setIfInBounds_toArray, List.set_cons_zero, List.set_cons_succ]
            refine wpAnyH_take (i := 9) (v := ?_) rfl (by kernel_rfl) (by kernel_rfl) (by kernel_rfl) (fun _ _ _ h => h) (Or.inl ⟨by rfl, ?_⟩) (by assumption) ?_
            rotate_left
            · (intro w hSw; (try dsimp only at hSw); (try simp only [List.getElem_toArray, List.getElem_cons_succ, List.getElem_cons_zero]); first | (go_simp; done) | (go_simp; with_reducible rfl))
            try simp only [Act.put, List.getElem_toArray, List.getElem_cons_succ, List.getElem_cons_zero, List.setIfInBounds_toArray, List.set_cons_zero, List.set_cons_succ]
            refine wpAnyH_ready (rs := [10]) (by kernel_rfl) (by simp) ?_
            refine AllReadyH.cons rfl (fun K hK => ?_) AllReadyH.nil
            try simp only [List.getElem_toArray, List.getElem_cons_succ, List.getElem_cons_zero]
            go_simp
            go_at_call 34; refine (HC2.out (some ⟨gg, 0, none⟩) cc w6 q6.out t6.out).mono ?_; rintro e7 w7 ⟨rfl, hb7⟩; have k7 := keep5' hb7 k6 z6 y6; have z7 := Nat.lt_of_lt_of_le z6 hb7.size; have r7 := Lib.hid (r6.out.later hb7); have t7 := Lib.hid (t6.out.later hb7); have HB7 := Lib.hid (bstep (B := wd.heap.size) (W := wd) HB6.out (Nat.le_of_lt z6) hb7); clear hb7
            refine hK.out _ _ ?_ (fun hHeld => ?_)
            · exact k7
            clear hK K
            try simp only [Act.put, List.getElem_toArray, List.getElem_cons_succ, List.getElem_cons_zero, List.setIfInBounds_toArray, List.set_cons_zero, List.set_cons_succ]
            refine wpAnyH_take (i := 11) (v := ?_) rfl (by kernel_rfl) (by kernel_rfl) (by kernel_rfl) (fun _ _ _ h => h) (Or.inl ⟨by rfl, ?_⟩) (by assumption) ?_
            rotate_left
            · (intro w hSw; (try dsimp only at hSw); (try simp only [List.getElem_toArray, List.getElem_cons_succ, List.getElem_cons_zero]); first | (go_simp; done) | (go_simp; with_reducible rfl))
            try simp only [Act.put, List.getElem_toArray, List.getElem_cons_succ, List.getElem_cons_zero, List.setIfInBounds_toArray, List.set_cons_zero, List.set_cons_succ]
            refine wpAnyH_done (by kernel_rfl) ?_ _
            have v1 := HV1.out
            have v2 := HV2.out
            have v3 := HV3.out
            have v4 := HV4.out
            have v5 := HV5.out
            cases ht : decide (M > 0)
            · rw [ht] at hmt
              have u1 : decide ((0 : Int) < M) = false := by simpa using ht
              have u2 : decide ((0 : Int) ≤ ST) = false := by have h9 := hmt.symm; simpa using h9
              have u3 : decide (ST ≥ 0) = false := hmt.symm
              clear hmt
              go_wp2_with fail
              refine (SpanTree_any _ _ _ _ _ r7.out t7.out).mono ?_; rintro e8 w8 ⟨rfl, hb8⟩
              rw [HST.out]
              have g8 := hb8
              have HB8 := Lib.hid (bstep (B := wd.heap.size) (W := wd) HB7.out (Nat.le_of_lt z7) g8)
              clear g8 hb8
              go_wp2_with fail
              go_ret
              exact ⟨rfl, bstep HBD.out hzd HB8.out⟩
            · rw [ht] at hmt
              have u1 : decide ((0 : Int) < M) = true := by simpa using ht
              have u2 : decide ((0 : Int) ≤ ST) = true := by have h9 := hmt.symm; simpa using h9
              have u3 : decide (ST ≥ 0) = true := hmt.symm
              clear hmt
              go_wp2_with fail
              refine (SpanTree_any _ _ _ _ _ r7.out t7.out).mono ?_; rintro e8 w8 ⟨rfl, hb8⟩
              rw [HST.out]
              have g8 := hb8
              have HB8 := Lib.hid (bstep (B := wd.heap.size) (W := wd) HB7.out (Nat.le_of_lt z7) g8)
              clear g8 hb8
              go_wp2_with fail
              go_ret
              exact ⟨rfl, bstep HBD.out hzd HB8.out⟩
        · try simp only [List.getElem_toArray, List.getElem_cons_succ, List.getElem_cons_zero]
          go_simp
          have ka := (⟨(World.cell?_alloc_lt _ _ _ (z4)).trans k4.1, (World.cell?_alloc_lt _ _ _ (z4)).trans k4.2.1, (World.cell?_alloc_lt _ _ _ (y4)).trans k4.2.2.1, (World.cell?_alloc_lt _ _ _ (y4)).trans k4.2.2.2.1, (World.cell?_alloc_lt _ _ _ (y4)).trans k4.2.2.2.2⟩ : (fun w' => w'.cell? ⟨wd.heap.size, 0, none⟩ = some (.int .i64 nn) ∧ w'.cell? ⟨wd.heap.size, 1, none⟩ = some (.slice (some ⟨b, o, none⟩) ws.length c') ∧ w'.cell? ⟨Lb, 0, none⟩ = some (.int .i64 x.a) ∧ w'.cell? ⟨Lb, 1, none⟩ = some (.int .i64 x.b) ∧ w'.cell? ⟨Lb, 2, none⟩ = some (.int .i64 x.c)) (w4.drew.alloc (.cells #[.int .i64 x.a, .int .i64 x.b, .int .i64 x.c] 45)))
          refine hK.out _ _ ?_ (fun hHeld => ?_)
          · exact ka
          clear hK K
          try simp only [Act.put, List.getElem_toArray, List.getElem_cons_succ, List.getElem_cons_zero, List.setIfInBounds_toArray, List.set_cons_zero, List.set_cons_succ]
          refine wpAnyH_ready (rs := [2]) (by kernel_rfl) (by simp) ?_
          refine AllReadyH.cons rfl (fun K hK => ?_) AllReadyH.nil
          try simp only [List.getElem_toArray, List.getElem_cons_succ, List.getElem_cons_zero]
          go_simp
          have kb := (⟨(World.cell?_alloc_lt _ _ _ (by simp; omega)).trans ka.1, (World.cell?_alloc_lt _ _ _ (by simp; omega)).trans ka.2.1, (World.cell?_alloc_lt _ _ _ (by simp; omega)).trans ka.2.2.1, (World.cell?_alloc_lt _ _ _ (by simp; omega)).trans ka.2.2.2.1, (World.cell?_alloc_lt _ _ _ (by simp; omega)).trans ka.2.2.2.2⟩ : (fun w' => w'.cell? ⟨wd.heap.size, 0, none⟩ = some (.int .i64 nn) ∧ w'.cell? ⟨wd.heap.size, 1, none⟩ = some (.slice (some ⟨b, o, none⟩) ws.length c') ∧ w'.cell? ⟨Lb, 0, none⟩ = some (.int .i64 x.a) ∧ w'.cell? ⟨Lb, 1, none⟩ = some (.int .i64 x.b) ∧ w'.cell? ⟨Lb, 2, none⟩ = some (.int .i64 x.c)) ((w4.drew.alloc (.cells #[.int .i64 x.a, .int .i64 x.b, .int .i64 x.c] 45)).alloc (.cells #[] 45)))
          refine hK.out _ _ ?_ (fun hHeld => ?_)
          · exact kb
          clear hK K
          try simp only [Act.put, List.getElem_toArray, List.getElem_cons_succ, List.getElem_cons_zero, List.setIfInBounds_toArray, List.set_cons_zero, List.set_cons_succ]
          refine wpAnyH_ready (rs := [5]) (by kernel_rfl) (by simp) ?_
          refine AllReadyH.cons rfl (fun K hK => ?_) AllReadyH.nil
          refine step_append_copy (by rfl) _ _ _ (by rfl) (w4.heap.size + 1) 45 i0 _ 3 24 Tryd.underlying23 hi0 hz0 hz1' hz2 rfl (by omega) (.slice (some ⟨w4.heap.size + 1, 0, none⟩) 0 0) (by rfl) ((by have h7 := World.ownsRow_made (base := w4.heap.size + 1) (e := 45) (size := 3) (w4.drew.alloc (.cells #[.int .i64 x.a, .int .i64 x.b, .int .i64 x.c] 45)) #[] 0 (by simp) (by unfold maxLen; omega) rfl; rw [World.size_alloc] at h7; exact h7)) ⟨b, o, none⟩ ws.length c' (wyCells ws) (by rfl) (by rw [wyCells_len]) (RW.news (B := ((w4.drew.alloc (.cells #[.int .i64 x.a, .int .i64 x.b, .int .i64 x.c] 45)).alloc (.cells #[] 45)).heap.size) (r4.out.later (by go_grown))) (wyCells_one _) (by unfold maxLen; omega) (by omega) (by simp; try omega) _ rfl ?_; intro A1 c1 w3 hown3 hg3 hat3
          have hlw : Below w4.heap.size w4 w3 := below_app (H := w4.heap.size + 1) (by go_grown) hg3 (Nat.le_succ _)
          have k3 := keep5' hlw k4 z4 y4
          refine hK.out _ _ ?_ (fun hHeld => ?_)
          · exact k3
          clear hK K
          try simp only [Act.put, List.getElem_toArray, List.getElem_cons_succ, List.getElem_cons_zero, List.setIfInBounds_toArray, List.set_cons_zero, List.set_cons_succ]
          have hsz3 : w4.heap.size + 1 ≤ w3.heap.size := by have h9 := hg3.size; simp at h9; omega
          refine wpAnyH_ready (rs := [8]) (by kernel_rfl) (by simp) ?_
          refine AllReadyH.cons rfl (fun K hK => ?_) AllReadyH.nil
          refine step_append_lies _ (by rfl) _ _ _ (by rfl) (w4.heap.size + 1) 45 i0 _ 3 24 Tryd.underlying23 hi0 hz0 hz1' hz2 rfl (by omega) (.slice A1 ws.length c1) ws.length (wyCells ws) (by rfl) (hown3) ⟨w4.heap.size, 0, none⟩ 1 1 [.int .i64 x.a, .int .i64 x.b, .int .i64 x.c] (by rfl) (by rfl) (World.news_of_block (cs := #[.int .i64 x.a, .int .i64 x.b, .int .i64 x.c]) (t := 45) (fr := (0, 0)) ((hg3.block w4.heap.size (by first | (simp; done) | omega | exact Nat.lt_succ_of_lt (Nat.lt_succ_self _) | (simp; omega)) (by intro e; simp [Value.ownBlock] at e)).trans ((Below.heap_alloc _ _ _ (by simp)).trans (heap_alloc_new w4.drew (.cells #[.int .i64 x.a, .int .i64 x.b, .int .i64 x.c] 45))))) (by simp [Value.oneCell']) (by omega) (by unfold maxLen; omega) (by omega) (by have h9 := hlw.size; first | omega | (simp; omega)) _ rfl ?_; intro gg cc w6 hown6 hg6 hat6 hlt6
          have hlw6 : Below w4.heap.size w4 w6 := below_app2 (hlw) hg6 (hown3) (by omega)
          have k6 := keep5' hlw6 k4 z4 y4
          have z6 := Nat.lt_of_lt_of_le z4 hlw6.size
          have q6 := Lib.hid (rw_of_own (ws := ws ++ [x]) (by rw [List.length_append, List.length_singleton, wyCells_snoc]; exact hown6))
          have r6 := Lib.hid (r4.out.later hlw6)
          have t6 := Lib.hid (t4.out.later hlw6)
          have HB6 := Lib.hid (bstep (B := wd.heap.size) (W := wd) HB4.out (Nat.le_of_lt z4) hlw6)
          have y6 := Nat.lt_of_lt_of_le y4 hlw6.size
          clear hown6 hg6 hat6 hlt6 hlw6
          refine hK.out _ _ ?_ (fun hHeld => ?_)
          · exact k6
          clear hK K
          try simp only [Act.put, List.getElem_toArray, List.getElem_cons_succ, List.getElem_cons_zero, List.setIfInBounds_toArray, List.set_cons_zero, List.set_cons_succ]
          refine wpAnyH_take (i := 9) (v := ?_) rfl (by kernel_rfl) (by kernel_rfl) (by kernel_rfl) (fun _ _ _ h => h) (Or.inl ⟨by rfl, ?_⟩) (by assumption) ?_
          rotate_left
          · (intro w hSw; (try dsimp only at hSw); (try simp only [List.getElem_toArray, List.getElem_cons_succ, List.getElem_cons_zero]); first | (go_simp; done) | (go_simp; with_reducible rfl))
          try simp only [Act.put, List.getElem_toArray, List.getElem_cons_succ, List.getElem_cons_zero, List.setIfInBounds_toArray, List.set_cons_zero, List.set_cons_succ]
          refine wpAnyH_ready (rs := [10]) (by kernel_rfl) (by simp) ?_
          refine AllReadyH.cons rfl (fun K hK => ?_) AllReadyH.nil
          try simp only [List.getElem_toArray, List.getElem_cons_succ, List.getElem_cons_zero]
          go_simp
          go_at_call 34; refine (HC2.out (some ⟨gg, 0, none⟩) cc w6 q6.out t6.out).mono ?_; rintro e7 w7 ⟨rfl, hb7⟩; have k7 := keep5' hb7 k6 z6 y6; have z7 := Nat.lt_of_lt_of_le z6 hb7.size; have r7 := Lib.hid (r6.out.later hb7); have t7 := Lib.hid (t6.out.later hb7); have HB7 := Lib.hid (bstep (B := wd.heap.size) (W := wd) HB6.out (Nat.le_of_lt z6) hb7); clear hb7
          refine hK.out _ _ ?_ (fun hHeld => ?_)
          · exact k7
          clear hK K
          try simp only [Act.put, List.getElem_toArray, List.getElem_cons_succ, List.getElem_cons_zero, List.setIfInBounds_toArray, List.set_cons_zero, List.set_cons_succ]
          refine wpAnyH_take (i := 11) (v := ?_) rfl (by kernel_rfl) (by kernel_rfl) (by kernel_rfl) (fun _ _ _ h => h) (Or.inl ⟨by rfl, ?_⟩) (by assumption) ?_
          rotate_left
          · (intro w hSw; (try dsimp only at hSw); (try simp only [List.getElem_toArray, List.getElem_cons_succ, List.getElem_cons_zero]); first | (go_simp; done) | (go_simp; with_reducible rfl))
          try simp only [Act.put, List.getElem_toArray, List.getElem_cons_succ, List.getElem_cons_zero, List.setIfInBounds_toArray, List.set_cons_zero, List.set_cons_succ]
          refine wpAnyH_done (by kernel_rfl) ?_ _
          have v1 := HV1.out
          have v2 := HV2.out
          have v3 := HV3.out
          have v4 := HV4.out
          have v5 := HV5.out
          cases ht : decide (M > 0)
          · rw [ht] at hmt
            have u1 : decide ((0 : Int) < M) = false := by simpa using ht
            have u2 : decide ((0 : Int) ≤ ST) = false := by have h9 := hmt.symm; simpa using h9
            have u3 : decide (ST ≥ 0) = false := hmt.symm
            clear hmt
            go_wp2_with fail
            refine (SpanTree_any _ _ _ _ _ r7.out t7.out).mono ?_; rintro e8 w8 ⟨rfl, hb8⟩
            rw [HST.out]
            have g8 := hb8
            have HB8 := Lib.hid (bstep (B := wd.heap.size) (W := wd) HB7.out (Nat.le_of_lt z7) g8)
            clear g8 hb8
            go_wp2_with fail
            go_ret
            exact ⟨rfl, bstep HBD.out hzd HB8.out⟩
          · rw [ht] at hmt
            have u1 : decide ((0 : Int) < M) = true := by simpa using ht
            have u2 : decide ((0 : Int) ≤ ST) = true := by have h9 := hmt.symm; simpa using h9
            have u3 : decide (ST ≥ 0) = true := hmt.symm
            clear hmt
            go_wp2_with fail
            refine (SpanTree_any _ _ _ _ _ r7.out t7.out).mono ?_; rintro e8 w8 ⟨rfl, hb8⟩
            rw [HST.out]
            have g8 := hb8
            have HB8 := Lib.hid (bstep (B := wd.heap.size) (W := wd) HB7.out (Nat.le_of_lt z7) g8)
            clear g8 hb8
            go_wp2_with fail
            go_ret
            exact ⟨rfl, bstep HBD.out hzd HB8.out⟩
end Go.Proofs.YtkjheobeogkhlaaDoor
