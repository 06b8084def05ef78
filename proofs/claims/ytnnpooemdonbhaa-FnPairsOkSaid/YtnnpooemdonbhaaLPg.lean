/- The law of PairsOk: no pairs are pairs. -/
import Derived.Test.YtnnpooemdonbhaaCpI
import Derived.Test.YtnnpooemdonbhaaCpD
import Derived.Test.YtnnpooemdonbhaaWC
import Derived.Test.YtnnpooemdonbhaaMC
import Derived.Test.YtnnpooemdonbhaaME
import Derived.Test.YtnnpooemdonbhaaWRb
set_option linter.unusedSimpArgs false
set_option linter.unusedVariables false
attribute [local go_sem ↓] Go.wp_at_zero Go.wp_at_succ
namespace Go.Proofs.Ytnnpooemdonbhaa
open Go.ChangeShapes Go.WideShapes Go.ChangeAt Go.RowKit

theorem pairs_turned (n : Int) (ws : List Wy) (ps : List (Int × Int)) : pairsOk n ws (ps.map Prod.swap) = pairsOk n ws ps := by
  have h : (ps.map Prod.swap).all (prIn n) = ps.all (prIn n) := by
    rw [List.all_map]
    congr 1
    funext p
    show prIn n p.swap = prIn n p
    unfold prIn
    rw [Bool.and_comm]; rfl
  unfold pairsOk
  rw [h, List.length_map]
theorem pairs_none (n : Int) (ws : List Wy) : pairsOk n ws [] = netOk n ws := by unfold pairsOk; simp
set_option maxRecDepth 100000 in
set_option maxHeartbeats 2000000 in
theorem FnPairsOk_walk (A : Option Addr) (len cap : Nat) (w : World) (hr : RB w w.heap.size A len) (hc : len ≤ cap) (hlen : len ≤ 9223372036854775807) :
    Calls Try.prog 3 #[.slice A len cap] w fun e w' => e = .returned (.bool true) ∧ Below w.heap.size w w' := by
  have HR := Lib.hid hr
  clear hr
  by_cases hm : 1048576 < len
  · go_enter Try.func3, Try.ntmps3
    go_wp2_with fail
    go_ret
    exact ⟨rfl, Below.refl _ _⟩
  · go_enter Try.func3, Try.ntmps3
    go_wp2_with fail
    refine (DrawPairsOk_any A len cap _ HR.out hc (by omega)).mono ?_
    rintro e wd ⟨nn, A', c', ws, bc, cc, pz, rfl, hrw, hl10, hcc, hn0, hn7, hri, hpz8, hpzc, hbd⟩
    have HRW := Lib.hid hrw
    have HBD := Lib.hid hbd
    have hzd : w.heap.size ≤ wd.heap.size := hbd.size
    clear hrw hbd
    have HRI := Lib.hid hri
    have hpz9 : pz.length ≤ 1073741824 := by omega
    clear hri
    obtain ⟨Z, hZ⟩ : ∃ Z, pairsOk nn ws pz = Z := ⟨_, rfl⟩
    have HZ := Lib.hid hZ
    obtain ⟨O, hO⟩ : ∃ O, netOk nn ws = O := ⟨_, rfl⟩
    have HNOK := Lib.hid hO
    have HPT : Hid (∀ (W : World) (Ap : Option Addr) (cp : Nat), RW W W.heap.size A' ws → RC W W.heap.size Ap (pz.map Prod.swap) → Calls Try.prog 6 #[.agg #[.int .i64 nn, .slice A' ws.length c'], .slice Ap pz.length cp] W fun e w' => e = .returned (.bool Z) ∧ Below W.heap.size W w') := fun W Ap cp h1 h2 => by
      have h9 := PairsOk_any nn A' c' ws Ap cp (pz.map Prod.swap) W h1 h2 (by rw [List.length_map]; omega)
      rw [pairs_turned, hZ, List.length_map] at h9
      exact h9
    have HPE : Hid (∀ (W : World) (Ap : Option Addr) (cp : Nat), RW W W.heap.size A' ws → Calls Try.prog 6 #[.agg #[.int .i64 nn, .slice A' ws.length c'], .slice Ap 0 cp] W fun e w' => e = .returned (.bool O) ∧ Below W.heap.size W w') := fun W Ap cp h1 => by
      have h9 := PairsOk_any nn A' c' ws Ap cp [] W h1 (RC.nil_ _ _) (by simp)
      rw [pairs_none, hO] at h9
      exact h9
    clear hZ hO
    obtain ⟨m, rfl⟩ : ∃ m : Nat, nn = m := ⟨nn.toNat, by omega⟩
    obtain ⟨i0, hi0, hz0, hz1', hz2⟩ := info_parts infoPairD
    have hbs := noPairs
    go_wp2_with fail
    refine (PairsOk_any _ _ _ _ _ _ _ _ (HRW.out.later (by go_grown)) (HRI.out.later (by go_grown)) hpz9).mono ?_; rintro e w1 ⟨rfl, hb1⟩
    rw [HZ.out]
    obtain ⟨hc1, hf1⟩ := bcell hb1
    have hz1_0 : wd.heap.size < w1.heap.size := by have hq := hb1.size; (try simp at hq); omega
    have HK1 := Lib.hid hb1
    have HB1 := Lib.hid (bstep (B := wd.heap.size) (W := wd) (by (try have hp := HB0.out); go_grown) (by go_size) hb1); clear hb1
    go_wp2_with fail
    refine (sPairsOk_any _ _ _ _ _ _ _ _ (HRW.out.later (by have := HB1.out; go_grown)) (by omega) (HRI.out.later (by have := HB1.out; go_grown)) hpz9).mono ?_; rintro e w2 ⟨rfl, hb2⟩
    rw [HZ.out]
    obtain ⟨hc2, hf2⟩ := bcell hb2
    have hz2_0 : wd.heap.size < w2.heap.size := by have hq := hb2.size; (try simp at hq); omega
    have HK2 := Lib.hid hb2
    have HB2 := Lib.hid (bstep (B := wd.heap.size) (W := wd) (by have hp := HB1.out; go_grown) (by go_size) hb2); clear hb2
    have k2 : w2.cell? ⟨wd.heap.size, 0, none⟩ = some (.int .i64 m) ∧ w2.cell? ⟨wd.heap.size, 1, none⟩ = some (.slice A' ws.length c') := ⟨by go_simp, by go_simp⟩
    clear hc1 hf1 hc2 hf2 HB1 HK1 HK2
    obtain ⟨k20, k21⟩ := k2
    obtain ⟨B, hB⟩ : ∃ B, w2.heap.size = B := ⟨_, rfl⟩
    have hwB : wd.heap.size < B := by omega
    have q0 := (World.cell?_alloc_lt w2 (.cells #[] 31) ⟨wd.heap.size, 0, none⟩ hz2_0).trans k20
    have q1 := (World.cell?_alloc_lt w2 (.cells #[] 31) ⟨wd.heap.size, 1, none⟩ hz2_0).trans k21
    have HB3 := Lib.hid (HB2.out.alloc (Nat.le_of_lt hz2_0) (.cells #[] 31))
    have HO3 : Hid ((w2.alloc (.cells #[] 31)).ownsRow B 31 2 (.slice (some ⟨B, 0, none⟩) 0 0) 0 []) := by
      rw [← hB]
      exact ⟨rfl, .inr ⟨w2.heap.size, 0, #[], rfl, Nat.le_refl _, heap_alloc_new _ _, Nat.le_refl _, Nat.zero_le _, rfl, rfl⟩⟩
    have hz3 : B + 1 ≤ (w2.alloc (.cells #[] 31)).heap.size := by simp; omega
    have hbcB : bc < B ∨ pz.length = 0 := by
      by_cases h : pz.length = 0
      · exact .inr h
      · obtain ⟨b, o, e9, hB9, -, -⟩ := HRI.out 0 _ (List.getElem?_eq_getElem (by omega))
        injection e9 with e9; injection e9 with e91 e92; subst e91
        exact .inl (by omega)
    clear k20 k21
    go_wp2_with fail
    go_loopw [6, 7] (fun v i wr => ∃ k : Nat, k ≤ pz.length ∧ i = .int .i64 k ∧ (∃ g1 c1, v = .slice (some ⟨g1, 0, none⟩) k c1) ∧ wr.ownsRow B 31 2 v k (ctCells ((pz.take k).map Prod.swap)) ∧ wr.cell? ⟨wd.heap.size, 0, none⟩ = some (.int .i64 m) ∧ wr.cell? ⟨wd.heap.size, 1, none⟩ = some (.slice A' ws.length c') ∧ Below wd.heap.size wd wr ∧ B < wr.heap.size) (fun _ i _ => pz.length - (intOf i).toNat)
    case atStart => exact ⟨0, Nat.zero_le _, rfl, ⟨B, 0, rfl⟩, HO3.out, q0, q1, HB3.out, by omega⟩
    case round =>
      clear q0 q1 HB3 HO3 hz3 HB2 hz2_0 hz1_0 hB hbs
      obtain ⟨k, hk, rfl, ⟨g1, c1, hv⟩, how, b0, b1, hb, hzB⟩ := hrel
      (try injection hv with hv1 hv2 hv3)
      (try subst hv)
      (try subst hv1)
      (try subst hv3)
      have HB0 := Lib.hid hb
      have HOW := Lib.hid how
      have hz : wd.heap.size < wr.heap.size := by omega
      clear hb how
      by_cases hlk : k < pz.length
      · obtain ⟨⟨pa, pb⟩, hx⟩ : ∃ x, pz[k]? = some x := ⟨_, List.getElem?_eq_getElem hlk⟩
        obtain ⟨b, o, e9, hB9, c0, c1'⟩ := (HRI.out.below HB0.out).at_ hx
        injection e9 with e9; injection e9 with e91 e92; subst e91; subst e92
        simp only [Nat.zero_add] at c0 c1'
        have hbB : bc < B := by omega
        have hbw : bc < wr.heap.size := by omega
        have k0 : (0 : Int) ≤ (k : Int) := by omega
        have k1 : (k : Int) < (pz.length : Int) := by omega
        have HCT : Hid (ctCells ((pz.take (k + 1)).map Prod.swap) = ctCells ((pz.take k).map Prod.swap) ++ [.int .i64 pb, .int .i64 pa]) := by
          show _ = _
          rw [List.take_add_one, hx, List.map_append]
          exact ctCells_snoc _ _
        clear hx
        go_wp2_with fail
        refine wp_region_held_drew (S := (fun w' => w'.cell? ⟨bc, k * 2, none⟩ = some (.int .i64 pa) ∧ w'.cell? ⟨bc, k * 2 + 1, none⟩ = some (.int .i64 pb))) (by kernel_rfl) ?_ (fun hHeld => ?_)
        · exact ⟨c0, c1'⟩
        refine wpAnyH_take (i := 0) (v := ?_) rfl (by kernel_rfl) (by kernel_rfl) (by kernel_rfl) (fun _ _ _ h => h) (Or.inl ⟨by rfl, ?_⟩) (by assumption) ?_
        rotate_left
        · (intro w hSw; (try dsimp only at hSw); (try simp only [List.getElem_toArray, List.getElem_cons_succ, List.getElem_cons_zero]); first | (go_simp; done) | (go_simp; with_reducible rfl))
        try simp only [Act.put, List.getElem_toArray, List.getElem_cons_succ, List.getElem_cons_zero, List.setIfInBounds_toArray, List.set_cons_zero, List.set_cons_succ]
        refine wpAnyH_take (i := 1) (v := ?_) rfl (by kernel_rfl) (by kernel_rfl) (by kernel_rfl) (fun _ _ _ h => h) (Or.inl ⟨by rfl, ?_⟩) (by assumption) ?_
        rotate_left
        · (intro w hSw; (try dsimp only at hSw); (try simp only [List.getElem_toArray, List.getElem_cons_succ, List.getElem_cons_zero]); first | (go_simp; done) | (go_simp; with_reducible rfl))
        try simp only [Act.put, List.getElem_toArray, List.getElem_cons_succ, List.getElem_cons_zero, List.setIfInBounds_toArray, List.set_cons_zero, List.set_cons_succ]
        refine wpAnyH_take (i := 2) (v := ?_) rfl (by kernel_rfl) (by kernel_rfl) (by kernel_rfl) (fun _ _ _ h => h) (Or.inl ⟨by rfl, ?_⟩) (by assumption) ?_
        rotate_left
        · (intro w hSw; (try dsimp only at hSw); (try simp only [List.getElem_toArray, List.getElem_cons_succ, List.getElem_cons_zero]); first | (go_simp; done) | (go_simp; with_reducible rfl))
        try simp only [Act.put, List.getElem_toArray, List.getElem_cons_succ, List.getElem_cons_zero, List.setIfInBounds_toArray, List.set_cons_zero, List.set_cons_succ]
        refine wpAnyH_take (i := 3) (v := ?_) rfl (by kernel_rfl) (by kernel_rfl) (by kernel_rfl) (fun _ _ _ h => h) (Or.inl ⟨by rfl, ?_⟩) (by assumption) ?_
        rotate_left
        · (intro w hSw; (try dsimp only at hSw); (try simp only [List.getElem_toArray, List.getElem_cons_succ, List.getElem_cons_zero]); first | (go_simp; done) | (go_simp; with_reducible rfl))
        try simp only [Act.put, List.getElem_toArray, List.getElem_cons_succ, List.getElem_cons_zero, List.setIfInBounds_toArray, List.set_cons_zero, List.set_cons_succ]
        refine wpAnyH_take (i := 4) (v := ?_) rfl (by kernel_rfl) (by kernel_rfl) (by kernel_rfl) (fun _ _ _ h => h) (Or.inl ⟨by rfl, ?_⟩) (by assumption) ?_
        rotate_left
        · (intro w hSw; (try dsimp only at hSw); (try simp only [List.getElem_toArray, List.getElem_cons_succ, List.getElem_cons_zero]); first | (go_simp; done) | (go_simp; with_reducible rfl))
        try simp only [Act.put, List.getElem_toArray, List.getElem_cons_succ, List.getElem_cons_zero, List.setIfInBounds_toArray, List.set_cons_zero, List.set_cons_succ]
        refine wpAnyH_take (i := 5) (v := ?_) rfl (by kernel_rfl) (by kernel_rfl) (by kernel_rfl) (fun _ _ _ h => h) (Or.inl ⟨by rfl, ?_⟩) (by assumption) ?_
        rotate_left
        · (intro w hSw; (try dsimp only at hSw); (try simp only [List.getElem_toArray, List.getElem_cons_succ, List.getElem_cons_zero]); first | (go_simp; done) | (go_simp; with_reducible rfl))
        try simp only [Act.put, List.getElem_toArray, List.getElem_cons_succ, List.getElem_cons_zero, List.setIfInBounds_toArray, List.set_cons_zero, List.set_cons_succ]
        refine wpAnyH_take (i := 6) (v := ?_) rfl (by kernel_rfl) (by kernel_rfl) (by kernel_rfl) (fun _ _ _ h => h) (Or.inl ⟨by rfl, ?_⟩) (by assumption) ?_
        rotate_left
        · (intro w hSw; (try dsimp only at hSw); (try simp only [List.getElem_toArray, List.getElem_cons_succ, List.getElem_cons_zero]); first | (go_simp; done) | (go_simp; with_reducible rfl))
        try simp only [Act.put, List.getElem_toArray, List.getElem_cons_succ, List.getElem_cons_zero, List.setIfInBounds_toArray, List.set_cons_zero, List.set_cons_succ]
        refine wpAnyH_take (i := 7) (v := ?_) rfl (by kernel_rfl) (by kernel_rfl) (by kernel_rfl) (fun _ _ _ h => h) (Or.inl ⟨by rfl, ?_⟩) (by assumption) ?_
        rotate_left
        · (intro w hSw; (try dsimp only at hSw); (try simp only [List.getElem_toArray, List.getElem_cons_succ, List.getElem_cons_zero]); first | (go_simp; done) | (go_simp; with_reducible rfl))
        try simp only [Act.put, List.getElem_toArray, List.getElem_cons_succ, List.getElem_cons_zero, List.setIfInBounds_toArray, List.set_cons_zero, List.set_cons_succ]
        refine wpAnyH_take (i := 8) (v := ?_) rfl (by kernel_rfl) (by kernel_rfl) (by kernel_rfl) (fun _ _ _ h => h) (Or.inl ⟨by rfl, ?_⟩) (by assumption) ?_
        rotate_left
        · (intro w hSw; (try dsimp only at hSw); (try simp only [List.getElem_toArray, List.getElem_cons_succ, List.getElem_cons_zero]); first | (go_simp; done) | (go_simp; with_reducible rfl))
        try simp only [Act.put, List.getElem_toArray, List.getElem_cons_succ, List.getElem_cons_zero, List.setIfInBounds_toArray, List.set_cons_zero, List.set_cons_succ]
        refine wpAnyH_take (i := 9) (v := ?_) rfl (by kernel_rfl) (by kernel_rfl) (by kernel_rfl) (fun _ _ _ h => h) (Or.inl ⟨by rfl, ?_⟩) (by assumption) ?_
        rotate_left
        · (intro w hSw; (try dsimp only at hSw); (try simp only [List.getElem_toArray, List.getElem_cons_succ, List.getElem_cons_zero]); first | (go_simp; done) | (go_simp; with_reducible rfl))
        try simp only [Act.put, List.getElem_toArray, List.getElem_cons_succ, List.getElem_cons_zero, List.setIfInBounds_toArray, List.set_cons_zero, List.set_cons_succ]
        refine wpAnyH_take (i := 10) (v := ?_) rfl (by kernel_rfl) (by kernel_rfl) (by kernel_rfl) (fun _ _ _ h => h) (Or.inl ⟨by rfl, ?_⟩) (by assumption) ?_
        rotate_left
        · (intro w hSw; (try dsimp only at hSw); (try simp only [List.getElem_toArray, List.getElem_cons_succ, List.getElem_cons_zero]); first | (go_simp; done) | (go_simp; with_reducible rfl))
        try simp only [Act.put, List.getElem_toArray, List.getElem_cons_succ, List.getElem_cons_zero, List.setIfInBounds_toArray, List.set_cons_zero, List.set_cons_succ]
        refine wpAnyH_take (i := 11) (v := ?_) rfl (by kernel_rfl) (by kernel_rfl) (by kernel_rfl) (fun _ _ _ h => h) (Or.inl ⟨by rfl, ?_⟩) (by assumption) ?_
        rotate_left
        · (intro w hSw; (try dsimp only at hSw); (try simp only [List.getElem_toArray, List.getElem_cons_succ, List.getElem_cons_zero]); first | (go_simp; done) | (go_simp; with_reducible rfl))
        try simp only [Act.put, List.getElem_toArray, List.getElem_cons_succ, List.getElem_cons_zero, List.setIfInBounds_toArray, List.set_cons_zero, List.set_cons_succ]
        refine wpAnyH_ready (rs := [12]) (by kernel_rfl) (by simp) ?_
        refine AllReadyH.cons rfl (fun K hK => ?_) AllReadyH.nil
        try simp only [List.getElem_toArray, List.getElem_cons_succ, List.getElem_cons_zero]
        go_simp

        refine hK.out _ _ ?_ (fun hHeld => ?_)
        · exact ⟨(World.cell?_alloc_lt _ _ _ hbw).trans c0, (World.cell?_alloc_lt _ _ _ hbw).trans c1'⟩
        clear hK K
        try simp only [Act.put, List.getElem_toArray, List.getElem_cons_succ, List.getElem_cons_zero, List.setIfInBounds_toArray, List.set_cons_zero, List.set_cons_succ]
        refine wpAnyH_ready (rs := [13]) (by kernel_rfl) (by simp) ?_
        refine AllReadyH.cons rfl (fun K hK => ?_) AllReadyH.nil
        refine step_append_lies _ (by rfl) _ _ _ (by rfl) B 31 i0 _ 2 16 Try.underlying26 hi0 hz0 hz1' hz2 rfl (by decide) (.slice (some ⟨g1, 0, none⟩) k c1) k (ctCells ((pz.take k).map Prod.swap)) (by rfl) (World.ownsRow.alloc HOW.out _) ⟨wr.heap.size, 0, none⟩ 1 1 [.int .i64 pb, .int .i64 pa] (by rfl) (by rfl) (World.news_of_block (cs := #[.int .i64 pb, .int .i64 pa]) (t := 31) (fr := (0, 0)) (heap_alloc_new wr.drew _)) (by simp [Value.oneCell']) (by omega) (by unfold maxLen; omega) (by omega) (by show B ≤ _; simp; omega) (wr.heap.size + 1) (by simp) ?_; intro gg cg w9 hown9 hgrow9 hat9 hlt9
        have hlo9 := HOW.out.lt
        have hblk9 : ∀ i, i < B → w9.heap[i]? = wr.heap[i]? := fun i hi => (hgrow9.block i (by simp; omega) (fun e => by have := (hlo9 i e.symm).1; omega)).trans (Below.heap_alloc _ _ _ (by show i < wr.heap.size; omega))
        have hs9 : wr.heap.size + 1 ≤ w9.heap.size := by have := hgrow9.size; simpa using this
        have HB9 : Hid (Below wd.heap.size wd w9) := by
          have h9 := HB0.out
          exact ⟨hgrow9.os.trans h9.os, hgrow9.tape.trans h9.tape, hgrow9.output.trans h9.output, by have := h9.size; omega, fun i hi => (hblk9 i (by omega)).trans (h9.block i hi)⟩
        have HOW9 := Lib.hid hown9
        have y90 := (World.cell?_of_block (w := wr) (hblk9 bc hbB)).trans c0
        have y91 := (World.cell?_of_block (w := wr) (hblk9 bc hbB)).trans c1'
        have x90 := (World.cell?_of_block (w := wr) (hblk9 wd.heap.size hwB)).trans b0
        have x91 := (World.cell?_of_block (w := wr) (hblk9 wd.heap.size hwB)).trans b1
        clear hown9 hgrow9 hat9 hlt9 hlo9 hblk9
        refine hK.out _ _ ?_ (fun hHeld => ?_)
        · exact ⟨y90, y91⟩
        clear hK K
        try simp only [Act.put, List.getElem_toArray, List.getElem_cons_succ, List.getElem_cons_zero, List.setIfInBounds_toArray, List.set_cons_zero, List.set_cons_succ]
        refine wpAnyH_take (i := 14) (v := ?_) rfl (by kernel_rfl) (by kernel_rfl) (by kernel_rfl) (fun _ _ _ h => h) (Or.inl ⟨by rfl, ?_⟩) (by assumption) ?_
        rotate_left
        · (intro w hSw; (try dsimp only at hSw); (try simp only [List.getElem_toArray, List.getElem_cons_succ, List.getElem_cons_zero]); first | (go_simp; done) | (go_simp; with_reducible rfl))
        try simp only [Act.put, List.getElem_toArray, List.getElem_cons_succ, List.getElem_cons_zero, List.setIfInBounds_toArray, List.set_cons_zero, List.set_cons_succ]
        refine wpAnyH_done (by kernel_rfl) ?_ _
        go_wp2_with fail
        go_roundw
        case rel => exact ⟨k + 1, by omega, by go_num, ⟨gg, cg, rfl⟩, by rw [HCT.out]; exact HOW9.out, x90, x91, HB9.out, by omega⟩
        case measure => (simp [intOf]) <;> omega
      · obtain rfl : k = pz.length := by omega
        rw [List.take_length] at HOW
        have hro : RC wr wr.heap.size (some ⟨g1, 0, none⟩) (pz.map Prod.swap) := by
          have h9 := HOW.out
          have h8 : wr.ownsRow B 31 2 (.slice (some ⟨g1, 0, none⟩) (pz.map Prod.swap).length c1) (pz.map Prod.swap).length (ctCells (pz.map Prod.swap)) := by rw [List.length_map]; exact h9
          exact rc_of_own h8
        have HIR := Lib.hid hro
        have HRR := Lib.hid (HRW.out.later HB0.out)
        have hbs := noPairs
        clear hro HOW
        go_wp2_with fail
        refine wp_region_held_drew (S := (fun w' => w'.cell? ⟨wd.heap.size, 0, none⟩ = some (.int .i64 m) ∧ w'.cell? ⟨wd.heap.size, 1, none⟩ = some (.slice A' ws.length c'))) (by kernel_rfl) ?_ (fun hHeld => ?_)
        · exact ⟨b0, b1⟩
        refine wpAnyH_take (i := 0) (v := ?_) rfl (by kernel_rfl) (by kernel_rfl) (by kernel_rfl) (fun _ _ _ h => h) (Or.inl ⟨by rfl, ?_⟩) (by assumption) ?_
        rotate_left
        · (intro w hSw; (try dsimp only at hSw); (try simp only [List.getElem_toArray, List.getElem_cons_succ, List.getElem_cons_zero]); first | (go_simp; done) | (go_simp; with_reducible rfl))
        try simp only [Act.put, List.getElem_toArray, List.getElem_cons_succ, List.getElem_cons_zero, List.setIfInBounds_toArray, List.set_cons_zero, List.set_cons_succ]
        refine wpAnyH_take (i := 1) (v := ?_) rfl (by kernel_rfl) (by kernel_rfl) (by kernel_rfl) (fun _ _ _ h => h) (Or.inl ⟨by rfl, ?_⟩) (by assumption) ?_
        rotate_left
        · (intro w hSw; (try dsimp only at hSw); (try simp only [List.getElem_toArray, List.getElem_cons_succ, List.getElem_cons_zero]); first | (go_simp; done) | (go_simp; with_reducible rfl))
        try simp only [Act.put, List.getElem_toArray, List.getElem_cons_succ, List.getElem_cons_zero, List.setIfInBounds_toArray, List.set_cons_zero, List.set_cons_succ]
        refine wpAnyH_take (i := 3) (v := ?_) rfl (by kernel_rfl) (by kernel_rfl) (by kernel_rfl) (fun _ _ _ h => h) (Or.inl ⟨by rfl, ?_⟩) (by assumption) ?_
        rotate_left
        · (intro w hSw; (try dsimp only at hSw); (try simp only [List.getElem_toArray, List.getElem_cons_succ, List.getElem_cons_zero]); first | (go_simp; done) | (go_simp; with_reducible rfl))
        try simp only [Act.put, List.getElem_toArray, List.getElem_cons_succ, List.getElem_cons_zero, List.setIfInBounds_toArray, List.set_cons_zero, List.set_cons_succ]
        refine wpAnyH_ready (rs := [2]) (by kernel_rfl) (by simp) ?_
        refine AllReadyH.cons rfl (fun K hK => ?_) AllReadyH.nil
        try simp only [List.getElem_toArray, List.getElem_cons_succ, List.getElem_cons_zero]
        go_simp
        go_at_call 6; refine (HPT.out _ _ _ (HRR.out.drewNR _) (HIR.out.drewNR _)).mono ?_; rintro e11 w11 ⟨rfl, hb11⟩; have gg11 : Below wr.heap.size wr w11 := und hb11; have g11 := gg11; have k11 := keep2 gg11 ⟨b0, b1⟩ hz; have z11 := Nat.lt_of_lt_of_le hz gg11.size; have r11 := Lib.hid (HRR.out.later g11)
        refine hK.out _ _ ?_ (fun hHeld => ?_)
        · exact k11
        clear hK K
        try simp only [Act.put, List.getElem_toArray, List.getElem_cons_succ, List.getElem_cons_zero, List.setIfInBounds_toArray, List.set_cons_zero, List.set_cons_succ]
        refine wpAnyH_take (i := 4) (v := ?_) rfl (by kernel_rfl) (by kernel_rfl) (by kernel_rfl) (fun _ _ _ h => h) (Or.inl ⟨by rfl, ?_⟩) (by assumption) ?_
        rotate_left
        · (intro w hSw; (try dsimp only at hSw); (try simp only [List.getElem_toArray, List.getElem_cons_succ, List.getElem_cons_zero]); first | (go_simp; done) | (go_simp; with_reducible rfl))
        try simp only [Act.put, List.getElem_toArray, List.getElem_cons_succ, List.getElem_cons_zero, List.setIfInBounds_toArray, List.set_cons_zero, List.set_cons_succ]
        refine wpAnyH_take (i := 5) (v := ?_) rfl (by kernel_rfl) (by kernel_rfl) (by kernel_rfl) (fun _ _ _ h => h) (Or.inl ⟨by rfl, ?_⟩) (by assumption) ?_
        rotate_left
        · (intro w hSw; (try dsimp only at hSw); (try simp only [List.getElem_toArray, List.getElem_cons_succ, List.getElem_cons_zero]); first | (go_simp; done) | (go_simp; with_reducible rfl))
        try simp only [Act.put, List.getElem_toArray, List.getElem_cons_succ, List.getElem_cons_zero, List.setIfInBounds_toArray, List.set_cons_zero, List.set_cons_succ]
        refine wpAnyH_take (i := 6) (v := ?_) rfl (by kernel_rfl) (by kernel_rfl) (by kernel_rfl) (fun _ _ _ h => h) (Or.inl ⟨by rfl, ?_⟩) (by assumption) ?_
        rotate_left
        · (intro w hSw; (try dsimp only at hSw); (try simp only [List.getElem_toArray, List.getElem_cons_succ, List.getElem_cons_zero]); first | (go_simp; done) | (go_simp; with_reducible rfl))
        try simp only [Act.put, List.getElem_toArray, List.getElem_cons_succ, List.getElem_cons_zero, List.setIfInBounds_toArray, List.set_cons_zero, List.set_cons_succ]
        refine wpAnyH_take (i := 9) (v := ?_) rfl (by kernel_rfl) (by kernel_rfl) (by kernel_rfl) (fun _ _ _ h => h) (Or.inl ⟨by rfl, ?_⟩) (by assumption) ?_
        rotate_left
        · (intro w hSw; (try dsimp only at hSw); (try simp only [List.getElem_toArray, List.getElem_cons_succ, List.getElem_cons_zero]); first | (go_simp; done) | (go_simp; with_reducible rfl))
        try simp only [Act.put, List.getElem_toArray, List.getElem_cons_succ, List.getElem_cons_zero, List.setIfInBounds_toArray, List.set_cons_zero, List.set_cons_succ]
        refine wpAnyH_ready (rs := [7]) (by kernel_rfl) (by simp) ?_
        refine AllReadyH.cons rfl (fun K hK => ?_) AllReadyH.nil
        try simp only [List.getElem_toArray, List.getElem_cons_succ, List.getElem_cons_zero]
        go_simp

        refine hK.out _ _ ?_ (fun hHeld => ?_)
        · exact ⟨(World.cell?_alloc_lt _ _ _ z11).trans k11.1, (World.cell?_alloc_lt _ _ _ z11).trans k11.2⟩
        clear hK K
        try simp only [Act.put, List.getElem_toArray, List.getElem_cons_succ, List.getElem_cons_zero, List.setIfInBounds_toArray, List.set_cons_zero, List.set_cons_succ]
        refine wpAnyH_ready (rs := [8]) (by kernel_rfl) (by simp) ?_
        refine AllReadyH.cons rfl (fun K hK => ?_) AllReadyH.nil
        try simp only [List.getElem_toArray, List.getElem_cons_succ, List.getElem_cons_zero]
        go_simp
        go_at_call 6; refine (HPE.out (w11.alloc (.cells #[] 31)) _ _ (r11.out.later ((Below.refl _ _).alloc (Nat.le_refl _) _))).mono ?_; rintro e12 w12 ⟨rfl, hb12⟩; have gg12 : Below w11.heap.size w11 w12 := bstep ((Below.refl w11.heap.size w11).alloc (Nat.le_refl _) (.cells #[] 31)) (by simp) hb12; have g12 : Below wr.heap.size wr w12 := bstep g11 g11.size gg12; have k12 := keep2 gg12 k11 z11; have z12 := Nat.lt_of_lt_of_le z11 gg12.size; have r12 := Lib.hid (HRR.out.later g12)
        refine hK.out _ _ ?_ (fun hHeld => ?_)
        · exact k12
        clear hK K
        try simp only [Act.put, List.getElem_toArray, List.getElem_cons_succ, List.getElem_cons_zero, List.setIfInBounds_toArray, List.set_cons_zero, List.set_cons_succ]
        refine wpAnyH_ready (rs := [10]) (by kernel_rfl) (by simp) ?_
        refine AllReadyH.cons rfl (fun K hK => ?_) AllReadyH.nil
        try simp only [List.getElem_toArray, List.getElem_cons_succ, List.getElem_cons_zero]
        go_simp
        go_at_call 8; refine (NetOk_any _ _ _ _ w12 (r12.out)).mono ?_; rintro e13 w13 ⟨rfl, hb13⟩; rw [HNOK.out]; have gg13 : Below w12.heap.size w12 w13 := hb13; have g13 : Below wr.heap.size wr w13 := bstep g12 g12.size gg13; have k13 := keep2 gg13 k12 z12; have z13 := Nat.lt_of_lt_of_le z12 gg13.size; have r13 := Lib.hid (HRR.out.later g13)
        refine hK.out _ _ ?_ (fun hHeld => ?_)
        · exact k13
        clear hK K
        try simp only [Act.put, List.getElem_toArray, List.getElem_cons_succ, List.getElem_cons_zero, List.setIfInBounds_toArray, List.set_cons_zero, List.set_cons_succ]
        refine wpAnyH_take (i := 11) (v := ?_) rfl (by kernel_rfl) (by kernel_rfl) (by kernel_rfl) (fun _ _ _ h => h) (Or.inl ⟨by rfl, ?_⟩) (by assumption) ?_
        rotate_left
        · (intro w hSw; (try dsimp only at hSw); (try simp only [List.getElem_toArray, List.getElem_cons_succ, List.getElem_cons_zero]); first | (go_simp; done) | (go_simp; with_reducible rfl))
        try simp only [Act.put, List.getElem_toArray, List.getElem_cons_succ, List.getElem_cons_zero, List.setIfInBounds_toArray, List.set_cons_zero, List.set_cons_succ]
        refine wpAnyH_take (i := 12) (v := ?_) rfl (by kernel_rfl) (by kernel_rfl) (by kernel_rfl) (fun _ _ _ h => h) (Or.inl ⟨by rfl, ?_⟩) (by assumption) ?_
        rotate_left
        · (intro w hSw; (try dsimp only at hSw); (try simp only [List.getElem_toArray, List.getElem_cons_succ, List.getElem_cons_zero]); first | (go_simp; done) | (go_simp; with_reducible rfl))
        try simp only [Act.put, List.getElem_toArray, List.getElem_cons_succ, List.getElem_cons_zero, List.setIfInBounds_toArray, List.set_cons_zero, List.set_cons_succ]
        refine wpAnyH_take (i := 13) (v := ?_) rfl (by kernel_rfl) (by kernel_rfl) (by kernel_rfl) (fun _ _ _ h => h) (Or.inl ⟨by rfl, ?_⟩) (by assumption) ?_
        rotate_left
        · (intro w hSw; (try dsimp only at hSw); (try simp only [List.getElem_toArray, List.getElem_cons_succ, List.getElem_cons_zero]); first | (go_simp; done) | (go_simp; with_reducible rfl))
        try simp only [Act.put, List.getElem_toArray, List.getElem_cons_succ, List.getElem_cons_zero, List.setIfInBounds_toArray, List.set_cons_zero, List.set_cons_succ]
        refine wpAnyH_ready (rs := [14]) (by kernel_rfl) (by simp) ?_
        refine AllReadyH.cons rfl (fun K hK => ?_) AllReadyH.nil
        try simp only [List.getElem_toArray, List.getElem_cons_succ, List.getElem_cons_zero]
        go_simp
        go_at_call 9; refine (alive_any w13).mono ?_; rintro e14 w14 ⟨rfl, hb14⟩; have gg14 : Below w13.heap.size w13 w14 := hb14; have g14 : Below wr.heap.size wr w14 := bstep g13 g13.size gg14; have k14 := keep2 gg14 k13 z13; have z14 := Nat.lt_of_lt_of_le z13 gg14.size; have r14 := Lib.hid (HRR.out.later g14)
        refine hK.out _ _ ?_ (fun hHeld => ?_)
        · exact k14
        clear hK K
        try simp only [Act.put, List.getElem_toArray, List.getElem_cons_succ, List.getElem_cons_zero, List.setIfInBounds_toArray, List.set_cons_zero, List.set_cons_succ]
        refine wpAnyH_take (i := 15) (v := ?_) rfl (by kernel_rfl) (by kernel_rfl) (by kernel_rfl) (fun _ _ _ h => h) (Or.inl ⟨by rfl, ?_⟩) (by assumption) ?_
        rotate_left
        · (intro w hSw; (try dsimp only at hSw); (try simp only [List.getElem_toArray, List.getElem_cons_succ, List.getElem_cons_zero]); first | (go_simp; done) | (go_simp; with_reducible rfl))
        try simp only [Act.put, List.getElem_toArray, List.getElem_cons_succ, List.getElem_cons_zero, List.setIfInBounds_toArray, List.set_cons_zero, List.set_cons_succ]
        refine wpAnyH_take (i := 16) (v := ?_) rfl (by kernel_rfl) (by kernel_rfl) (by kernel_rfl) (fun _ _ _ h => h) (Or.inl ⟨by rfl, ?_⟩) (by assumption) ?_
        rotate_left
        · (intro w hSw; (try dsimp only at hSw); (try simp only [List.getElem_toArray, List.getElem_cons_succ, List.getElem_cons_zero]); first | (go_simp; done) | (go_simp; with_reducible rfl))
        try simp only [Act.put, List.getElem_toArray, List.getElem_cons_succ, List.getElem_cons_zero, List.setIfInBounds_toArray, List.set_cons_zero, List.set_cons_succ]
        refine wpAnyH_done (by kernel_rfl) ?_ _
        have HB9 := Lib.hid (bstep (B := wd.heap.size) (W := wd) HB0.out (Nat.le_of_lt hz) g14)
        go_wp2_with fail
        go_ret
        exact ⟨rfl, bstep HBD.out hzd ⟨HB9.out.os, HB9.out.tape, HB9.out.output, HB9.out.size, HB9.out.block⟩⟩
end Go.Proofs.Ytnnpooemdonbhaa
