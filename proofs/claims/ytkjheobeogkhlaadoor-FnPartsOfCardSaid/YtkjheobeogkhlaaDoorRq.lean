/- PartsOf of the model. -/
import Derived.Test.YtkjheobeogkhlaaDoorRp
import Derived.Test.YtkjheobeogkhlaaDoorWS
import Derived.Test.YtkjheobeogkhlaaDoorWF
set_option linter.unusedSimpArgs false
set_option linter.unusedVariables false
attribute [local go_sem ↓] Go.wp_at_zero Go.wp_at_succ
namespace Go.Proofs.YtkjheobeogkhlaaDoor
open Go.ChangeShapes Go.WideShapes Go.ChangeAt Go.RowKit

theorem own_below {w w' : World} {base size n : Nat} {e : TypeId} {v : Value} {xs : List Value} (h : w.ownsRow base e size v n xs) (hb : Below w.heap.size w w') : w'.ownsRow base e size v n xs := by
  refine ⟨h.1, ?_⟩
  rcases h.2 with h2 | ⟨g, cap, cur, hv, h3, h4, h5⟩
  · exact .inl h2
  · exact .inr ⟨g, cap, cur, hv, h3, (hb.block g (Array.getElem?_eq_some_iff.1 h4).1).trans h4, h5⟩
theorem rowF_of_own {w : World} {base m c1 : Nat} {e : TypeId} {A1 : Option Addr} {xs : List Value} {f : Nat → Int} (h : w.ownsRow base e 1 (.slice A1 m c1) m xs) (hf : ∀ j, j < m → xs[j]? = some (.int .i64 (f j))) : RowF w base w.heap.size A1 m f := by
  refine ⟨fun j hj => ?_, Nat.le_refl _⟩
  rcases h.2 with ⟨_, h2⟩ | ⟨g, cap, cur, hv, h3, h4, h5, h6, h7, h8⟩
  · omega
  · injection hv with hv1 hv2 hv3
    have hg := (Array.getElem?_eq_some_iff.1 h4).1
    refine ⟨g, 0, hv1, h3, hg, ?_, by simp [World.frozen?, h4]⟩
    rw [cell_of_row _ _ _ _ _ (0, 0) h4, Nat.zero_add, ← Array.getElem?_toList]
    have h9 := hf j hj
    rw [← h8, List.getElem?_take] at h9
    split at h9
    · exact h9
    · cases h9
theorem infoInt : (Tryd.prog.info? 3).map (fun i => (i.zero, i.size, i.bytes)) = some (some (.int .i64 0), 1, 8) := by kernel_rfl
theorem emptyInts (W : World) : (Instr.buildSlice 46 0 #[]).run Tryd.prog W = .ok (.slice (some ⟨W.heap.size, 0, none⟩) 0 0) (W.alloc (.cells #[] 3)) := by kernel_rfl
/-- the numbers of the first k -/
def numCells (f : Nat → Int) (k : Nat) : List Value := (List.range k).map fun j => .int .i64 (f j)
theorem numCells_snoc (f : Nat → Int) (k : Nat) : numCells f (k + 1) = numCells f k ++ [.int .i64 (f k)] := by unfold numCells; rw [List.range_succ, List.map_append]; rfl
theorem numCells_len (f : Nat → Int) (k : Nat) : (numCells f k).length = k := by unfold numCells; simp
theorem numCells_at (f : Nat → Int) {k j : Nat} (h : j < k) : (numCells f k)[j]? = some (.int .i64 (f j)) := by unfold numCells; simp [h]
theorem own_form {w : World} {base size n : Nat} {e : TypeId} {v : Value} {xs : List Value} (h : w.ownsRow base e size v n xs) : ∃ A1 c1, v = .slice A1 n c1 := by
  rcases h.2 with ⟨hv, h0⟩ | ⟨g', c, cur, hv, _⟩
  · exact ⟨none, 0, by rw [hv, h0]⟩
  · exact ⟨_, c, hv⟩

theorem newParts_none {n : Int} {ws : List Wy} {w w' : World} {e : Ending} {A1 : Option Addr} {c1 : Nat} (hl : partsLen n ws = 0) (he : e = .returned (.slice A1 0 c1)) (hb : Below w.heap.size w w') : NewParts n ws w e w' := by
  unfold NewParts
  rw [hl]
  exact ⟨A1, c1, he, RowF.none _ _ _ _ _ (Nat.le_refl _), hb⟩

set_option maxHeartbeats 2000000 in
theorem sPartsOf_any (n : Int) (A : Option Addr) (cap : Nat) (ws : List Wy) (w : World) (hr : RW w w.heap.size A ws) (hm : ws.length ≤ 1073741824) :
    Calls Tryd.prog 40 #[.agg #[.int .i64 n, .slice A ws.length cap]] w (NewParts n ws w) := by
  have HR := Lib.hid hr
  clear hr
  have hbs := emptyInts
  cases hn : netOk n ws
  · have HN := Lib.hid hn
    have hl : partsLen n ws = 0 := by unfold partsLen; rw [hn]; rfl
    have HL := Lib.hid hl
    clear hn hl
    by_cases hpos : 0 < n
    · go_enter Tryd.func40, Tryd.ntmps40
      go_wp2_with fail
      refine wp_loop_rounds 1 ?_
      rw [rounds_succ]
      go_wp2_with fail
      refine (sNetOk_any _ _ _ _ _ (HR.out.later (by go_grown)) hm).mono ?_; rintro e w1 ⟨rfl, hb1⟩
      rw [HN.out]
      have HB1 := Lib.hid (bstep (B := w.heap.size) (W := w) (by go_grown) (by go_size) hb1)
      clear hb1
      go_wp2_with fail
      go_ret
      exact newParts_none HL.out rfl HB1.out
    · go_enter Tryd.func40, Tryd.ntmps40
      go_wp2_with fail
      refine wp_loop_rounds 1 ?_
      rw [rounds_succ]
      go_wp2_with fail
      go_ret
      exact newParts_none HL.out rfl (by go_grown)
  · have HN := Lib.hid hn
    have hni := netOk_t hn
    have HS := Lib.hid hni
    have hl9 := hni.len
    have hn2 := hni.lo
    have hn6 := hni.hi
    obtain ⟨m, rfl⟩ := Int.eq_ofNat_of_zero_le (show 0 ≤ n by omega)
    have hl : partsLen (m : Int) ws = m := by unfold partsLen; rw [hn]; simp
    have hfb := full_bd ws.length hl9
    have hf0 := hfb.1
    have hf1 : full ws.length ≤ 1048576 := by omega
    have hpl := pow_bd (ws.length : Int) 9 (by omega)
    rw [Int.toNat_natCast] at hpl
    have HW1 : Hid (IntKind.i64.wrap (2 ^ ws.length) = 2 ^ ws.length) := IntWalk.i64_in _ ⟨by omega, by omega⟩
    have HW2 : Hid (wrap64 (2 ^ ws.length) = 2 ^ ws.length) := IntWalk.wrap64_in _ ⟨by omega, by omega⟩
    have HW3 : Hid (IntKind.i64.wrap (2 ^ ws.length - 1) = full ws.length) := IntWalk.i64_in _ ⟨by omega, by omega⟩
    have HW4 : Hid (wrap64 (2 ^ ws.length - 1) = full ws.length) := IntWalk.wrap64_in _ ⟨by omega, by omega⟩
    obtain ⟨i0, hi0, hz0, hz1', hz2⟩ := info_parts infoInt
    unfold NewParts
    rw [hl]
    clear hn hni hl hfb hpl
    go_enter Tryd.func40, Tryd.ntmps40
    go_wp2_with fail
    go_loopw [3, 4] (fun v i wr => ∃ k : Nat, k ≤ m ∧ i = .int .i64 k ∧ wr.cell? ⟨w.heap.size, 0, none⟩ = some (.int .i64 m) ∧ wr.cell? ⟨w.heap.size, 1, none⟩ = some (.slice A ws.length cap) ∧ Below w.heap.size w wr ∧ w.heap.size < wr.heap.size ∧ wr.ownsRow (w.heap.size + 1) 3 1 v k (numCells (partAt ws) k)) (fun _ i _ => m - (intOf i).toNat)
    case atStart => exact ⟨0, Nat.zero_le _, rfl, by go_simp, by go_simp, by go_grown, by simp; omega, by have h7 := World.ownsRow_made (base := w.heap.size + 1) (e := 3) (size := 1) (w.alloc (.cells #[.int .i64 m, .slice A ws.length cap] 25)) #[] 0 (by simp) (by unfold maxLen; omega) rfl; rw [World.size_alloc] at h7; exact h7⟩
    case round =>
      obtain ⟨k, hk, rfl, b0, b1, hb, hz, hown⟩ := hrel
      obtain ⟨A1, c1, rfl⟩ := own_form hown
      have HB0 := Lib.hid hb
      have HOWN := Lib.hid hown
      clear hb
      by_cases hlt : k < m
      · have hk0 : (0 : Int) ≤ (k : Int) := by omega
        have hk1 : (k : Int) < (m : Int) := by omega
        go_wp2_with fail
        refine (sNetOk_any _ _ _ _ _ (HR.out.later HB0.out) hm).mono ?_; rintro e w1 ⟨rfl, hb1⟩
        rw [HN.out]
        have k1 := keep2 hb1 ⟨b0, b1⟩ hz
        have z1 := Nat.lt_of_lt_of_le hz hb1.size
        have HB1 := Lib.hid (bstep (B := w.heap.size) (W := w) HB0.out (Nat.le_of_lt hz) hb1)
        have HO1 := Lib.hid (own_below HOWN.out hb1)
        have HR1 := Lib.hid (HR.out.later HB1.out)
        clear hb1 hown HOWN
        have hw1 := HW1.out
        have hw2 := HW2.out
        have hw3 := HW3.out
        have hw4 := HW4.out
        go_wp2_with fail
        refine wp_region_held_drew (S := (fun w' => w'.cell? ⟨w.heap.size, 0, none⟩ = some (.int .i64 m) ∧ w'.cell? ⟨w.heap.size, 1, none⟩ = some (.slice A ws.length cap))) (by kernel_rfl) ?_ (fun hHeld => ?_)
        · exact k1
        refine wpAnyH_take (i := 0) (v := ?_) rfl (by kernel_rfl) (by kernel_rfl) (by kernel_rfl) (fun _ _ _ h => h) (Or.inl ⟨by rfl, ?_⟩) (by assumption) ?_
        rotate_left
        · (intro w hSw; (try dsimp only at hSw); (try simp only [List.getElem_toArray, List.getElem_cons_succ, List.getElem_cons_zero]); first | (go_simp; done) | (go_simp; with_reducible rfl))
        try simp only [Act.put, List.getElem_toArray, List.getElem_cons_succ, List.getElem_cons_zero, List.setIfInBounds_toArray, List.set_cons_zero, List.set_cons_succ]
        refine wpAnyH_take (i := 1) (v := ?_) rfl (by kernel_rfl) (by kernel_rfl) (by kernel_rfl) (fun _ _ _ h => h) (Or.inl ⟨by rfl, ?_⟩) (by assumption) ?_
        rotate_left
        · (intro w hSw; (try dsimp only at hSw); (try simp only [List.getElem_toArray, List.getElem_cons_succ, List.getElem_cons_zero]); first | (go_simp; done) | (go_simp; with_reducible rfl))
        try simp only [Act.put, List.getElem_toArray, List.getElem_cons_succ, List.getElem_cons_zero, List.setIfInBounds_toArray, List.set_cons_zero, List.set_cons_succ]
        refine wpAnyH_take (i := 2) (v := ?_) rfl (by kernel_rfl) (by kernel_rfl) (by kernel_rfl) (fun _ _ _ h => h) (Or.inl ⟨by rfl, ?_⟩) (by assumption) ?_
        rotate_left
        · (intro w hSw; (try dsimp only at hSw); (try simp only [List.getElem_toArray, List.getElem_cons_succ, List.getElem_cons_zero]); first | (go_simp; done) | (go_simp; with_reducible rfl))
        try simp only [Act.put, List.getElem_toArray, List.getElem_cons_succ, List.getElem_cons_zero, List.setIfInBounds_toArray, List.set_cons_zero, List.set_cons_succ]
        refine wpAnyH_take (i := 3) (v := ?_) rfl (by kernel_rfl) (by kernel_rfl) (by kernel_rfl) (fun _ _ _ h => h) (Or.inl ⟨by rfl, ?_⟩) (by assumption) ?_
        rotate_left
        · (intro w hSw; (try dsimp only at hSw); (try simp only [List.getElem_toArray, List.getElem_cons_succ, List.getElem_cons_zero]); first | (go_simp; done) | (go_simp; with_reducible rfl))
        try simp only [Act.put, List.getElem_toArray, List.getElem_cons_succ, List.getElem_cons_zero, List.setIfInBounds_toArray, List.set_cons_zero, List.set_cons_succ]
        refine wpAnyH_take (i := 4) (v := ?_) rfl (by kernel_rfl) (by kernel_rfl) (by kernel_rfl) (fun _ _ _ h => h) (Or.inl ⟨by rfl, ?_⟩) (by assumption) ?_
        rotate_left
        · (intro w hSw; (try dsimp only at hSw); (try simp only [List.getElem_toArray, List.getElem_cons_succ, List.getElem_cons_zero]); first | (go_simp; done) | (go_simp; with_reducible rfl))
        try simp only [Act.put, List.getElem_toArray, List.getElem_cons_succ, List.getElem_cons_zero, List.setIfInBounds_toArray, List.set_cons_zero, List.set_cons_succ]
        refine wpAnyH_take (i := 5) (v := ?_) rfl (by kernel_rfl) (by kernel_rfl) (by kernel_rfl) (fun _ _ _ h => h) (Or.inl ⟨by rfl, ?_⟩) (by assumption) ?_
        rotate_left
        · (intro w hSw; (try dsimp only at hSw); (try simp only [List.getElem_toArray, List.getElem_cons_succ, List.getElem_cons_zero]); first | (go_simp; done) | (go_simp; with_reducible rfl))
        try simp only [Act.put, List.getElem_toArray, List.getElem_cons_succ, List.getElem_cons_zero, List.setIfInBounds_toArray, List.set_cons_zero, List.set_cons_succ]
        refine wpAnyH_take (i := 6) (v := ?_) rfl (by kernel_rfl) (by kernel_rfl) (by kernel_rfl) (fun _ _ _ h => h) (Or.inl ⟨by rfl, ?_⟩) (by assumption) ?_
        rotate_left
        · (intro w hSw; (try dsimp only at hSw); (try simp only [List.getElem_toArray, List.getElem_cons_succ, List.getElem_cons_zero]); first | (go_simp; done) | (go_simp; with_reducible rfl))
        try simp only [Act.put, List.getElem_toArray, List.getElem_cons_succ, List.getElem_cons_zero, List.setIfInBounds_toArray, List.set_cons_zero, List.set_cons_succ]
        refine wpAnyH_ready (rs := [7]) (by kernel_rfl) (by simp) ?_
        refine AllReadyH.cons rfl (fun K hK => ?_) AllReadyH.nil
        try simp only [List.getElem_toArray, List.getElem_cons_succ, List.getElem_cons_zero]
        go_simp
        go_at_call 80; refine (l1Reach_any m (full ws.length) k A cap ws _ (HR1.out.drewNR _) HS.out hf0 hf1 hk0 hk1).mono ?_; rintro e3 w3 ⟨rfl, hb3⟩; have g3 : Below w1.heap.size w1 w3 := und hb3; have k3 := keep2 g3 k1 z1; have z3 := Nat.lt_of_lt_of_le z1 g3.size
        refine hK.out _ _ ?_ (fun hHeld => ?_)
        · exact k3
        clear hK K
        try simp only [Act.put, List.getElem_toArray, List.getElem_cons_succ, List.getElem_cons_zero, List.setIfInBounds_toArray, List.set_cons_zero, List.set_cons_succ]
        refine wpAnyH_take (i := 8) (v := ?_) rfl (by kernel_rfl) (by kernel_rfl) (by kernel_rfl) (fun _ _ _ h => h) (Or.inl ⟨by rfl, ?_⟩) (by assumption) ?_
        rotate_left
        · (intro w hSw; (try dsimp only at hSw); (try simp only [List.getElem_toArray, List.getElem_cons_succ, List.getElem_cons_zero]); first | (go_simp; done) | (go_simp; with_reducible rfl))
        try simp only [Act.put, List.getElem_toArray, List.getElem_cons_succ, List.getElem_cons_zero, List.setIfInBounds_toArray, List.set_cons_zero, List.set_cons_succ]
        refine wpAnyH_done (by kernel_rfl) ?_ _
        have HB3 := Lib.hid (bstep (B := w.heap.size) (W := w) HB1.out (Nat.le_of_lt z1) g3)
        have HO3 := Lib.hid (own_below HO1.out g3)
        clear g3 hb3 hw1 hw2 hw3 hw4 HO1
        have hri := reach_is (s := full ws.length) HS.out hk0 (show (k : Int) < (m : Int) by omega)
        have hr0 : 0 < reach ws (full ws.length) k := by
          have h0 := hri.lo
          have hne : reach ws (full ws.length) k ≠ 0 := fun e => by have h9 := hri.has; rw [e, bit_zero_] at h9; cases h9
          omega
        have hr1 : reach ws (full ws.length) k < 1073741824 := by have := hri.hi; omega
        have hls := low_spec hr0 (by omega)
        have HP : Hid (partAt ws k = low (reach ws (full ws.length) k)) := rfl
        obtain ⟨r, hrr⟩ : ∃ r, reach ws (full ws.length) k = r := ⟨_, rfl⟩
        rw [hrr] at hr0 hr1 hls HP
        obtain ⟨L, hL⟩ := Int.eq_ofNat_of_zero_le hls.1
        rw [hL] at hls HP
        have HLS := Lib.hid hls
        have hL64 : L < 64 := by have := hls.2.1; omega
        rw [hrr]
        clear hri hrr hL hls
        go_wp2_with fail
        go_loopw [6] (fun u wr => ∃ j : Nat, j ≤ L ∧ u = .int .i64 j ∧ w3 = wr) (fun u _ => L - (intOf u).toNat)
        case atStart => exact ⟨0, Nat.zero_le _, rfl, rfl⟩
        case round =>
          obtain ⟨j, hj, rfl, rfl⟩ := hrel
          have hj0 : (0 : Int) ≤ (j : Int) := by omega
          have hqj : 0 ≤ r / 2 ^ j := (div_pow_bd r j (by omega)).1
          by_cases hlj : j < L
          · have hbz := bit_zero (i := (j : Int)) hj0 (Int.le_of_lt hr0) (HLS.out.2.2.2 j hj0 (by omega))
            rw [Int.toNat_natCast] at hbz
            have hd1 : (r / 2 ^ j % 2 == 0) = true := by rw [hbz.1]; rfl
            have hd2 : ((r / 2 ^ j).tmod 2 == 0) = true := by rw [hbz.2]; rfl
            clear hbz
            go_wp2_with fail
            go_roundw
            case rel => exact ⟨j + 1, by omega, by go_num, trivial⟩
            case measure => simp [intOf]; omega
          · have hjL : j = L := by omega
            subst hjL
            have hbz := bit_one (i := (j : Int)) hj0 (Int.le_of_lt hr0) HLS.out.2.2.1
            rw [Int.toNat_natCast] at hbz
            have hd1 : (r / 2 ^ j % 2 == 0) = false := by rw [hbz.1]; rfl
            have hd2 : ((r / 2 ^ j).tmod 2 == 0) = false := by rw [hbz.2]; rfl
            clear hbz
            go_wp2_with (at_builtin; refine wpList_append_lies _ rfl _ _ _ rfl (w.heap.size + 1) 3 i0 _ 1 8 Tryd.underlying46 hi0 hz0 hz1' hz2 rfl (by omega) (.slice A1 k c1) k (numCells (partAt ws) k) rfl (HO3.out.alloc _) ⟨w3.heap.size, 0, none⟩ 1 1 [.int .i64 j] rfl rfl (World.news_of_block (cs := #[.int .i64 j]) (t := 3) (fr := (0, 0)) (heap_alloc_new w3 _)) (by simp [Value.oneCell']) (by omega) (by unfold maxLen; omega) (by omega) (by simp; omega) (w3.heap.size + 1) (by simp) ?_; intro gg cc w5 hown5 hgrow5 hat5 hlt5)
            have hb5 : Below w.heap.size w w5 := by
              have h9 := HB3.out.alloc (Nat.le_of_lt z3) (.cells #[.int .i64 j] 3)
              refine ⟨hgrow5.os.trans h9.os, hgrow5.tape.trans h9.tape, hgrow5.output.trans h9.output, Nat.le_trans h9.size hgrow5.size, fun i hi => (hgrow5.block i (by simp; omega) (fun e => by have := (HO3.out.lt i e.symm).1; omega)).trans (h9.block i hi)⟩
            have hbx : w5.heap[w.heap.size]? = w3.heap[w.heap.size]? := (hgrow5.block w.heap.size (by simp; omega) (fun e => by have := (HO3.out.lt w.heap.size e.symm).1; omega)).trans (Below.heap_alloc _ _ _ z3)
            have HB5 := Lib.hid hb5
            have HO5 : Hid (w5.ownsRow (w.heap.size + 1) 3 1 (.slice (some ⟨gg, 0, none⟩) (k + 1) cc) (k + 1) (numCells (partAt ws) (k + 1))) := by
              show w5.ownsRow _ _ _ _ _ _
              rw [numCells_snoc, HP.out]; exact hown5
            have c0 : w5.cell? ⟨w.heap.size, 0, none⟩ = some (.int .i64 m) := (World.cell?_of_block (w := w3) hbx).trans k3.1
            have c1 : w5.cell? ⟨w.heap.size, 1, none⟩ = some (.slice A ws.length cap) := (World.cell?_of_block (w := w3) hbx).trans k3.2
            have z5 : w.heap.size < w5.heap.size := Nat.lt_of_lt_of_le (by simp; omega) hgrow5.size
            clear hown5 hgrow5 hat5 hlt5 hb5 hbx
            go_wp2_with fail
            go_roundw
            case rel => exact ⟨k + 1, by omega, by go_num, c0, c1, HB5.out, z5, HO5.out⟩
            case measure => simp [intOf]; omega
      · have hkm : k = m := by omega
        subst hkm
        clear hown
        go_wp2_with fail
        go_ret
        exact ⟨_, _, rfl, (rowF_of_own HOWN.out (fun j hj => numCells_at _ hj)).wider (Nat.le_succ _), HB0.out⟩
end Go.Proofs.YtkjheobeogkhlaaDoor
