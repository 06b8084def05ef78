/- FnTreeOk: its walk. -/
import Derived.Test.YtadhkfebokhbcaaDoorWV
import Derived.Test.YtadhkfebokhbcaaDoorDB
import Derived.Test.YtadhkfebokhbcaaDoorTree
import Derived.Test.YtadhkfebokhbcaaDoorLO
import Derived.Deep.RegionHeld3
set_option linter.unusedSimpArgs false
set_option linter.unusedVariables false
namespace Go.Proofs.YtadhkfebokhbcaaDoor
open Go.ChangeShapes Go.WideShapes Go.ChangeAt Go.RowKit

theorem nds_has (ws : List Wy) (s : Int) {n : Int} (hn : NetIs n ws) : ∀ (k j : Nat) (x : Wy), j < k → ws[j]? = some x → bit s j = true → bit (nodesTo ws s k) x.a = true
  | 0, j, _, hj, _, _ => by omega
  | k + 1, j, x, hj, hx, hb => by
    obtain ⟨a0, _, b0, _⟩ := hn.at_ hx
    cases hy : ws[k]? with
    | none =>
      have hjk : j ≠ k := fun e => by subst e; rw [hx] at hy; cases hy
      simp only [nodesTo, hy]
      exact nds_has ws s hn k j x (by omega) hx hb
    | some y =>
      by_cases hjk : j = k
      · subst hjk
        rw [hx] at hy; injection hy with hy; subst hy
        rw [nodesTo_yes hx hb, bit_ior, wayPl_is, bit_ior, bit_shl _ _ a0 a0]
        simp
      · have ih := nds_has ws s hn k j x (by omega) hx hb
        cases hbk : bit s k
        · rw [nodesTo_no hy hbk]; exact ih
        · rw [nodesTo_yes hy hbk, bit_ior, ih]
          simp
theorem nds_zero (ws : List Wy) : nds ws 0 = 0 := by
  have : ∀ k, nodesTo ws 0 k = 0 := fun k => by
    induction k with
    | zero => rfl
    | succ k ih =>
      cases hx : ws[k]? with
      | none => simp only [nodesTo, hx]; exact ih
      | some x => rw [nodesTo_no hx (bit_zero_ _)]; exact ih
  exact this _
theorem tree_joins {ws : List Wy} {s : Int} (h : tree ws s = true) : joins ws s (nds ws s) = true := by
  by_cases hs : s = 0
  · subst hs; rw [nds_zero]; exact joins_none ws 0
  · unfold tree at h
    have h0 : (s == 0) = false := by simp [hs]
    rw [h0, Bool.false_or] at h
    simp only [Bool.and_eq_true] at h
    exact h.2
theorem tree_pop {ws : List Wy} {s : Int} (h : tree ws s = true) (hs : s ≠ 0) : pop s = pop (nds ws s) - 1 := by
  unfold tree at h
  have h0 : (s == 0) = false := by simp [hs]
  rw [h0, Bool.false_or] at h
  simp only [Bool.and_eq_true, beq_iff_eq] at h
  exact h.1
theorem tree_needs {n : Int} {ws : List Wy} {s : Int} (hn : NetIs n ws) (s0 : 0 ≤ s) (s1 : s ≤ 511) (h : tree ws s = true) {k : Nat} {x : Wy} (hx : ws[k]? = some x) (hb : bit s k = true) : joins ws (s - 2 ^ k) (nds ws s) = false := by
  have hk := (List.getElem?_eq_some_iff.1 hx).1
  have hl9 := hn.len
  obtain ⟨d0, d1, d2⟩ := nds_bd hn s
  have hs : s ≠ 0 := by rintro rfl; rw [bit_zero_] at hb; cases hb
  obtain ⟨a0, _⟩ := hn.at_ hx
  exact tree_way hn s0 (by omega) d0 d2 (tree_pop h hs) (by omega) hb a0 (nds_has ws s hn ws.length k x hk hx hb)

theorem idiff_one' {u : Int} {k : Nat} (h0 : 0 ≤ u) (h1 : u < 512) (hk : k < 9) (hb : bit u k = true) : (2 : Int) ^ k ≤ u := by
  obtain ⟨x, rfl⟩ := Int.eq_ofNat_of_zero_le h0
  have hb' : x.testBit k = true := by simpa [bit] using hb
  have hge : 2 ^ k ≤ x := Nat.ge_two_pow_of_testBit hb'
  have e : ((2 : Int) ^ k) = ((2 ^ k : Nat) : Int) := by simp
  omega

set_option maxHeartbeats 4000000 in
theorem FnTreeOk_walk (A : Option Addr) (len cap : Nat) (w : World) (hr : RB w w.heap.size A len) (hc : len ≤ cap) (hlen : len ≤ 9223372036854775807) (hT : Tab w) :
    Calls Tryd.prog 6 #[.slice A len cap] w fun e w' => e = .returned (.bool true) ∧ Below w.heap.size w w' := by
  have HR := Lib.hid hr
  have HT := Lib.hid hT
  clear hr hT
  by_cases hm : 1048576 < len
  · go_enter Tryd.func6, Tryd.ntmps6
    go_wp2_with fail
    go_ret
    exact ⟨rfl, Below.refl _ _⟩
  · go_enter Tryd.func6, Tryd.ntmps6
    go_wp2_with fail
    refine (DrawTreeOk_any A len cap _ HR.out hc (by omega)).mono ?_
    rintro e wd ⟨nn, s, A', c', ws, rfl, hrw, hl10, hcc, hn0, hn7, hs0, hs1, hbd⟩
    have HRW := Lib.hid hrw
    have HBD := Lib.hid hbd
    have HTD := Lib.hid (HT.out.later hbd)
    have hzd : w.heap.size ≤ wd.heap.size := hbd.size
    clear hrw hbd
    go_wp2_with fail
    refine (TreeOk_any _ _ _ _ _ _ (HRW.out.later (by go_grown)) (HTD.out.later (by go_grown))).mono ?_; rintro e w1 ⟨rfl, hb1⟩
    obtain ⟨hc1, hf1⟩ := bcell hb1
    have hz1_0 : wd.heap.size < w1.heap.size := by have hq := hb1.size; (try simp at hq); omega
    have HK1 := Lib.hid hb1
    have HB1 := Lib.hid (bstep (B := wd.heap.size) (W := wd) (by (try have hp := HB0.out); go_grown) (by go_size) hb1); clear hb1
    go_wp2_with fail
    refine (sTreeOk_any _ _ _ _ _ _ (HRW.out.later (by have := HB1.out; go_grown)) (by omega)).mono ?_; rintro e w2 ⟨rfl, hb2⟩
    obtain ⟨hc2, hf2⟩ := bcell hb2
    have hz2_0 : wd.heap.size < w2.heap.size := by have hq := hb2.size; (try simp at hq); omega
    have HK2 := Lib.hid hb2
    have HB2 := Lib.hid (bstep (B := wd.heap.size) (W := wd) (by have hp := HB1.out; go_grown) (by go_size) hb2); clear hb2
    cases hno : netOk nn ws
    · have HNO := Lib.hid hno
      have hj : treeOk nn ws s = false := by unfold treeOk setOk; rw [hno]; rfl
      rw [hj]
      clear hj hno
      go_wp2_with fail
      refine (sNetOk_any _ _ _ _ _ (HRW.out.later (by have := HB2.out; go_grown)) (by omega)).mono ?_; rintro e w3 ⟨rfl, hb3⟩
      rw [HNO.out]
      obtain ⟨hc3, hf3⟩ := bcell hb3
      have hz3_0 : wd.heap.size < w3.heap.size := by have hq := hb3.size; (try simp at hq); omega
      have HK3 := Lib.hid hb3
      have HB3 := Lib.hid (bstep (B := wd.heap.size) (W := wd) (by have hp := HB2.out; go_grown) (by go_size) hb3); clear hb3
      go_wp2_with fail
      refine (alive_any _).mono ?_; rintro e w4 ⟨rfl, hb4⟩
      obtain ⟨hc4, hf4⟩ := bcell hb4
      have hz4_0 : wd.heap.size < w4.heap.size := by have hq := hb4.size; (try simp at hq); omega
      have HK4 := Lib.hid hb4
      have HB4 := Lib.hid (bstep (B := wd.heap.size) (W := wd) (by have hp := HB3.out; go_grown) (by go_size) hb4); clear hb4
      go_wp2_with fail
      go_ret
      exact ⟨rfl, bstep HBD.out hzd HB4.out⟩
    · have HNO := Lib.hid hno
      have hni := netOk_t hno
      have HNI := Lib.hid hni
      have hl9 := hni.len
      have hn2 := hni.lo
      have hn6 := hni.hi
      have hpl := pow_bd (ws.length : Int) 9 (by omega)
      rw [Int.toNat_natCast] at hpl
      by_cases hsl : 2 ^ ws.length ≤ s
      · have hj : treeOk nn ws s = false := by
          have : decide (s ≤ full ws.length) = false := by unfold full; simp; omega
          unfold treeOk setOk; rw [this]; simp
        rw [hj]
        clear hj hno hni
        go_wp2_with fail
        refine (sNetOk_any _ _ _ _ _ (HRW.out.later (by have := HB2.out; go_grown)) (by omega)).mono ?_; rintro e w3 ⟨rfl, hb3⟩
        rw [HNO.out]
        obtain ⟨hc3, hf3⟩ := bcell hb3
        have hz3_0 : wd.heap.size < w3.heap.size := by have hq := hb3.size; (try simp at hq); omega
        have HK3 := Lib.hid hb3
        have HB3 := Lib.hid (bstep (B := wd.heap.size) (W := wd) (by have hp := HB2.out; go_grown) (by go_size) hb3); clear hb3
        go_wp2_with fail
        refine (alive_any _).mono ?_; rintro e w4 ⟨rfl, hb4⟩
        obtain ⟨hc4, hf4⟩ := bcell hb4
        have hz4_0 : wd.heap.size < w4.heap.size := by have hq := hb4.size; (try simp at hq); omega
        have HK4 := Lib.hid hb4
        have HB4 := Lib.hid (bstep (B := wd.heap.size) (W := wd) (by have hp := HB3.out; go_grown) (by go_size) hb4); clear hb4
        go_wp2_with fail
        go_ret
        exact ⟨rfl, bstep HBD.out hzd HB4.out⟩
      · have hsf : s ≤ full ws.length := by unfold full; omega
        have hs511 : s ≤ 511 := by omega
        have hso : setOk nn ws s = true := setOk_mk hno hs0 hsf
        have hfb := full_bd ws.length hl9
        have hj : treeOk nn ws s = tree ws s := by unfold treeOk; rw [hso]; rfl
        have HNOD : Hid (nodesOf nn ws s = nds ws s) := by show nodesOf nn ws s = _; unfold nodesOf; rw [if_pos hso]; rfl
        obtain ⟨d0, d1, d2⟩ := nds_bd hni s
        have hpo : plOk nn (nds ws s) = true := by unfold plOk; simp; omega
        have HT0 : Hid (treeOk nn ws 0 = true) := by show treeOk nn ws 0 = true; unfold treeOk; rw [setOk_mk hno (Int.le_refl _) hfb.1]; rfl
        have HJS : Hid (tree ws s = true → joinsEnds nn ws s (nds ws s) = true) := fun h => by unfold joinsEnds; rw [hso, hpo, tree_joins h]; rfl
        have HJX : Hid (tree ws s = true → ∀ (k : Nat) (x : Wy), ws[k]? = some x → bit s k = true → joinsEnds nn ws (s - 2 ^ k) (nds ws s) = false) := fun h k x hx hb => by unfold joinsEnds; rw [tree_needs hni hs0 hs511 h hx hb, Bool.and_false]
        rw [hj]
        clear hj hno hni hso hpo hsf d2 hfb
        cases htt : tree ws s
        · skip
          go_wp2_with fail
          refine (sNetOk_any _ _ _ _ _ (HRW.out.later (by have := HB2.out; go_grown)) (by omega)).mono ?_; rintro e w3 ⟨rfl, hb3⟩
          rw [HNO.out]
          obtain ⟨hc3, hf3⟩ := bcell hb3
          have hz3_0 : wd.heap.size < w3.heap.size := by have hq := hb3.size; (try simp at hq); omega
          have HK3 := Lib.hid hb3
          have HB3 := Lib.hid (bstep (B := wd.heap.size) (W := wd) (by have hp := HB2.out; go_grown) (by go_size) hb3); clear hb3
          go_wp2_with fail
          refine (NodesOf_any _ _ _ _ _ _ (HRW.out.later (by have := HB3.out; go_grown))).mono ?_; rintro e w4 ⟨rfl, hb4⟩
          rw [HNOD.out]
          obtain ⟨hc4, hf4⟩ := bcell hb4
          have hz4_0 : wd.heap.size < w4.heap.size := by have hq := hb4.size; (try simp at hq); omega
          have HK4 := Lib.hid hb4
          have HB4 := Lib.hid (bstep (B := wd.heap.size) (W := wd) (by have hp := HB3.out; go_grown) (by go_size) hb4); clear hb4
          have k4 : w4.cell? ⟨wd.heap.size, 0, none⟩ = some (.int .i64 nn) ∧ w4.cell? ⟨wd.heap.size, 1, none⟩ = some (.slice A' ws.length c') := ⟨by go_simp, by go_simp⟩
          clear hc1 hf1 hc2 hf2 hc3 hf3 hc4 hf4 htt
          go_wp2_with fail
          go_loopw [7] (fun c wr => ∃ k : Nat, k ≤ ws.length ∧ c = .int .i64 k ∧ wr.cell? ⟨wd.heap.size, 0, none⟩ = some (.int .i64 nn) ∧ wr.cell? ⟨wd.heap.size, 1, none⟩ = some (.slice A' ws.length c') ∧ Below wd.heap.size wd wr ∧ wd.heap.size < wr.heap.size) (fun c _ => ws.length - (intOf c).toNat)
          case atStart => exact ⟨0, Nat.zero_le _, rfl, k4.1, k4.2, HB4.out, hz4_0⟩
          case round =>
            clear k4
            obtain ⟨k, hk, rfl, b0, b1, hb, hz⟩ := hrel
            have HRK := Lib.hid (HRW.out.later hb)
            have HTK := Lib.hid (HTD.out.later hb)
            have HB0 := Lib.hid hb
            clear hb
            by_cases hlt : (k : Int) < (ws.length : Int)
            all_goals
              go_wp2_with fail
              refine (TreeOk_any nn 0 A' c' ws _ HRK.out HTK.out).mono ?_; rintro e w5 ⟨rfl, hb5⟩; rw [HT0.out]
              have HB5 := Lib.hid (bstep (B := wd.heap.size) (W := wd) HB0.out (by omega) hb5)
              have z5 := Nat.lt_of_lt_of_le hz hb5.size
              clear hb5
              go_wp2_with fail
              refine (alive_any _).mono ?_; rintro e w6 ⟨rfl, hb6⟩
              have HB6 := Lib.hid (bstep (B := wd.heap.size) (W := wd) HB5.out (by omega) hb6)
              clear hb6
              go_wp2_with fail
              go_ret
              exact ⟨rfl, bstep HBD.out hzd HB6.out⟩
        · have HJS1 := Lib.hid (HJS.out htt)
          have HJX1 := Lib.hid (HJX.out htt)
          go_wp2_with fail
          refine (sNetOk_any _ _ _ _ _ (HRW.out.later (by have := HB2.out; go_grown)) (by omega)).mono ?_; rintro e w3 ⟨rfl, hb3⟩
          rw [HNO.out]
          obtain ⟨hc3, hf3⟩ := bcell hb3
          have hz3_0 : wd.heap.size < w3.heap.size := by have hq := hb3.size; (try simp at hq); omega
          have HK3 := Lib.hid hb3
          have HB3 := Lib.hid (bstep (B := wd.heap.size) (W := wd) (by have hp := HB2.out; go_grown) (by go_size) hb3); clear hb3
          go_wp2_with fail
          refine (NodesOf_any _ _ _ _ _ _ (HRW.out.later (by have := HB3.out; go_grown))).mono ?_; rintro e w4 ⟨rfl, hb4⟩
          rw [HNOD.out]
          obtain ⟨hc4, hf4⟩ := bcell hb4
          have hz4_0 : wd.heap.size < w4.heap.size := by have hq := hb4.size; (try simp at hq); omega
          have HK4 := Lib.hid hb4
          have HB4 := Lib.hid (bstep (B := wd.heap.size) (W := wd) (by have hp := HB3.out; go_grown) (by go_size) hb4); clear hb4
          have k4 : w4.cell? ⟨wd.heap.size, 0, none⟩ = some (.int .i64 nn) ∧ w4.cell? ⟨wd.heap.size, 1, none⟩ = some (.slice A' ws.length c') := ⟨by go_simp, by go_simp⟩
          clear hc1 hf1 hc2 hf2 hc3 hf3 hc4 hf4 htt
          go_wp2_with fail
          go_loopw [7] (fun c wr => ∃ k : Nat, k ≤ ws.length ∧ c = .int .i64 k ∧ wr.cell? ⟨wd.heap.size, 0, none⟩ = some (.int .i64 nn) ∧ wr.cell? ⟨wd.heap.size, 1, none⟩ = some (.slice A' ws.length c') ∧ Below wd.heap.size wd wr ∧ wd.heap.size < wr.heap.size) (fun c _ => ws.length - (intOf c).toNat)
          case atStart => exact ⟨0, Nat.zero_le _, rfl, k4.1, k4.2, HB4.out, hz4_0⟩
          case round =>
            clear k4
            obtain ⟨k, hk, rfl, b0, b1, hb, hz⟩ := hrel
            have HRK := Lib.hid (HRW.out.later hb)
            have HTK := Lib.hid (HTD.out.later hb)
            have HB0 := Lib.hid hb
            clear hb
            by_cases hlt : k < ws.length
            · obtain ⟨x, hx⟩ : ∃ x, ws[k]? = some x := ⟨_, List.getElem?_eq_getElem hlt⟩
              have hq0 : 0 ≤ s / 2 ^ k := (div_pow_bd s k hs0).1
              cases hbit : bit s k
              · have hz1 := bit_zero (by omega) hs0 hbit
                rw [Int.toNat_natCast] at hz1
                have hd1 : (s / 2 ^ k % 2 == 1) = false := by rw [hz1.1]; rfl
                have hd2 : ((s / 2 ^ k).tmod 2 == 1) = false := by rw [hz1.2]; rfl
                clear hz1 hbit hx
                have hk0 : (0 : Int) ≤ (k : Int) := by omega
                go_wp2_with fail
                refine wp_region_held_drew (S := (fun w' => w'.cell? ⟨wd.heap.size, 0, none⟩ = some (.int .i64 nn) ∧ w'.cell? ⟨wd.heap.size, 1, none⟩ = some (.slice A' ws.length c'))) (by kernel_rfl) ?_ (fun hHeld => ?_)
                · exact ⟨b0, b1⟩
                refine wpAnyH_take (i := 0) (v := ?_) rfl (by kernel_rfl) (by kernel_rfl) (by kernel_rfl) (fun _ _ _ h => h) (Or.inl ⟨by rfl, ?_⟩) (by assumption) ?_
                rotate_left
                · (intro w hSw; (try dsimp only at hSw); (try simp only [List.getElem_toArray, List.getElem_cons_succ, List.getElem_cons_zero]); first | (go_simp; done) | (go_simp; with_reducible rfl))
                try simp only [Act.put, List.getElem_toArray, List.getElem_cons_succ, List.getElem_cons_zero, List.setIfInBounds_toArray, List.set_cons_zero, List.set_cons_succ]
                refine wpAnyH_take (i := 1) (v := ?_) rfl (by kernel_rfl) (by kernel_rfl) (by kernel_rfl) (fun _ _ _ h => h) (Or.inl ⟨by rfl, ?_⟩) (by assumption) ?_
                rotate_left
                · (intro w hSw; (try dsimp only at hSw); (try simp only [List.getElem_toArray, List.getElem_cons_succ, List.getElem_cons_zero]); first | (go_simp; done) | (go_simp; with_reducible rfl))
                try simp only [Act.put, List.getElem_toArray, List.getElem_cons_succ, List.getElem_cons_zero, List.setIfInBounds_toArray, List.set_cons_zero, List.set_cons_succ]
                refine wpAnyH_take (i := 2) (v := ?_) rfl (by kernel_rfl) (by kernel_rfl) (by kernel_rfl) (fun _ _ _ h => h) (Or.inl ⟨by rfl, ?_⟩) (by assumption) ?_
                rotate_left
                · (intro w hSw; (try dsimp only at hSw); (try simp only [List.getElem_toArray, List.getElem_cons_succ, List.getElem_cons_zero]); first | (go_simp; done) | (go_simp; with_reducible rfl))
                try simp only [Act.put, List.getElem_toArray, List.getElem_cons_succ, List.getElem_cons_zero, List.setIfInBounds_toArray, List.set_cons_zero, List.set_cons_succ]
                refine wpAnyH_take (i := 3) (v := ?_) rfl (by kernel_rfl) (by kernel_rfl) (by kernel_rfl) (fun _ _ _ h => h) (Or.inl ⟨by rfl, ?_⟩) (by assumption) ?_
                rotate_left
                · (intro w hSw; (try dsimp only at hSw); (try simp only [List.getElem_toArray, List.getElem_cons_succ, List.getElem_cons_zero]); first | (go_simp; done) | (go_simp; with_reducible rfl))
                try simp only [Act.put, List.getElem_toArray, List.getElem_cons_succ, List.getElem_cons_zero, List.setIfInBounds_toArray, List.set_cons_zero, List.set_cons_succ]
                refine wpAnyH_take (i := 4) (v := ?_) rfl (by kernel_rfl) (by kernel_rfl) (by kernel_rfl) (fun _ _ _ h => h) (Or.inl ⟨by rfl, ?_⟩) (by assumption) ?_
                rotate_left
                · (intro w hSw; (try dsimp only at hSw); (try simp only [List.getElem_toArray, List.getElem_cons_succ, List.getElem_cons_zero]); first | (go_simp; done) | (go_simp; with_reducible rfl))
                try simp only [Act.put, List.getElem_toArray, List.getElem_cons_succ, List.getElem_cons_zero, List.setIfInBounds_toArray, List.set_cons_zero, List.set_cons_succ]
                refine wpAnyH_take (i := 5) (v := ?_) rfl (by kernel_rfl) (by kernel_rfl) (by kernel_rfl) (fun _ _ _ h => h) (Or.inl ⟨by rfl, ?_⟩) (by assumption) ?_
                rotate_left
                · (intro w hSw; (try dsimp only at hSw); (try simp only [List.getElem_toArray, List.getElem_cons_succ, List.getElem_cons_zero]); first | (go_simp; done) | (go_simp; with_reducible rfl))
                try simp only [Act.put, List.getElem_toArray, List.getElem_cons_succ, List.getElem_cons_zero, List.setIfInBounds_toArray, List.set_cons_zero, List.set_cons_succ]
                refine wpAnyH_take (i := 6) (v := undef) rfl (by kernel_rfl) (by kernel_rfl) (by kernel_rfl) (fun _ _ _ h => h) (Or.inr ⟨by rfl, rfl⟩) (by assumption) ?_
                try simp only [Act.put, List.getElem_toArray, List.getElem_cons_succ, List.getElem_cons_zero, List.setIfInBounds_toArray, List.set_cons_zero, List.set_cons_succ]
                refine wpAnyH_take (i := 7) (v := undef) rfl (by kernel_rfl) (by kernel_rfl) (by kernel_rfl) (fun _ _ _ h => h) (Or.inr ⟨by rfl, rfl⟩) (by assumption) ?_
                try simp only [Act.put, List.getElem_toArray, List.getElem_cons_succ, List.getElem_cons_zero, List.setIfInBounds_toArray, List.set_cons_zero, List.set_cons_succ]
                refine wpAnyH_take (i := 8) (v := undef) rfl (by kernel_rfl) (by kernel_rfl) (by kernel_rfl) (fun _ _ _ h => h) (Or.inr ⟨by rfl, rfl⟩) (by assumption) ?_
                try simp only [Act.put, List.getElem_toArray, List.getElem_cons_succ, List.getElem_cons_zero, List.setIfInBounds_toArray, List.set_cons_zero, List.set_cons_succ]
                refine wpAnyH_take (i := 9) (v := undef) rfl (by kernel_rfl) (by kernel_rfl) (by kernel_rfl) (fun _ _ _ h => h) (Or.inr ⟨by rfl, rfl⟩) (by assumption) ?_
                try simp only [Act.put, List.getElem_toArray, List.getElem_cons_succ, List.getElem_cons_zero, List.setIfInBounds_toArray, List.set_cons_zero, List.set_cons_succ]
                refine wpAnyH_take (i := 10) (v := undef) rfl (by kernel_rfl) (by kernel_rfl) (by kernel_rfl) (fun _ _ _ h => h) (Or.inr ⟨by rfl, rfl⟩) (by assumption) ?_
                try simp only [Act.put, List.getElem_toArray, List.getElem_cons_succ, List.getElem_cons_zero, List.setIfInBounds_toArray, List.set_cons_zero, List.set_cons_succ]
                refine wpAnyH_take (i := 11) (v := undef) rfl (by kernel_rfl) (by kernel_rfl) (by kernel_rfl) (fun _ _ _ h => h) (Or.inr ⟨by rfl, rfl⟩) (by assumption) ?_
                try simp only [Act.put, List.getElem_toArray, List.getElem_cons_succ, List.getElem_cons_zero, List.setIfInBounds_toArray, List.set_cons_zero, List.set_cons_succ]
                refine wpAnyH_take (i := 12) (v := undef) rfl (by kernel_rfl) (by kernel_rfl) (by kernel_rfl) (fun _ _ _ h => h) (Or.inr ⟨by rfl, rfl⟩) (by assumption) ?_
                try simp only [Act.put, List.getElem_toArray, List.getElem_cons_succ, List.getElem_cons_zero, List.setIfInBounds_toArray, List.set_cons_zero, List.set_cons_succ]
                refine wpAnyH_take (i := 13) (v := ?_) rfl (by kernel_rfl) (by kernel_rfl) (by kernel_rfl) (fun _ _ _ h => h) (Or.inl ⟨by rfl, ?_⟩) (by assumption) ?_
                rotate_left
                · (intro w hSw; (try dsimp only at hSw); (try simp only [List.getElem_toArray, List.getElem_cons_succ, List.getElem_cons_zero]); first | (go_simp; done) | (go_simp; with_reducible rfl))
                try simp only [Act.put, List.getElem_toArray, List.getElem_cons_succ, List.getElem_cons_zero, List.setIfInBounds_toArray, List.set_cons_zero, List.set_cons_succ]
                refine wpAnyH_done (by kernel_rfl) ?_ _
                go_wp2_with fail
                go_roundw
                case rel => exact ⟨k + 1, by omega, by go_num, b0, b1, HB0.out.drew, hz⟩
                case measure => simp [intOf]; omega
              · have hz1 := bit_one (by omega) hs0 hbit
                rw [Int.toNat_natCast] at hz1
                have hd1 : (s / 2 ^ k % 2 == 1) = true := by rw [hz1.1]; rfl
                have hd2 : ((s / 2 ^ k).tmod 2 == 1) = true := by rw [hz1.2]; rfl
                have hge := (idiff_one' hs0 (by omega) (by omega) hbit)
                have hpk := pow_bd (k : Int) 8 (by omega)
                rw [Int.toNat_natCast] at hpk
                obtain ⟨u, hu⟩ : ∃ u : Int, s - 2 ^ k = u := ⟨_, rfl⟩
                have HJN0 := HJX1.out k x hx hbit
                rw [hu] at HJN0
                have HJN := Lib.hid HJN0
                have HS1 : Hid (IntKind.i64.wrap (s - 2 ^ k) = u) := by show IntKind.i64.wrap (s - 2 ^ k) = u; rw [← hu]; exact IntWalk.i64_in _ ⟨by omega, by omega⟩
                have HS2 : Hid (wrap64 (s - 2 ^ k) = u) := by show wrap64 (s - 2 ^ k) = u; rw [← hu]; exact IntWalk.wrap64_in _ ⟨by omega, by omega⟩
                have HW1 : Hid (IntKind.i64.wrap (2 ^ k) = 2 ^ k) := IntWalk.i64_in _ ⟨by omega, by omega⟩
                have HW2 : Hid (wrap64 (2 ^ k) = 2 ^ k) := IntWalk.wrap64_in _ ⟨by omega, by omega⟩
                have hk0 : (0 : Int) ≤ (k : Int) := by omega
                clear hz1 hbit hx HJN0 hu
                go_wp2_with fail
                have hs1' := HS1.out
                have hs2' := HS2.out
                have hw1 := HW1.out
                have hw2 := HW2.out
                refine wp_region_held_drew (S := (fun w' => w'.cell? ⟨wd.heap.size, 0, none⟩ = some (.int .i64 nn) ∧ w'.cell? ⟨wd.heap.size, 1, none⟩ = some (.slice A' ws.length c'))) (by kernel_rfl) ?_ (fun hHeld => ?_)
                · exact ⟨b0, b1⟩
                refine wpAnyH_take (i := 0) (v := ?_) rfl (by kernel_rfl) (by kernel_rfl) (by kernel_rfl) (fun _ _ _ h => h) (Or.inl ⟨by rfl, ?_⟩) (by assumption) ?_
                rotate_left
                · (intro w hSw; (try dsimp only at hSw); (try simp only [List.getElem_toArray, List.getElem_cons_succ, List.getElem_cons_zero]); first | (go_simp; done) | (go_simp; with_reducible rfl))
                try simp only [Act.put, List.getElem_toArray, List.getElem_cons_succ, List.getElem_cons_zero, List.setIfInBounds_toArray, List.set_cons_zero, List.set_cons_succ]
                refine wpAnyH_take (i := 1) (v := ?_) rfl (by kernel_rfl) (by kernel_rfl) (by kernel_rfl) (fun _ _ _ h => h) (Or.inl ⟨by rfl, ?_⟩) (by assumption) ?_
                rotate_left
                · (intro w hSw; (try dsimp only at hSw); (try simp only [List.getElem_toArray, List.getElem_cons_succ, List.getElem_cons_zero]); first | (go_simp; done) | (go_simp; with_reducible rfl))
                try simp only [Act.put, List.getElem_toArray, List.getElem_cons_succ, List.getElem_cons_zero, List.setIfInBounds_toArray, List.set_cons_zero, List.set_cons_succ]
                refine wpAnyH_take (i := 2) (v := ?_) rfl (by kernel_rfl) (by kernel_rfl) (by kernel_rfl) (fun _ _ _ h => h) (Or.inl ⟨by rfl, ?_⟩) (by assumption) ?_
                rotate_left
                · (intro w hSw; (try dsimp only at hSw); (try simp only [List.getElem_toArray, List.getElem_cons_succ, List.getElem_cons_zero]); first | (go_simp; done) | (go_simp; with_reducible rfl))
                try simp only [Act.put, List.getElem_toArray, List.getElem_cons_succ, List.getElem_cons_zero, List.setIfInBounds_toArray, List.set_cons_zero, List.set_cons_succ]
                refine wpAnyH_take (i := 3) (v := ?_) rfl (by kernel_rfl) (by kernel_rfl) (by kernel_rfl) (fun _ _ _ h => h) (Or.inl ⟨by rfl, ?_⟩) (by assumption) ?_
                rotate_left
                · (intro w hSw; (try dsimp only at hSw); (try simp only [List.getElem_toArray, List.getElem_cons_succ, List.getElem_cons_zero]); first | (go_simp; done) | (go_simp; with_reducible rfl))
                try simp only [Act.put, List.getElem_toArray, List.getElem_cons_succ, List.getElem_cons_zero, List.setIfInBounds_toArray, List.set_cons_zero, List.set_cons_succ]
                refine wpAnyH_take (i := 4) (v := ?_) rfl (by kernel_rfl) (by kernel_rfl) (by kernel_rfl) (fun _ _ _ h => h) (Or.inl ⟨by rfl, ?_⟩) (by assumption) ?_
                rotate_left
                · (intro w hSw; (try dsimp only at hSw); (try simp only [List.getElem_toArray, List.getElem_cons_succ, List.getElem_cons_zero]); first | (go_simp; done) | (go_simp; with_reducible rfl))
                try simp only [Act.put, List.getElem_toArray, List.getElem_cons_succ, List.getElem_cons_zero, List.setIfInBounds_toArray, List.set_cons_zero, List.set_cons_succ]
                refine wpAnyH_take (i := 5) (v := ?_) rfl (by kernel_rfl) (by kernel_rfl) (by kernel_rfl) (fun _ _ _ h => h) (Or.inl ⟨by rfl, ?_⟩) (by assumption) ?_
                rotate_left
                · (intro w hSw; (try dsimp only at hSw); (try simp only [List.getElem_toArray, List.getElem_cons_succ, List.getElem_cons_zero]); first | (go_simp; done) | (go_simp; with_reducible rfl))
                try simp only [Act.put, List.getElem_toArray, List.getElem_cons_succ, List.getElem_cons_zero, List.setIfInBounds_toArray, List.set_cons_zero, List.set_cons_succ]
                refine wpAnyH_take (i := 6) (v := ?_) rfl (by kernel_rfl) (by kernel_rfl) (by kernel_rfl) (fun _ _ _ h => h) (Or.inl ⟨by rfl, ?_⟩) (by assumption) ?_
                rotate_left
                · (intro w hSw; (try dsimp only at hSw); (try simp only [List.getElem_toArray, List.getElem_cons_succ, List.getElem_cons_zero]); first | (go_simp; done) | (go_simp; with_reducible rfl))
                try simp only [Act.put, List.getElem_toArray, List.getElem_cons_succ, List.getElem_cons_zero, List.setIfInBounds_toArray, List.set_cons_zero, List.set_cons_succ]
                refine wpAnyH_take (i := 7) (v := ?_) rfl (by kernel_rfl) (by kernel_rfl) (by kernel_rfl) (fun _ _ _ h => h) (Or.inl ⟨by rfl, ?_⟩) (by assumption) ?_
                rotate_left
                · (intro w hSw; (try dsimp only at hSw); (try simp only [List.getElem_toArray, List.getElem_cons_succ, List.getElem_cons_zero]); first | (go_simp; done) | (go_simp; with_reducible rfl))
                try simp only [Act.put, List.getElem_toArray, List.getElem_cons_succ, List.getElem_cons_zero, List.setIfInBounds_toArray, List.set_cons_zero, List.set_cons_succ]
                refine wpAnyH_take (i := 8) (v := ?_) rfl (by kernel_rfl) (by kernel_rfl) (by kernel_rfl) (fun _ _ _ h => h) (Or.inl ⟨by rfl, ?_⟩) (by assumption) ?_
                rotate_left
                · (intro w hSw; (try dsimp only at hSw); (try simp only [List.getElem_toArray, List.getElem_cons_succ, List.getElem_cons_zero]); first | (go_simp; done) | (go_simp; with_reducible rfl))
                try simp only [Act.put, List.getElem_toArray, List.getElem_cons_succ, List.getElem_cons_zero, List.setIfInBounds_toArray, List.set_cons_zero, List.set_cons_succ]
                refine wpAnyH_take (i := 9) (v := ?_) rfl (by kernel_rfl) (by kernel_rfl) (by kernel_rfl) (fun _ _ _ h => h) (Or.inl ⟨by rfl, ?_⟩) (by assumption) ?_
                rotate_left
                · (intro w hSw; (try dsimp only at hSw); (try simp only [List.getElem_toArray, List.getElem_cons_succ, List.getElem_cons_zero]); first | (go_simp; done) | (go_simp; with_reducible rfl))
                try simp only [Act.put, List.getElem_toArray, List.getElem_cons_succ, List.getElem_cons_zero, List.setIfInBounds_toArray, List.set_cons_zero, List.set_cons_succ]
                refine wpAnyH_take (i := 10) (v := ?_) rfl (by kernel_rfl) (by kernel_rfl) (by kernel_rfl) (fun _ _ _ h => h) (Or.inl ⟨by rfl, ?_⟩) (by assumption) ?_
                rotate_left
                · (intro w hSw; (try dsimp only at hSw); (try simp only [List.getElem_toArray, List.getElem_cons_succ, List.getElem_cons_zero]); first | (go_simp; done) | (go_simp; with_reducible rfl))
                try simp only [Act.put, List.getElem_toArray, List.getElem_cons_succ, List.getElem_cons_zero, List.setIfInBounds_toArray, List.set_cons_zero, List.set_cons_succ]
                refine wpAnyH_take (i := 11) (v := ?_) rfl (by kernel_rfl) (by kernel_rfl) (by kernel_rfl) (fun _ _ _ h => h) (Or.inl ⟨by rfl, ?_⟩) (by assumption) ?_
                rotate_left
                · (intro w hSw; (try dsimp only at hSw); (try simp only [List.getElem_toArray, List.getElem_cons_succ, List.getElem_cons_zero]); first | (go_simp; done) | (go_simp; with_reducible rfl))
                try simp only [Act.put, List.getElem_toArray, List.getElem_cons_succ, List.getElem_cons_zero, List.setIfInBounds_toArray, List.set_cons_zero, List.set_cons_succ]
                refine wpAnyH_ready (rs := [12]) (by kernel_rfl) (by simp) ?_
                refine AllReadyH.cons rfl (fun K hK => ?_) AllReadyH.nil
                try simp only [List.getElem_toArray, List.getElem_cons_succ, List.getElem_cons_zero]
                go_simp
                go_at_call 18; refine (JoinsEnds_any nn u (nds ws s) A' c' ws _ (HRK.out.drewNR _) (HTK.out.drewNR _)).mono ?_; rintro e5 w5 ⟨rfl, hb5⟩; rw [HJN.out]; have g5 : Below wr.heap.size wr w5 := und hb5; have k5 := keep2 g5 ⟨b0, b1⟩ hz; have z5 := Nat.lt_of_lt_of_le hz g5.size
                refine hK.out _ _ ?_ (fun hHeld => ?_)
                · exact k5
                clear hK K
                try simp only [Act.put, List.getElem_toArray, List.getElem_cons_succ, List.getElem_cons_zero, List.setIfInBounds_toArray, List.set_cons_zero, List.set_cons_succ]
                refine wpAnyH_take (i := 13) (v := ?_) rfl (by kernel_rfl) (by kernel_rfl) (by kernel_rfl) (fun _ _ _ h => h) (Or.inl ⟨by rfl, ?_⟩) (by assumption) ?_
                rotate_left
                · (intro w hSw; (try dsimp only at hSw); (try simp only [List.getElem_toArray, List.getElem_cons_succ, List.getElem_cons_zero]); first | (go_simp; done) | (go_simp; with_reducible rfl))
                try simp only [Act.put, List.getElem_toArray, List.getElem_cons_succ, List.getElem_cons_zero, List.setIfInBounds_toArray, List.set_cons_zero, List.set_cons_succ]
                refine wpAnyH_done (by kernel_rfl) ?_ _
                have HB5 := Lib.hid (bstep (B := wd.heap.size) (W := wd) HB0.out (Nat.le_of_lt hz) g5)
                clear g5 hb5 hs1' hs2' hw1 hw2
                go_wp2_with fail
                go_roundw
                case rel => exact ⟨k + 1, by omega, by go_num, k5.1, k5.2, HB5.out, z5⟩
                case measure => simp [intOf]; omega
            · go_wp2_with fail
              refine (TreeOk_any nn 0 A' c' ws _ HRK.out HTK.out).mono ?_; rintro e w5 ⟨rfl, hb5⟩; rw [HT0.out]
              have k5 := keep2 hb5 ⟨b0, b1⟩ hz
              obtain ⟨l0, l1⟩ := k5
              have HR5 := Lib.hid (HRK.out.later hb5)
              have HT5 := Lib.hid (HTK.out.later hb5)
              have HB5 := Lib.hid (bstep (B := wd.heap.size) (W := wd) HB0.out (by omega) hb5)
              have z5 := Nat.lt_of_lt_of_le hz hb5.size
              clear hb5
              go_wp2_with fail
              refine (JoinsEnds_any nn s (nds ws s) A' c' ws _ HR5.out HT5.out).mono ?_; rintro e w6 ⟨rfl, hb6⟩; rw [HJS1.out]
              have HB6 := Lib.hid (bstep (B := wd.heap.size) (W := wd) HB5.out (by omega) hb6)
              have z6 := Nat.lt_of_lt_of_le z5 hb6.size
              clear hb6
              go_wp2_with fail
              refine (alive_any _).mono ?_; rintro e w7 ⟨rfl, hb7⟩
              have HB7 := Lib.hid (bstep (B := wd.heap.size) (W := wd) HB6.out (by omega) hb7)
              clear hb7
              go_wp2_with fail
              go_ret
              exact ⟨rfl, bstep HBD.out hzd HB7.out⟩
end Go.Proofs.YtadhkfebokhbcaaDoor
