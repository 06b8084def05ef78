/- The program's pairs: PairsOk, setJoinsPairs, JoinsPairs, PairsOf, PairsCost, leastOf, PartMany. -/
import Derived.Test.YtnnpooemdonbhaaDoorCpD
import Derived.Test.YtnnpooemdonbhaaDoorCpA
import Derived.Test.YtnnpooemdonbhaaDoorMC
import Derived.Test.YtnnpooemdonbhaaDoorME
set_option linter.unusedSimpArgs false
set_option linter.unusedVariables false
attribute [local go_sem ↓] Go.wp_at_zero Go.wp_at_succ
namespace Go.Proofs.YtnnpooemdonbhaaDoor
open Go.ChangeShapes Go.WideShapes Go.ChangeAt Go.RowKit

theorem pairsOk_no0 {n : Int} {ws : List Wy} {ps : List (Int × Int)} (h : netOk n ws = false) : pairsOk n ws ps = false := by unfold pairsOk; rw [h]; rfl
theorem pairsOk_no1 {n : Int} {ws : List Wy} {ps : List (Int × Int)} (h : ¬ ps.length ≤ 4) : pairsOk n ws ps = false := by unfold pairsOk; rw [decide_eq_false h]; simp
theorem pairsOk_no2 {n : Int} {ws : List Wy} {ps : List (Int × Int)} (h : ps.all (prIn n) = false) : pairsOk n ws ps = false := by unfold pairsOk; rw [h]; simp
set_option maxHeartbeats 2000000 in
theorem PairsOk_any (n : Int) (A : Option Addr) (cap : Nat) (ws : List Wy) (Ap : Option Addr) (cp : Nat) (ps : List (Int × Int)) (w : World) (hr : RW w w.heap.size A ws) (hp : RC w w.heap.size Ap ps) (hpm : ps.length ≤ 1073741824) :
    Calls Tryd.prog 42 #[.agg #[.int .i64 n, .slice A ws.length cap], .slice Ap ps.length cp] w fun e w' => e = .returned (.bool (pairsOk n ws ps)) ∧ Below w.heap.size w w' := by
  have HR := Lib.hid hr
  have HP := Lib.hid hp
  clear hr hp
  cases hno : netOk n ws
  · have HN := Lib.hid hno
    rw [pairsOk_no0 hno]
    clear hno
    go_enter Tryd.func42, Tryd.ntmps42
    go_wp2_with fail
    refine (NetOk_any _ _ _ _ _ (HR.out.later (by go_grown))).mono ?_; rintro e w1 ⟨rfl, hb1⟩
    rw [HN.out]
    obtain ⟨hc1, hf1⟩ := bcell hb1
    have hz1_0 : w.heap.size < w1.heap.size := by have hq := hb1.size; (try simp at hq); omega
    have HK1 := Lib.hid hb1
    have HB1 := Lib.hid (bstep (B := w.heap.size) (W := w) (by (try have hp := HB0.out); go_grown) (by go_size) hb1); clear hb1
    go_wp2_with fail
    go_ret
    exact ⟨rfl, HB1.out⟩
  · have HN := Lib.hid hno
    by_cases h4 : ps.length ≤ 4
    · have HALY : Hid (ps.all (prIn n) = true → pairsOk n ws ps = true) := fun h => by unfold pairsOk; rw [hno, h, decide_eq_true h4]; rfl
      have HALN : Hid (ps.all (prIn n) = false → pairsOk n ws ps = false) := pairsOk_no2
      have h4i : ¬ (4 : Int) < (ps.length : Int) := by omega
      obtain ⟨an, han⟩ : ∃ a, pairsOk n ws ps = a := ⟨_, rfl⟩
      rw [han] at HALY HALN ⊢
      clear hno han
      go_enter Tryd.func42, Tryd.ntmps42
      go_wp2_with fail
      refine (NetOk_any _ _ _ _ _ (HR.out.later (by go_grown))).mono ?_; rintro e w1 ⟨rfl, hb1⟩
      rw [HN.out]
      obtain ⟨hc1, hf1⟩ := bcell hb1
      have hz1_0 : w.heap.size < w1.heap.size := by have hq := hb1.size; (try simp at hq); omega
      have HK1 := Lib.hid hb1
      have HB1 := Lib.hid (bstep (B := w.heap.size) (W := w) (by (try have hp := HB0.out); go_grown) (by go_size) hb1); clear hb1
      have k10 : w1.cell? ⟨w.heap.size, 0, none⟩ = some (.int .i64 n) := by go_simp
      have k11 : w1.cell? ⟨w.heap.size, 1, none⟩ = some (.slice A ws.length cap) := by go_simp
      clear hc1 hf1
      go_wp2_with fail
      go_loopw [17] (fun i wr => ∃ k : Nat, k ≤ ps.length ∧ i = .int .i64 k ∧ (ps.take k).all (prIn n) = true ∧ wr.cell? ⟨w.heap.size, 0, none⟩ = some (.int .i64 n) ∧ wr.cell? ⟨w.heap.size, 1, none⟩ = some (.slice A ws.length cap) ∧ Below w.heap.size w wr ∧ w.heap.size < wr.heap.size) (fun i _ => ps.length - (intOf i).toNat)
      case atStart => exact ⟨0, Nat.zero_le _, rfl, rfl, k10, k11, HB1.out, hz1_0⟩
      case round =>
        clear k10 k11 HB1 HK1 h4i
        obtain ⟨k, hk, rfl, hall, b0, b1, hb, hz⟩ := hrel
        have HB0 := Lib.hid hb
        have hk0 : (0 : Int) ≤ (k : Int) := by omega
        by_cases hlk : k < ps.length
        · have hk1 : (k : Int) < (ps.length : Int) := by omega
          obtain ⟨⟨pa, pb⟩, hx⟩ : ∃ x, ps[k]? = some x := ⟨_, List.getElem?_eq_getElem hlk⟩
          obtain ⟨b, o, rfl, hB, c0, c1⟩ := (HP.out.later hb).at_ hx
          simp only at c0 c1
          have HTK := Lib.hid (prIn_take (n := n) hx)
          have HFA : Hid (prIn n (pa, pb) = false → an = false) := fun h => HALN.out (prIn_false hx h)
          rw [hall, Bool.true_and] at HTK
          clear hx hall hb
          cases ha : hasPl n pa
          · have HA := Lib.hid ha
            have HF : Hid (an = false) := HFA.out (by unfold prIn; simp only; rw [ha]; rfl)
            clear ha HTK HFA
            go_wp2_with fail
            refine (hasPlace_any _ _ _ _).mono ?_; rintro e w1 ⟨rfl, hb1⟩
            rw [HA.out]
            obtain ⟨hc1, hf1⟩ := bcell hb1
            have hz1_0 : w.heap.size < w1.heap.size := by have hq := hb1.size; (try simp at hq); omega
            have HK1 := Lib.hid hb1
            have HB1 := Lib.hid (bstep (B := w.heap.size) (W := w) (by (try have hp := HB0.out); go_grown) (by go_size) hb1); clear hb1
            go_wp2_with fail
            go_ret
            exact ⟨ret_bool HF.out.symm, HB1.out⟩
          · have HA := Lib.hid ha
            cases hb2 : hasPl n pb
            · have HB2' := Lib.hid hb2
              have HF : Hid (an = false) := HFA.out (by unfold prIn; simp only; rw [ha, hb2]; rfl)
              clear ha hb2 HTK HFA
              go_wp2_with fail
              refine (hasPlace_any _ _ _ _).mono ?_; rintro e w1 ⟨rfl, hb1⟩
              rw [HA.out]
              obtain ⟨hc1, hf1⟩ := bcell hb1
              have hz1_0 : w.heap.size < w1.heap.size := by have hq := hb1.size; (try simp at hq); omega
              have HK1 := Lib.hid hb1
              have HB1 := Lib.hid (bstep (B := w.heap.size) (W := w) (by (try have hp := HB0.out); go_grown) (by go_size) hb1); clear hb1
              go_wp2_with fail
              refine (hasPlace_any _ _ _ _).mono ?_; rintro e w2 ⟨rfl, hb2⟩
              rw [HB2'.out]
              obtain ⟨hc2, hf2⟩ := bcell hb2
              have hz2_0 : w.heap.size < w2.heap.size := by have hq := hb2.size; (try simp at hq); omega
              have HK2 := Lib.hid hb2
              have HB2 := Lib.hid (bstep (B := w.heap.size) (W := w) (by have hp := HB1.out; go_grown) (by go_size) hb2); clear hb2
              go_wp2_with fail
              go_ret
              exact ⟨ret_bool HF.out.symm, HB2.out⟩
            · have HB2' := Lib.hid hb2
              have HT2 : Hid ((ps.take (k + 1)).all (prIn n) = true) := by show _ = _; rw [HTK.out]; unfold prIn; simp only; rw [ha, hb2]; rfl
              clear ha hb2 HTK HFA
              go_wp2_with fail
              refine (hasPlace_any _ _ _ _).mono ?_; rintro e w1 ⟨rfl, hb1⟩
              rw [HA.out]
              obtain ⟨hc1, hf1⟩ := bcell hb1
              have hz1_0 : w.heap.size < w1.heap.size := by have hq := hb1.size; (try simp at hq); omega
              have HK1 := Lib.hid hb1
              have HB1 := Lib.hid (bstep (B := w.heap.size) (W := w) (by (try have hp := HB0.out); go_grown) (by go_size) hb1); clear hb1
              go_wp2_with fail
              refine (hasPlace_any _ _ _ _).mono ?_; rintro e w2 ⟨rfl, hb2⟩
              rw [HB2'.out]
              obtain ⟨hc2, hf2⟩ := bcell hb2
              have hz2_0 : w.heap.size < w2.heap.size := by have hq := hb2.size; (try simp at hq); omega
              have HK2 := Lib.hid hb2
              have HB2 := Lib.hid (bstep (B := w.heap.size) (W := w) (by have hp := HB1.out; go_grown) (by go_size) hb2); clear hb2
              have k10 : w2.cell? ⟨w.heap.size, 0, none⟩ = some (.int .i64 n) := by go_simp
              have k11 : w2.cell? ⟨w.heap.size, 1, none⟩ = some (.slice A ws.length cap) := by go_simp
              clear hc1 hf1 hc2 hf2
              go_wp2_with fail
              go_roundw
              case rel => exact ⟨k + 1, by omega, by go_num, HT2.out, k10, k11, HB2.out, hz2_0⟩
              case measure => (simp [intOf]) <;> omega
        · obtain rfl : k = ps.length := by omega
          rw [List.take_length] at hall
          have HALL : Hid (an = true) := HALY.out hall
          clear hall hb
          go_wp2_with fail
          go_ret
          exact ⟨ret_bool HALL.out.symm, HB0.out⟩
    · have HF : Hid (pairsOk n ws ps = false) := pairsOk_no1 h4
      have h4i : (4 : Int) < (ps.length : Int) := by omega
      rw [HF.out]
      clear hno h4
      go_enter Tryd.func42, Tryd.ntmps42
      go_wp2_with fail
      refine (NetOk_any _ _ _ _ _ (HR.out.later (by go_grown))).mono ?_; rintro e w1 ⟨rfl, hb1⟩
      rw [HN.out]
      obtain ⟨hc1, hf1⟩ := bcell hb1
      have hz1_0 : w.heap.size < w1.heap.size := by have hq := hb1.size; (try simp at hq); omega
      have HK1 := Lib.hid hb1
      have HB1 := Lib.hid (bstep (B := w.heap.size) (W := w) (by (try have hp := HB0.out); go_grown) (by go_size) hb1); clear hb1
      go_wp2_with fail
      go_ret
      exact ⟨rfl, HB1.out⟩
theorem joins_pair {n : Int} {ws : List Wy} (hn : NetIs n ws) {s a b : Int} (a0 : 0 ≤ a) (a1 : a < n) (b0 : 0 ≤ b) (b1 : b < n) : joins ws s (both a b) = prB ws s (a, b) := by
  unfold prB
  rw [Bool.eq_iff_iff]
  exact joins_both hn a0 a1 b0 b1
theorem both_bits {a b : Int} (a1 : a ≤ 5) (b1 : b ≤ 5) : bits .or .i64 (IntKind.i64.wrap (2 ^ a.toNat)) (IntKind.i64.wrap (2 ^ b.toNat)) = both a b := by
  rw [IntWalk.i64_left, IntWalk.i64_left]
  have ha := shl1_bd a a1
  have hb := shl1_bd b b1
  rw [wrap_shl1 _ a1, wrap_shl1 _ b1]
  exact bits_or _ _ (by omega) (by omega) (by omega) (by omega)
set_option maxHeartbeats 4000000 in
theorem setJoinsPairs_any (m : Nat) (s : Int) (A : Option Addr) (cap : Nat) (ws : List Wy) (Ap : Option Addr) (cp : Nat) (ps : List (Int × Int)) (w : World) (hr : RW w w.heap.size A ws) (hn : NetIs (m : Int) ws) (hp : RC w w.heap.size Ap ps) (hpm : ps.length ≤ 1073741824) (hpi : PrIn (m : Int) ps) (s0 : 0 ≤ s) (s1 : s ≤ 1048576) (hT : Tab w) :
    Calls Tryd.prog 44 #[.agg #[.int .i64 m, .slice A ws.length cap], .slice Ap ps.length cp, .int .i64 s] w fun e w' => e = .returned (.bool (jp ws ps s)) ∧ Below w.heap.size w w' := by
  have HR := Lib.hid hr
  have HP := Lib.hid hp
  have HN := Lib.hid hn
  have HT := Lib.hid hT
  have HPI := Lib.hid hpi
  have hn6 := hn.hi
  obtain ⟨an, han⟩ : ∃ a, jp ws ps s = a := ⟨_, rfl⟩
  have HAN := Lib.hid han
  rw [han]
  clear hr hp hn hpi han hT
  go_enter Tryd.func44, Tryd.ntmps44
  go_wp2_with fail
  go_loopw [11] (fun i wr => ∃ k : Nat, k ≤ ps.length ∧ i = .int .i64 k ∧ jp ws (ps.take k) s = true ∧ wr.cell? ⟨w.heap.size, 0, none⟩ = some (.int .i64 m) ∧ wr.cell? ⟨w.heap.size, 1, none⟩ = some (.slice A ws.length cap) ∧ Below w.heap.size w wr ∧ w.heap.size < wr.heap.size) (fun i _ => ps.length - (intOf i).toNat)
  case atStart => exact ⟨0, Nat.zero_le _, rfl, rfl, by go_simp, by go_simp, (Below.refl _ _).alloc (Nat.le_refl _) _, by simp⟩
  case round =>
    obtain ⟨k, hk, rfl, hall, b0, b1, hb, hz⟩ := hrel
    have HB0 := Lib.hid hb
    have hk0 : (0 : Int) ≤ (k : Int) := by omega
    by_cases hlk : k < ps.length
    · obtain ⟨⟨pa, pb⟩, hx⟩ : ∃ x, ps[k]? = some x := ⟨_, List.getElem?_eq_getElem hlk⟩
      obtain ⟨b, o, rfl, hB, c0, c1⟩ := (HP.out.later hb).at_ hx
      simp only at c0 c1
      have hpb := HPI.out (pa, pb) (List.mem_of_getElem? hx)
      simp only at hpb
      obtain ⟨a0, a1, q0, q1⟩ := hpb
      have hk1 : (k : Int) < (ps.length : Int) := by omega
      have hbw : b < wr.heap.size := by omega
      have HTK := Lib.hid (jp_take (ws := ws) (s := s) hx)
      have HFA : Hid (prB ws s (pa, pb) = false → an = false) := fun h => by rw [← HAN.out]; exact jp_false hx h
      have HJP := Lib.hid (joins_pair (s := s) HN.out a0 a1 q0 q1)
      have hbd := both_bd a0 a1 q0 q1
      have HBI := Lib.hid (both_bits (a := pa) (b := pb) (by omega) (by omega))
      have HE1 := Lib.hid hbd.2
      have e0 := hbd.1
      have la := shl1_bd pa (by omega)
      have lb := shl1_bd pb (by omega)
      have HWA := Lib.hid (wrap_shl1 pa (by omega))
      have HWB := Lib.hid (wrap_shl1 pb (by omega))
      rw [hall, Bool.true_and] at HTK
      have hab : pa < 64 := by omega
      have hbb : pb < 64 := by omega
      clear hx hall hb hbd
      obtain ⟨bt, hbt⟩ : ∃ x, prB ws s (pa, pb) = x := ⟨_, rfl⟩
      rw [hbt] at HTK HFA HJP
      have HCALL : Hid (∀ W : World, Below w.heap.size w W → Calls Tryd.prog 50 #[.agg #[.int .i64 m, .slice A ws.length cap], .int .i64 s, .int .i64 (both pa pb)] W fun en w' => en = .returned (.bool bt) ∧ Below W.heap.size W w') := fun W hW => by
        have h := setJoins_any (m : Int) s (both pa pb) A cap ws W (HR.out.later hW) HN.out s0 s1 e0 HE1.out (HT.out.later hW)
        rwa [HJP.out] at h
      clear hbt e0
      cases bt
      · have HF := Lib.hid (HFA.out rfl)
        clear HTK HFA HJP
        go_wp2_with fail
        refine wp_region_held_drew (S := (fun w' => w'.cell? ⟨w.heap.size, 0, none⟩ = some (.int .i64 m) ∧ w'.cell? ⟨w.heap.size, 1, none⟩ = some (.slice A ws.length cap) ∧ w'.cell? ⟨wr.heap.size, 0, none⟩ = some (.int .i64 pa) ∧ w'.cell? ⟨wr.heap.size, 1, none⟩ = some (.int .i64 pb))) (by kernel_rfl) ?_ (fun hHeld => ?_)
        · exact ⟨by go_simp, by go_simp, by go_simp, by go_simp⟩
        refine wpAnyH_take (i := 0) (v := ?_) rfl (by kernel_rfl) (by kernel_rfl) (by kernel_rfl) (fun _ _ _ h => h) (Or.inl ⟨by rfl, ?_⟩) (by assumption) ?_
        rotate_left
        · (intro w hSw; (try dsimp only at hSw); (try simp only [List.getElem_toArray, List.getElem_cons_succ, List.getElem_cons_zero]); first | (go_simp; done) | (go_simp; with_reducible rfl))
        try simp only [Act.put, List.getElem_toArray, List.getElem_cons_succ, List.getElem_cons_zero, List.setIfInBounds_toArray, List.set_cons_zero, List.set_cons_succ]
        refine wpAnyH_take (i := 1) (v := ?_) rfl (by kernel_rfl) (by kernel_rfl) (by kernel_rfl) (fun _ _ _ h => h) (Or.inl ⟨by rfl, ?_⟩) (by assumption) ?_
        rotate_left
        · (intro w hSw; (try dsimp only at hSw); (try simp only [List.getElem_toArray, List.getElem_cons_succ, List.getElem_cons_zero]); first | (go_simp; done) | (go_simp; with_reducible rfl))
        try simp only [Act.put, List.getElem_toArray, List.getElem_cons_succ, List.getElem_cons_zero, List.setIfInBounds_toArray, List.set_cons_zero, List.set_cons_succ]
        refine wpAnyH_take (i := 2) (v := ?_) rfl (by kernel_rfl) (by kernel_rfl) (by kernel_rfl) (fun _ _ _ h => h) (Or.inl ⟨by rfl, ?_⟩) (by assumption) ?_
        rotate_left
        · (intro w hSw; (try dsimp only at hSw); (try simp only [List.getElem_toArray, List.getElem_cons_succ, List.getElem_cons_zero]); first | (go_simp; done) | (go_simp; with_reducible rfl))
        try simp only [Act.put, List.getElem_toArray, List.getElem_cons_succ, List.getElem_cons_zero, List.setIfInBounds_toArray, List.set_cons_zero, List.set_cons_succ]
        refine wpAnyH_take (i := 3) (v := ?_) rfl (by kernel_rfl) (by kernel_rfl) (by kernel_rfl) (fun _ _ _ h => h) (Or.inl ⟨by rfl, ?_⟩) (by assumption) ?_
        rotate_left
        · (intro w hSw; (try dsimp only at hSw); (try simp only [List.getElem_toArray, List.getElem_cons_succ, List.getElem_cons_zero]); first | (go_simp; done) | (go_simp; with_reducible rfl))
        try simp only [Act.put, List.getElem_toArray, List.getElem_cons_succ, List.getElem_cons_zero, List.setIfInBounds_toArray, List.set_cons_zero, List.set_cons_succ]
        refine wpAnyH_take (i := 4) (v := ?_) rfl (by kernel_rfl) (by kernel_rfl) (by kernel_rfl) (fun _ _ _ h => h) (Or.inl ⟨by rfl, ?_⟩) (by assumption) ?_
        rotate_left
        · (intro w hSw; (try dsimp only at hSw); (try simp only [List.getElem_toArray, List.getElem_cons_succ, List.getElem_cons_zero]); first | (go_simp; done) | (go_simp; with_reducible rfl))
        try simp only [Act.put, List.getElem_toArray, List.getElem_cons_succ, List.getElem_cons_zero, List.setIfInBounds_toArray, List.set_cons_zero, List.set_cons_succ]
        refine wpAnyH_take (i := 5) (v := ?_) rfl (by kernel_rfl) (by kernel_rfl) (by kernel_rfl) (fun _ _ _ h => h) (Or.inl ⟨by rfl, ?_⟩) (by assumption) ?_
        rotate_left
        · (intro w hSw; (try dsimp only at hSw); (try simp only [List.getElem_toArray, List.getElem_cons_succ, List.getElem_cons_zero]); first | (go_simp; done) | (go_simp; with_reducible rfl))
        try simp only [Act.put, List.getElem_toArray, List.getElem_cons_succ, List.getElem_cons_zero, List.setIfInBounds_toArray, List.set_cons_zero, List.set_cons_succ]
        refine wpAnyH_take (i := 6) (v := ?_) rfl (by kernel_rfl) (by kernel_rfl) (by kernel_rfl) (fun _ _ _ h => h) (Or.inl ⟨by rfl, ?_⟩) (by assumption) ?_
        rotate_left
        · (intro w hSw; (try dsimp only at hSw); (try simp only [List.getElem_toArray, List.getElem_cons_succ, List.getElem_cons_zero]); first | (go_simp; done) | (go_simp; with_reducible rfl))
        try simp only [Act.put, List.getElem_toArray, List.getElem_cons_succ, List.getElem_cons_zero, List.setIfInBounds_toArray, List.set_cons_zero, List.set_cons_succ]
        refine wpAnyH_take (i := 7) (v := ?_) rfl (by kernel_rfl) (by kernel_rfl) (by kernel_rfl) (fun _ _ _ h => h) (Or.inl ⟨by rfl, ?_⟩) (by assumption) ?_
        rotate_left
        · (intro w hSw; (try dsimp only at hSw); (try simp only [List.getElem_toArray, List.getElem_cons_succ, List.getElem_cons_zero]); first | (go_simp; done) | (go_simp; with_reducible rfl))
        try simp only [Act.put, List.getElem_toArray, List.getElem_cons_succ, List.getElem_cons_zero, List.setIfInBounds_toArray, List.set_cons_zero, List.set_cons_succ]
        refine wpAnyH_take (i := 8) (v := ?_) rfl (by kernel_rfl) (by kernel_rfl) (by kernel_rfl) (fun _ _ _ h => h) (Or.inl ⟨by rfl, ?_⟩) (by assumption) ?_
        rotate_left
        · (intro w hSw; (try dsimp only at hSw); (try simp only [List.getElem_toArray, List.getElem_cons_succ, List.getElem_cons_zero]); first | (go_simp; done) | (go_simp; with_reducible rfl))
        try simp only [Act.put, List.getElem_toArray, List.getElem_cons_succ, List.getElem_cons_zero, List.setIfInBounds_toArray, List.set_cons_zero, List.set_cons_succ]
        refine wpAnyH_ready (rs := [9]) (by kernel_rfl) (by simp) ?_
        refine AllReadyH.cons rfl (fun K hK => ?_) AllReadyH.nil
        try simp only [List.getElem_toArray, List.getElem_cons_succ, List.getElem_cons_zero]
        go_simp
        go_at_call 50; rw [HBI.out]; refine (HCALL.out _ (by have := HB0.out; go_grown)).mono ?_; rintro e3 w3 ⟨rfl, hb3⟩; have gg3 := und hb3; have g3 : Below w.heap.size w w3 := bstep (by have := HB0.out; go_grown) (by go_size) gg3; have z3 : w.heap.size < w3.heap.size := (by have hq := gg3.size; simp at hq; omega); have k3 := (⟨(gg3.cell (p := ⟨w.heap.size, 0, none⟩) (by go_size)).trans hHeld.1, (gg3.cell (p := ⟨w.heap.size, 1, none⟩) (by go_size)).trans hHeld.2.1, (gg3.cell (p := ⟨wr.heap.size, 0, none⟩) (by go_size)).trans hHeld.2.2.1, (gg3.cell (p := ⟨wr.heap.size, 1, none⟩) (by go_size)).trans hHeld.2.2.2⟩ : _ ∧ _ ∧ _ ∧ _)
        refine hK.out _ _ ?_ (fun hHeld => ?_)
        · exact k3
        clear hK K
        try simp only [Act.put, List.getElem_toArray, List.getElem_cons_succ, List.getElem_cons_zero, List.setIfInBounds_toArray, List.set_cons_zero, List.set_cons_succ]
        refine wpAnyH_take (i := 10) (v := ?_) rfl (by kernel_rfl) (by kernel_rfl) (by kernel_rfl) (fun _ _ _ h => h) (Or.inl ⟨by rfl, ?_⟩) (by assumption) ?_
        rotate_left
        · (intro w hSw; (try dsimp only at hSw); (try simp only [List.getElem_toArray, List.getElem_cons_succ, List.getElem_cons_zero]); first | (go_simp; done) | (go_simp; with_reducible rfl))
        try simp only [Act.put, List.getElem_toArray, List.getElem_cons_succ, List.getElem_cons_zero, List.setIfInBounds_toArray, List.set_cons_zero, List.set_cons_succ]
        refine wpAnyH_done (by kernel_rfl) ?_ _
        go_wp2_with fail
        go_ret
        exact ⟨ret_bool HF.out.symm, g3⟩
      · clear HFA HJP
        go_wp2_with fail
        refine wp_region_held_drew (S := (fun w' => w'.cell? ⟨w.heap.size, 0, none⟩ = some (.int .i64 m) ∧ w'.cell? ⟨w.heap.size, 1, none⟩ = some (.slice A ws.length cap) ∧ w'.cell? ⟨wr.heap.size, 0, none⟩ = some (.int .i64 pa) ∧ w'.cell? ⟨wr.heap.size, 1, none⟩ = some (.int .i64 pb))) (by kernel_rfl) ?_ (fun hHeld => ?_)
        · exact ⟨by go_simp, by go_simp, by go_simp, by go_simp⟩
        refine wpAnyH_take (i := 0) (v := ?_) rfl (by kernel_rfl) (by kernel_rfl) (by kernel_rfl) (fun _ _ _ h => h) (Or.inl ⟨by rfl, ?_⟩) (by assumption) ?_
        rotate_left
        · (intro w hSw; (try dsimp only at hSw); (try simp only [List.getElem_toArray, List.getElem_cons_succ, List.getElem_cons_zero]); first | (go_simp; done) | (go_simp; with_reducible rfl))
        try simp only [Act.put, List.getElem_toArray, List.getElem_cons_succ, List.getElem_cons_zero, List.setIfInBounds_toArray, List.set_cons_zero, List.set_cons_succ]
        refine wpAnyH_take (i := 1) (v := ?_) rfl (by kernel_rfl) (by kernel_rfl) (by kernel_rfl) (fun _ _ _ h => h) (Or.inl ⟨by rfl, ?_⟩) (by assumption) ?_
        rotate_left
        · (intro w hSw; (try dsimp only at hSw); (try simp only [List.getElem_toArray, List.getElem_cons_succ, List.getElem_cons_zero]); first | (go_simp; done) | (go_simp; with_reducible rfl))
        try simp only [Act.put, List.getElem_toArray, List.getElem_cons_succ, List.getElem_cons_zero, List.setIfInBounds_toArray, List.set_cons_zero, List.set_cons_succ]
        refine wpAnyH_take (i := 2) (v := ?_) rfl (by kernel_rfl) (by kernel_rfl) (by kernel_rfl) (fun _ _ _ h => h) (Or.inl ⟨by rfl, ?_⟩) (by assumption) ?_
        rotate_left
        · (intro w hSw; (try dsimp only at hSw); (try simp only [List.getElem_toArray, List.getElem_cons_succ, List.getElem_cons_zero]); first | (go_simp; done) | (go_simp; with_reducible rfl))
        try simp only [Act.put, List.getElem_toArray, List.getElem_cons_succ, List.getElem_cons_zero, List.setIfInBounds_toArray, List.set_cons_zero, List.set_cons_succ]
        refine wpAnyH_take (i := 3) (v := ?_) rfl (by kernel_rfl) (by kernel_rfl) (by kernel_rfl) (fun _ _ _ h => h) (Or.inl ⟨by rfl, ?_⟩) (by assumption) ?_
        rotate_left
        · (intro w hSw; (try dsimp only at hSw); (try simp only [List.getElem_toArray, List.getElem_cons_succ, List.getElem_cons_zero]); first | (go_simp; done) | (go_simp; with_reducible rfl))
        try simp only [Act.put, List.getElem_toArray, List.getElem_cons_succ, List.getElem_cons_zero, List.setIfInBounds_toArray, List.set_cons_zero, List.set_cons_succ]
        refine wpAnyH_take (i := 4) (v := ?_) rfl (by kernel_rfl) (by kernel_rfl) (by kernel_rfl) (fun _ _ _ h => h) (Or.inl ⟨by rfl, ?_⟩) (by assumption) ?_
        rotate_left
        · (intro w hSw; (try dsimp only at hSw); (try simp only [List.getElem_toArray, List.getElem_cons_succ, List.getElem_cons_zero]); first | (go_simp; done) | (go_simp; with_reducible rfl))
        try simp only [Act.put, List.getElem_toArray, List.getElem_cons_succ, List.getElem_cons_zero, List.setIfInBounds_toArray, List.set_cons_zero, List.set_cons_succ]
        refine wpAnyH_take (i := 5) (v := ?_) rfl (by kernel_rfl) (by kernel_rfl) (by kernel_rfl) (fun _ _ _ h => h) (Or.inl ⟨by rfl, ?_⟩) (by assumption) ?_
        rotate_left
        · (intro w hSw; (try dsimp only at hSw); (try simp only [List.getElem_toArray, List.getElem_cons_succ, List.getElem_cons_zero]); first | (go_simp; done) | (go_simp; with_reducible rfl))
        try simp only [Act.put, List.getElem_toArray, List.getElem_cons_succ, List.getElem_cons_zero, List.setIfInBounds_toArray, List.set_cons_zero, List.set_cons_succ]
        refine wpAnyH_take (i := 6) (v := ?_) rfl (by kernel_rfl) (by kernel_rfl) (by kernel_rfl) (fun _ _ _ h => h) (Or.inl ⟨by rfl, ?_⟩) (by assumption) ?_
        rotate_left
        · (intro w hSw; (try dsimp only at hSw); (try simp only [List.getElem_toArray, List.getElem_cons_succ, List.getElem_cons_zero]); first | (go_simp; done) | (go_simp; with_reducible rfl))
        try simp only [Act.put, List.getElem_toArray, List.getElem_cons_succ, List.getElem_cons_zero, List.setIfInBounds_toArray, List.set_cons_zero, List.set_cons_succ]
        refine wpAnyH_take (i := 7) (v := ?_) rfl (by kernel_rfl) (by kernel_rfl) (by kernel_rfl) (fun _ _ _ h => h) (Or.inl ⟨by rfl, ?_⟩) (by assumption) ?_
        rotate_left
        · (intro w hSw; (try dsimp only at hSw); (try simp only [List.getElem_toArray, List.getElem_cons_succ, List.getElem_cons_zero]); first | (go_simp; done) | (go_simp; with_reducible rfl))
        try simp only [Act.put, List.getElem_toArray, List.getElem_cons_succ, List.getElem_cons_zero, List.setIfInBounds_toArray, List.set_cons_zero, List.set_cons_succ]
        refine wpAnyH_take (i := 8) (v := ?_) rfl (by kernel_rfl) (by kernel_rfl) (by kernel_rfl) (fun _ _ _ h => h) (Or.inl ⟨by rfl, ?_⟩) (by assumption) ?_
        rotate_left
        · (intro w hSw; (try dsimp only at hSw); (try simp only [List.getElem_toArray, List.getElem_cons_succ, List.getElem_cons_zero]); first | (go_simp; done) | (go_simp; with_reducible rfl))
        try simp only [Act.put, List.getElem_toArray, List.getElem_cons_succ, List.getElem_cons_zero, List.setIfInBounds_toArray, List.set_cons_zero, List.set_cons_succ]
        refine wpAnyH_ready (rs := [9]) (by kernel_rfl) (by simp) ?_
        refine AllReadyH.cons rfl (fun K hK => ?_) AllReadyH.nil
        try simp only [List.getElem_toArray, List.getElem_cons_succ, List.getElem_cons_zero]
        go_simp
        go_at_call 50; rw [HBI.out]; refine (HCALL.out _ (by have := HB0.out; go_grown)).mono ?_; rintro e3 w3 ⟨rfl, hb3⟩; have gg3 := und hb3; have g3 : Below w.heap.size w w3 := bstep (by have := HB0.out; go_grown) (by go_size) gg3; have z3 : w.heap.size < w3.heap.size := (by have hq := gg3.size; simp at hq; omega); have k3 := (⟨(gg3.cell (p := ⟨w.heap.size, 0, none⟩) (by go_size)).trans hHeld.1, (gg3.cell (p := ⟨w.heap.size, 1, none⟩) (by go_size)).trans hHeld.2.1, (gg3.cell (p := ⟨wr.heap.size, 0, none⟩) (by go_size)).trans hHeld.2.2.1, (gg3.cell (p := ⟨wr.heap.size, 1, none⟩) (by go_size)).trans hHeld.2.2.2⟩ : _ ∧ _ ∧ _ ∧ _)
        refine hK.out _ _ ?_ (fun hHeld => ?_)
        · exact k3
        clear hK K
        try simp only [Act.put, List.getElem_toArray, List.getElem_cons_succ, List.getElem_cons_zero, List.setIfInBounds_toArray, List.set_cons_zero, List.set_cons_succ]
        refine wpAnyH_take (i := 10) (v := ?_) rfl (by kernel_rfl) (by kernel_rfl) (by kernel_rfl) (fun _ _ _ h => h) (Or.inl ⟨by rfl, ?_⟩) (by assumption) ?_
        rotate_left
        · (intro w hSw; (try dsimp only at hSw); (try simp only [List.getElem_toArray, List.getElem_cons_succ, List.getElem_cons_zero]); first | (go_simp; done) | (go_simp; with_reducible rfl))
        try simp only [Act.put, List.getElem_toArray, List.getElem_cons_succ, List.getElem_cons_zero, List.setIfInBounds_toArray, List.set_cons_zero, List.set_cons_succ]
        refine wpAnyH_done (by kernel_rfl) ?_ _
        go_wp2_with fail
        go_roundw
        case rel => exact ⟨k + 1, by omega, by go_num, HTK.out, hHeld.1, hHeld.2.1, g3, z3⟩
        case measure => (simp [intOf]) <;> omega
    · obtain rfl : k = ps.length := by omega
      rw [List.take_length] at hall
      have HF : Hid (an = true) := by rw [← HAN.out]; exact hall
      clear hall hb
      go_wp2_with fail
      go_ret
      exact ⟨ret_bool HF.out.symm, HB0.out⟩
set_option maxHeartbeats 2000000 in
theorem JoinsPairs_any (n s : Int) (A : Option Addr) (cap : Nat) (ws : List Wy) (Ap : Option Addr) (cp : Nat) (ps : List (Int × Int)) (w : World) (hr : RW w w.heap.size A ws) (hT : Tab w) (hp : RC w w.heap.size Ap ps) (hpm : ps.length ≤ 1073741824) :
    Calls Tryd.prog 13 #[.agg #[.int .i64 n, .slice A ws.length cap], .slice Ap ps.length cp, .int .i64 s] w fun e w' => e = .returned (.bool (joinsPairs n ws ps s)) ∧ Below w.heap.size w w' := by
  have HR := Lib.hid hr
  have HP := Lib.hid hp
  have HT := Lib.hid hT
  clear hr hp hT
  unfold joinsPairs
  cases hok : pairsOk n ws ps
  · have HOK := Lib.hid hok
    rw [Bool.false_and]
    clear hok
    go_enter Tryd.func13, Tryd.ntmps13
    go_wp2_with fail
    refine (PairsOk_any _ _ _ _ _ _ _ _ (HR.out.later (by go_grown)) (HP.out.later (by go_grown)) hpm).mono ?_; rintro e w1 ⟨rfl, hb1⟩
    rw [HOK.out]
    obtain ⟨hc1, hf1⟩ := bcell hb1
    have hz1_0 : w.heap.size < w1.heap.size := by have hq := hb1.size; (try simp at hq); omega
    have HK1 := Lib.hid hb1
    have HB1 := Lib.hid (bstep (B := w.heap.size) (W := w) (by (try have hp := HB0.out); go_grown) (by go_size) hb1); clear hb1
    go_wp2_with fail
    go_ret
    exact ⟨rfl, HB1.out⟩
  · have HOK := Lib.hid hok
    have hpo := pairsOk_t hok
    have hni := netOk_t hpo.1
    have HN := Lib.hid hni
    have hn2 := hni.lo
    have HPI : Hid (PrIn n ps) := hpo.2.2
    cases hs : setOk n ws s
    · have HS := Lib.hid hs
      rw [Bool.true_and, Bool.false_and]
      clear hok hpo hni hs
      go_enter Tryd.func13, Tryd.ntmps13
      go_wp2_with fail
      refine (PairsOk_any _ _ _ _ _ _ _ _ (HR.out.later (by go_grown)) (HP.out.later (by go_grown)) hpm).mono ?_; rintro e w1 ⟨rfl, hb1⟩
      rw [HOK.out]
      obtain ⟨hc1, hf1⟩ := bcell hb1
      have hz1_0 : w.heap.size < w1.heap.size := by have hq := hb1.size; (try simp at hq); omega
      have HK1 := Lib.hid hb1
      have HB1 := Lib.hid (bstep (B := w.heap.size) (W := w) (by (try have hp := HB0.out); go_grown) (by go_size) hb1); clear hb1
      go_wp2_with fail
      refine (waysOk_any _ _ _ _ _ _ (HR.out.later (by have := HB1.out; go_grown))).mono ?_; rintro e w2 ⟨rfl, hb2⟩
      rw [HS.out]
      obtain ⟨hc2, hf2⟩ := bcell hb2
      have hz2_0 : w.heap.size < w2.heap.size := by have hq := hb2.size; (try simp at hq); omega
      have HK2 := Lib.hid hb2
      have HB2 := Lib.hid (bstep (B := w.heap.size) (W := w) (by have hp := HB1.out; go_grown) (by go_size) hb2); clear hb2
      go_wp2_with fail
      go_ret
      exact ⟨rfl, HB2.out⟩
    · have HS := Lib.hid hs
      obtain ⟨-, s0, -, s1⟩ := setOk_t hs
      obtain ⟨m, rfl⟩ := Int.eq_ofNat_of_zero_le (show 0 ≤ n by omega)
      rw [Bool.true_and, Bool.true_and]
      clear hok hpo hni hs
      go_enter Tryd.func13, Tryd.ntmps13
      go_wp2_with fail
      refine (PairsOk_any _ _ _ _ _ _ _ _ (HR.out.later (by go_grown)) (HP.out.later (by go_grown)) hpm).mono ?_; rintro e w1 ⟨rfl, hb1⟩
      rw [HOK.out]
      obtain ⟨hc1, hf1⟩ := bcell hb1
      have hz1_0 : w.heap.size < w1.heap.size := by have hq := hb1.size; (try simp at hq); omega
      have HK1 := Lib.hid hb1
      have HB1 := Lib.hid (bstep (B := w.heap.size) (W := w) (by (try have hp := HB0.out); go_grown) (by go_size) hb1); clear hb1
      go_wp2_with fail
      refine (waysOk_any _ _ _ _ _ _ (HR.out.later (by have := HB1.out; go_grown))).mono ?_; rintro e w2 ⟨rfl, hb2⟩
      rw [HS.out]
      obtain ⟨hc2, hf2⟩ := bcell hb2
      have hz2_0 : w.heap.size < w2.heap.size := by have hq := hb2.size; (try simp at hq); omega
      have HK2 := Lib.hid hb2
      have HB2 := Lib.hid (bstep (B := w.heap.size) (W := w) (by have hp := HB1.out; go_grown) (by go_size) hb2); clear hb2
      go_wp2_with fail
      refine (setJoinsPairs_any _ _ _ _ _ _ _ _ _ (HR.out.later (by have := HB2.out; go_grown)) HN.out (HP.out.later (by have := HB2.out; go_grown)) hpm HPI.out s0 (by omega) (HT.out.later (by have := HB2.out; go_grown))).mono ?_; rintro e w3 ⟨rfl, hb3⟩
      obtain ⟨hc3, hf3⟩ := bcell hb3
      have hz3_0 : w.heap.size < w3.heap.size := by have hq := hb3.size; (try simp at hq); omega
      have HK3 := Lib.hid hb3
      have HB3 := Lib.hid (bstep (B := w.heap.size) (W := w) (by have hp := HB2.out; go_grown) (by go_size) hb3); clear hb3
      go_wp2_with fail
      go_ret
      exact ⟨rfl, HB3.out⟩
set_option maxHeartbeats 4000000 in
theorem PairsOf_any (n : Int) (A : Option Addr) (cap : Nat) (ws : List Wy) (Ap : Option Addr) (cp : Nat) (ps : List (Int × Int)) (w : World) (hr : RW w w.heap.size A ws) (hT : Tab w) (hp : RC w w.heap.size Ap ps) (hpm : ps.length ≤ 1073741824) :
    Calls Tryd.prog 19 #[.agg #[.int .i64 n, .slice A ws.length cap], .slice Ap ps.length cp] w fun en w' => en = .returned (.int .i64 (pairsOf n ws ps)) ∧ Below w.heap.size w w' := by
  have HR := Lib.hid hr
  have HP := Lib.hid hp
  have HT := Lib.hid hT
  clear hr hp hT
  unfold pairsOf
  cases hok : pairsOk n ws ps
  · have HOK := Lib.hid hok
    rw [if_neg (by simp)]
    clear hok
    go_enter Tryd.func19, Tryd.ntmps19
    go_wp2_with fail
    refine (PairsOk_any _ _ _ _ _ _ _ _ (HR.out.later (by go_grown)) (HP.out.later (by go_grown)) hpm).mono ?_; rintro e w1 ⟨rfl, hb1⟩
    rw [HOK.out]
    obtain ⟨hc1, hf1⟩ := bcell hb1
    have hz1_0 : w.heap.size < w1.heap.size := by have hq := hb1.size; (try simp at hq); omega
    have HK1 := Lib.hid hb1
    have HB1 := Lib.hid (bstep (B := w.heap.size) (W := w) (by (try have hp := HB0.out); go_grown) (by go_size) hb1); clear hb1
    go_wp2_with fail
    go_ret
    exact ⟨rfl, HB1.out⟩
  have HOK := Lib.hid hok
  have hpo := pairsOk_t hok
  have hni := netOk_t hpo.1
  have hn2 := hni.lo
  obtain ⟨mm, rfl⟩ := Int.eq_ofNat_of_zero_le (show 0 ≤ n by omega)
  have HN := Lib.hid hni
  have HPI : Hid (PrIn (mm : Int) ps) := hpo.2.2
  have hl9 := hni.len
  have hfb := full_bd ws.length hl9
  have hpl := pow_bd (ws.length : Int) 9 (by omega)
  rw [Int.toNat_natCast] at hpl
  have hpw : ((2 : Int) ^ ws.length) = ((2 ^ ws.length : Nat) : Int) := by simp
  obtain ⟨N, hN⟩ : ∃ N : Nat, 2 ^ ws.length = N := ⟨_, rfl⟩
  have hfN : full ws.length + 1 = (N : Int) := by unfold full; rw [hpw, hN]; omega
  have hN9 : N ≤ 512 := by rw [hN] at hpw; omega
  rw [if_pos rfl]
  have HBP : Hid (bp ws ps = bpTo ws ps N) := by show bp ws ps = _; unfold bp; rw [hN]
  have HFN := Lib.hid hfN
  obtain ⟨F, hF⟩ : ∃ F : Int, full ws.length = F := ⟨_, rfl⟩
  rw [hF] at hfN hfb
  have HF := Lib.hid hF
  clear hok hpo hni hpw hN hpl hF
  go_enter Tryd.func19, Tryd.ntmps19
  go_wp2_with fail
  refine (PairsOk_any _ _ _ _ _ _ _ _ (HR.out.later (by go_grown)) (HP.out.later (by go_grown)) hpm).mono ?_; rintro e9 w9 ⟨rfl, hb9⟩; rw [HOK.out]
  have hz9 : w.heap.size < w9.heap.size := by have hq := hb9.size; (try simp at hq); omega
  obtain ⟨hc9, hf9⟩ := bcell hb9
  have HB9 := Lib.hid (bstep (B := w.heap.size) (W := w) (by go_grown) (by go_size) hb9)
  have k9 : w9.cell? ⟨w.heap.size, 0, none⟩ = some (.int .i64 mm) ∧ w9.cell? ⟨w.heap.size, 1, none⟩ = some (.slice A ws.length cap) := ⟨by go_simp, by go_simp⟩
  clear hb9 hc9 hf9
  obtain ⟨k90, k91⟩ := k9
  go_wp2_with fail
  refine (allWays_any mm A ws.length cap (by omega) _).mono ?_; rintro e1 w1 ⟨rfl, hb1⟩; rw [HF.out]
  have hz1_0 : w.heap.size < w1.heap.size := by have hq := hb1.size; (try simp at hq); omega
  obtain ⟨hc1, hf1⟩ := bcell hb1
  have HB1 := Lib.hid (bstep (B := w.heap.size) (W := w) (by have := HB9.out; go_grown) (by go_size) hb1)
  have k1 : w1.cell? ⟨w.heap.size, 0, none⟩ = some (.int .i64 mm) ∧ w1.cell? ⟨w.heap.size, 1, none⟩ = some (.slice A ws.length cap) := ⟨by go_simp, by go_simp⟩
  clear hb1
  go_wp2_with fail
  clear hc1 hf1
  go_loopw [5, 14] (fun c i wr => ∃ k : Nat, k ≤ N ∧ i = .int .i64 k ∧ c = .int .i64 (bpTo ws ps k) ∧ wr.cell? ⟨w.heap.size, 0, none⟩ = some (.int .i64 mm) ∧ wr.cell? ⟨w.heap.size, 1, none⟩ = some (.slice A ws.length cap) ∧ Below w.heap.size w wr ∧ w.heap.size < wr.heap.size) (fun _ i _ => N - (intOf i).toNat)
  case atStart => exact ⟨0, Nat.zero_le _, rfl, rfl, k1.1, k1.2, HB1.out, hz1_0⟩
  case round =>
    clear k1
    obtain ⟨k, hk, rfl, rfl, b0, b1, hb, hz⟩ := hrel
    have HB0 := Lib.hid hb
    have hbd := bpTo_bd ws ps k
    have hbd0 := hbd.1
    have hbd1 := hbd.2
    clear hb hbd
    by_cases hlt : k < N
    · have hltF : (k : Int) < F + 1 := by omega
      by_cases hneg : bpTo ws ps k < 0
      · cases hj : jp ws ps (k : Int)
        · have HY := Lib.hid (bpTo_no (ws := ws) (ps := ps) (k := k) (.inl hj))
          have HJ := Lib.hid hj
          clear hj
          go_wp2_with fail
          refine (setJoinsPairs_any mm k A cap ws Ap cp ps _ (HR.out.later (by have := HB0.out; go_grown)) HN.out (HP.out.later (by have := HB0.out; go_grown)) hpm HPI.out (by omega) (by omega) (HT.out.later (by have := HB0.out; go_grown))).mono ?_; rintro e3 w3 ⟨rfl, hb3⟩; rw [HJ.out]
          have k3 := keep2 hb3 ⟨b0, b1⟩ hz
          have z3 := Nat.lt_of_lt_of_le hz hb3.size
          have HB3 := Lib.hid (bstep (B := w.heap.size) (W := w) HB0.out (by omega) hb3)
          clear hb3
          go_wp2_with fail
          go_roundw
          case rel => exact ⟨k + 1, by omega, by go_num, by rw [HY.out], k3.1, k3.2, HB3.out, z3⟩
          case measure => simp [intOf]; omega
        · have HY := Lib.hid (bpTo_yes (ws := ws) (ps := ps) (k := k) (.inl hneg) hj)
          have HJ := Lib.hid hj
          clear hj
          go_wp2_with fail
          refine (setJoinsPairs_any mm k A cap ws Ap cp ps _ (HR.out.later (by have := HB0.out; go_grown)) HN.out (HP.out.later (by have := HB0.out; go_grown)) hpm HPI.out (by omega) (by omega) (HT.out.later (by have := HB0.out; go_grown))).mono ?_; rintro e3 w3 ⟨rfl, hb3⟩; rw [HJ.out]
          have k3 := keep2 hb3 ⟨b0, b1⟩ hz
          have z3 := Nat.lt_of_lt_of_le hz hb3.size
          have HB3 := Lib.hid (bstep (B := w.heap.size) (W := w) HB0.out (by omega) hb3)
          clear hb3
          go_wp2_with fail
          go_roundw
          case rel => exact ⟨k + 1, by omega, by go_num, by rw [HY.out], k3.1, k3.2, HB3.out, z3⟩
          case measure => simp [intOf]; omega
      · have hge : 0 ≤ bpTo ws ps k := by omega
        cases hc : chp ws (k : Int) (bpTo ws ps k)
        · have HY := Lib.hid (bpTo_no (ws := ws) (ps := ps) (k := k) (.inr ⟨hneg, hc⟩))
          have HC := Lib.hid hc
          clear hc
          go_wp2_with fail
          refine (cheaper_any mm k (bpTo ws ps k) A cap ws _ (HR.out.later (by have := HB0.out; go_grown)) HN.out (by omega) (by omega) hge (by omega)).mono ?_; rintro e3 w3 ⟨rfl, hb3⟩; rw [HC.out]
          have k3 := keep2 hb3 ⟨b0, b1⟩ hz
          have z3 := Nat.lt_of_lt_of_le hz hb3.size
          have HB3 := Lib.hid (bstep (B := w.heap.size) (W := w) HB0.out (by omega) hb3)
          clear hb3
          go_wp2_with fail
          go_roundw
          case rel => exact ⟨k + 1, by omega, by go_num, by rw [HY.out], k3.1, k3.2, HB3.out, z3⟩
          case measure => simp [intOf]; omega
        · cases hj : jp ws ps (k : Int)
          · have HY := Lib.hid (bpTo_no (ws := ws) (ps := ps) (k := k) (.inl hj))
            have HC := Lib.hid hc
            have HJ := Lib.hid hj
            clear hj hc
            go_wp2_with fail
            refine (cheaper_any mm k (bpTo ws ps k) A cap ws _ (HR.out.later (by have := HB0.out; go_grown)) HN.out (by omega) (by omega) hge (by omega)).mono ?_; rintro e3 w3 ⟨rfl, hb3⟩; rw [HC.out]
            have k3 := keep2 hb3 ⟨b0, b1⟩ hz
            have z3 := Nat.lt_of_lt_of_le hz hb3.size
            have HB3 := Lib.hid (bstep (B := w.heap.size) (W := w) HB0.out (by omega) hb3)
            clear hb3
            obtain ⟨l0, l1⟩ := k3
            go_wp2_with fail
            refine (setJoinsPairs_any mm k A cap ws Ap cp ps _ (HR.out.later (by have := HB3.out; go_grown)) HN.out (HP.out.later (by have := HB3.out; go_grown)) hpm HPI.out (by omega) (by omega) (HT.out.later (by have := HB3.out; go_grown))).mono ?_; rintro e4 w4 ⟨rfl, hb4⟩; rw [HJ.out]
            have k4 := keep2 hb4 ⟨l0, l1⟩ z3
            have z4 := Nat.lt_of_lt_of_le z3 hb4.size
            have HB4 := Lib.hid (bstep (B := w.heap.size) (W := w) HB3.out (by omega) hb4)
            clear hb4
            go_wp2_with fail
            go_roundw
            case rel => exact ⟨k + 1, by omega, by go_num, by rw [HY.out], k4.1, k4.2, HB4.out, z4⟩
            case measure => simp [intOf]; omega
          · have HY := Lib.hid (bpTo_yes (ws := ws) (ps := ps) (k := k) (.inr hc) hj)
            have HC := Lib.hid hc
            have HJ := Lib.hid hj
            clear hj hc
            go_wp2_with fail
            refine (cheaper_any mm k (bpTo ws ps k) A cap ws _ (HR.out.later (by have := HB0.out; go_grown)) HN.out (by omega) (by omega) hge (by omega)).mono ?_; rintro e3 w3 ⟨rfl, hb3⟩; rw [HC.out]
            have k3 := keep2 hb3 ⟨b0, b1⟩ hz
            have z3 := Nat.lt_of_lt_of_le hz hb3.size
            have HB3 := Lib.hid (bstep (B := w.heap.size) (W := w) HB0.out (by omega) hb3)
            clear hb3
            obtain ⟨l0, l1⟩ := k3
            go_wp2_with fail
            refine (setJoinsPairs_any mm k A cap ws Ap cp ps _ (HR.out.later (by have := HB3.out; go_grown)) HN.out (HP.out.later (by have := HB3.out; go_grown)) hpm HPI.out (by omega) (by omega) (HT.out.later (by have := HB3.out; go_grown))).mono ?_; rintro e4 w4 ⟨rfl, hb4⟩; rw [HJ.out]
            have k4 := keep2 hb4 ⟨l0, l1⟩ z3
            have z4 := Nat.lt_of_lt_of_le z3 hb4.size
            have HB4 := Lib.hid (bstep (B := w.heap.size) (W := w) HB3.out (by omega) hb4)
            clear hb4
            go_wp2_with fail
            go_roundw
            case rel => exact ⟨k + 1, by omega, by go_num, by rw [HY.out], k4.1, k4.2, HB4.out, z4⟩
            case measure => simp [intOf]; omega
    · have hkN : k = N := by omega
      subst hkN
      have hge : ¬ (k : Int) < F + 1 := by omega
      go_wp2_with fail
      go_ret
      exact ⟨ret_int HBP.out.symm, HB0.out⟩
theorem pairsCost_is {n : Int} {ws : List Wy} {ps : List (Int × Int)} : costOf n ws (pairsOf n ws ps) = pairsCost n ws ps := by
  unfold pairsOf pairsCost
  have hm : setOk n ws (-1) = false := by
    cases h : setOk n ws (-1)
    · rfl
    · have := (setOk_t h).2.1; omega
  cases h : pairsOk n ws ps
  · rw [if_neg (by simp), if_neg (by simp)]; unfold costOf; rw [hm]; rfl
  · rw [if_pos rfl, if_pos rfl]
    unfold pc
    have hbd := (bpTo_bd ws ps (2 ^ ws.length)).1
    by_cases hb : bp ws ps < 0
    · rw [if_pos hb]
      have e9 : bp ws ps = -1 := by unfold bp at hb ⊢; omega
      rw [e9]; unfold costOf; rw [hm]; rfl
    · rw [if_neg hb]; unfold costOf
      rw [if_pos (setOk_mk (pairsOk_t h).1 (by omega) (bp_full ws ps))]
theorem PairsCost_any (n : Int) (A : Option Addr) (cap : Nat) (ws : List Wy) (Ap : Option Addr) (cp : Nat) (ps : List (Int × Int)) (w : World) (hr : RW w w.heap.size A ws) (hT : Tab w) (hp : RC w w.heap.size Ap ps) (hpm : ps.length ≤ 1073741824) :
    Calls Tryd.prog 21 #[.agg #[.int .i64 n, .slice A ws.length cap], .slice Ap ps.length cp] w fun e w' => e = .returned (.int .i64 (pairsCost n ws ps)) ∧ Below w.heap.size w w' := by
  have HR := Lib.hid hr
  have HP := Lib.hid hp
  have HT := Lib.hid hT
  clear hr hp hT
  rw [← pairsCost_is]
  go_enter Tryd.func21, Tryd.ntmps21
  go_wp2_with fail
  refine wp_region_held_drew (S := (fun w' => w'.cell? ⟨w.heap.size, 0, none⟩ = some (.int .i64 n) ∧ w'.cell? ⟨w.heap.size, 1, none⟩ = some (.slice A ws.length cap))) (by kernel_rfl) ?_ (fun hHeld => ?_)
  · exact ⟨by go_simp, by go_simp⟩
  refine wpAnyH_take (i := 0) (v := ?_) rfl (by kernel_rfl) (by kernel_rfl) (by kernel_rfl) (fun _ _ _ h => h) (Or.inl ⟨by rfl, ?_⟩) (by assumption) ?_
  rotate_left
  · (intro w hSw; (try dsimp only at hSw); (try simp only [List.getElem_toArray, List.getElem_cons_succ, List.getElem_cons_zero]); first | (go_simp; done) | (go_simp; with_reducible rfl))
  try simp only [Act.put, List.getElem_toArray, List.getElem_cons_succ, List.getElem_cons_zero, List.setIfInBounds_toArray, List.set_cons_zero, List.set_cons_succ]
  refine wpAnyH_take (i := 1) (v := ?_) rfl (by kernel_rfl) (by kernel_rfl) (by kernel_rfl) (fun _ _ _ h => h) (Or.inl ⟨by rfl, ?_⟩) (by assumption) ?_
  rotate_left
  · (intro w hSw; (try dsimp only at hSw); (try simp only [List.getElem_toArray, List.getElem_cons_succ, List.getElem_cons_zero]); first | (go_simp; done) | (go_simp; with_reducible rfl))
  try simp only [Act.put, List.getElem_toArray, List.getElem_cons_succ, List.getElem_cons_zero, List.setIfInBounds_toArray, List.set_cons_zero, List.set_cons_succ]
  refine wpAnyH_take (i := 2) (v := ?_) rfl (by kernel_rfl) (by kernel_rfl) (by kernel_rfl) (fun _ _ _ h => h) (Or.inl ⟨by rfl, ?_⟩) (by assumption) ?_
  rotate_left
  · (intro w hSw; (try dsimp only at hSw); (try simp only [List.getElem_toArray, List.getElem_cons_succ, List.getElem_cons_zero]); first | (go_simp; done) | (go_simp; with_reducible rfl))
  try simp only [Act.put, List.getElem_toArray, List.getElem_cons_succ, List.getElem_cons_zero, List.setIfInBounds_toArray, List.set_cons_zero, List.set_cons_succ]
  refine wpAnyH_ready (rs := [3]) (by kernel_rfl) (by simp) ?_
  refine AllReadyH.cons rfl (fun K hK => ?_) AllReadyH.nil
  try simp only [List.getElem_toArray, List.getElem_cons_succ, List.getElem_cons_zero]
  go_simp
  go_at_call 19; refine (PairsOf_any _ _ _ _ _ _ _ _ (HR.out.later (by go_grown)) (HT.out.later (by go_grown)) (HP.out.later (by go_grown)) hpm).mono ?_; rintro e2 w2 ⟨rfl, hb2⟩; have gg2 := und hb2; have g2 : Below w.heap.size w w2 := bstep (by go_grown) (by go_size) gg2; have z2 : w.heap.size < w2.heap.size := (by have hq := gg2.size; simp at hq; omega); have k2 := (⟨(gg2.cell (p := ⟨w.heap.size, 0, none⟩) (by go_size)).trans hHeld.1, (gg2.cell (p := ⟨w.heap.size, 1, none⟩) (by go_size)).trans hHeld.2⟩ : _ ∧ _)
  refine hK.out _ _ ?_ (fun hHeld => ?_)
  · exact k2
  clear hK K
  try simp only [Act.put, List.getElem_toArray, List.getElem_cons_succ, List.getElem_cons_zero, List.setIfInBounds_toArray, List.set_cons_zero, List.set_cons_succ]
  refine wpAnyH_ready (rs := [4]) (by kernel_rfl) (by simp) ?_
  refine AllReadyH.cons rfl (fun K hK => ?_) AllReadyH.nil
  try simp only [List.getElem_toArray, List.getElem_cons_succ, List.getElem_cons_zero]
  go_simp
  go_at_call 22; refine (CostOf_any _ _ _ _ _ _ (HR.out.later g2)).mono ?_; rintro e3 w3 ⟨rfl, hb3⟩; have g3 : Below w.heap.size w w3 := bstep g2 g2.size hb3; have k3 := keep2 hb3 k2 z2
  refine hK.out _ _ ?_ (fun hHeld => ?_)
  · exact k3
  clear hK K
  try simp only [Act.put, List.getElem_toArray, List.getElem_cons_succ, List.getElem_cons_zero, List.setIfInBounds_toArray, List.set_cons_zero, List.set_cons_succ]
  refine wpAnyH_take (i := 5) (v := ?_) rfl (by kernel_rfl) (by kernel_rfl) (by kernel_rfl) (fun _ _ _ h => h) (Or.inl ⟨by rfl, ?_⟩) (by assumption) ?_
  rotate_left
  · (intro w hSw; (try dsimp only at hSw); (try simp only [List.getElem_toArray, List.getElem_cons_succ, List.getElem_cons_zero]); first | (go_simp; done) | (go_simp; with_reducible rfl))
  try simp only [Act.put, List.getElem_toArray, List.getElem_cons_succ, List.getElem_cons_zero, List.setIfInBounds_toArray, List.set_cons_zero, List.set_cons_succ]
  refine wpAnyH_done (by kernel_rfl) ?_ _
  go_wp2_with fail
  go_ret
  exact ⟨rfl, g3⟩
theorem leastOf_any (x : Int) (h0 : 0 < x) (h1 : x < 64) (w : World) (hT : Tab w) :
    Calls Tryd.prog 61 #[.int .i64 x] w fun e w' => e = .returned (.int .i64 (low x)) ∧ w = w' := by
  have HT := Lib.hid hT
  have hw : IntKind.u64.wrap x = x := by rw [IntKind.wrap_u64]; omega
  clear hT
  go_enter Tryd.func61, Tryd.ntmps61
  go_wp2_with fail
  refine (TZ_any x (by omega) (by omega) _ (HT.out.later (by go_grown))).mono ?_; rintro e1 w1 ⟨rfl, rfl⟩
  go_wp2_with fail
  go_ret
  exact ⟨rfl, rfl⟩
theorem low_low {m : Nat} {ws : List Wy} (hn : NetIs (m : Int) ws) {s : Int} {k : Nat} (hk : k < m) : (low (reach ws s (k : Int)) == (k : Int)) = lowB ws s k := by
  have hri := reach_is (s := s) hn (p := (k : Int)) (by omega) (by omega)
  have h0 := hri.lo
  have h1 := hri.hi
  have hs : bit (reach ws s (k : Int)) (k : Int) = true := hri.has
  have hpos : 0 < reach ws s (k : Int) := by
    by_cases h : reach ws s (k : Int) = 0
    · rw [h, bit_zero_] at hs; cases hs
    · omega
  rw [Bool.eq_iff_iff, beq_iff_eq, lowB_iff]
  obtain ⟨l0, l1, lb, ll⟩ := low_spec (e := reach ws s (k : Int)) hpos (by omega)
  constructor
  · intro h u hu
    exact ll u (by omega) (by omega)
  · intro h
    exact low_is hpos (by omega) (by omega) hs fun j hj0 hjk => by
      have := h j.toNat (by omega)
      rwa [Int.toNat_of_nonneg hj0] at this
theorem ptTo_yes {ws : List Wy} {s : Int} {k : Nat} (h1 : bit (nodesTo ws s ws.length) k = true) (h2 : lowB ws s k = true) : ptTo ws s (k + 1) = ptTo ws s k + 1 := by
  unfold ptTo; rw [cnB, h1, h2]; simp
theorem ptTo_no {ws : List Wy} {s : Int} {k : Nat} (h : bit (nodesTo ws s ws.length) k = false ∨ lowB ws s k = false) : ptTo ws s (k + 1) = ptTo ws s k := by
  unfold ptTo; rw [cnB]
  rcases h with h | h <;> rw [h] <;> simp
set_option maxHeartbeats 4000000 in
theorem PartMany_any (n s : Int) (A : Option Addr) (cap : Nat) (ws : List Wy) (w : World) (hr : RW w w.heap.size A ws) (hT : Tab w) :
    Calls Tryd.prog 28 #[.agg #[.int .i64 n, .slice A ws.length cap], .int .i64 s] w fun e w' => e = .returned (.int .i64 (partMany n ws s)) ∧ Below w.heap.size w w' := by
  have HR := Lib.hid hr
  have HT := Lib.hid hT
  clear hr hT
  unfold partMany
  cases hok : setOk n ws s
  · have HOK := Lib.hid hok
    rw [if_neg (by simp)]
    clear hok
    go_enter Tryd.func28, Tryd.ntmps28
    go_wp2_with fail
    refine (waysOk_any _ _ _ _ _ _ (HR.out.later (by go_grown))).mono ?_; rintro e w1 ⟨rfl, hb1⟩
    rw [HOK.out]
    obtain ⟨hc1, hf1⟩ := bcell hb1
    have hz1_0 : w.heap.size < w1.heap.size := by have hq := hb1.size; (try simp at hq); omega
    have HK1 := Lib.hid hb1
    have HB1 := Lib.hid (bstep (B := w.heap.size) (W := w) (by (try have hp := HB0.out); go_grown) (by go_size) hb1); clear hb1
    go_wp2_with fail
    go_ret
    exact ⟨rfl, HB1.out⟩
  · have HOK := Lib.hid hok
    obtain ⟨hni, s0, -, s1⟩ := setOk_t hok
    have HN := Lib.hid hni
    have hn6 := hni.hi
    have hn2 := hni.lo
    obtain ⟨m, rfl⟩ := Int.eq_ofNat_of_zero_le (show 0 ≤ n by omega)
    rw [if_pos rfl, Int.toNat_natCast]
    have hnb := nodesTo_bd hni s ws.length
    have HND : Hid (nodesOf (m : Int) ws s = nodesTo ws s ws.length) := by show nodesOf _ ws s = _; unfold nodesOf; rw [if_pos hok]
    have HYES := Lib.hid (fun k => ptTo_yes (ws := ws) (s := s) (k := k))
    have HNO := Lib.hid (fun k => ptTo_no (ws := ws) (s := s) (k := k))
    have HPB := Lib.hid (fun k => ptTo_bd ws s k)
    obtain ⟨D, hD⟩ : ∃ D, nodesTo ws s ws.length = D := ⟨_, rfl⟩
    rw [hD] at hnb HND HYES HNO
    have hD0 := hnb.1
    have hD1 := hnb.2
    clear hok hni hnb hD
    go_enter Tryd.func28, Tryd.ntmps28
    go_wp2_with fail
    refine (waysOk_any _ _ _ _ _ _ (HR.out.later (by go_grown))).mono ?_; rintro e w1 ⟨rfl, hb1⟩
    rw [HOK.out]
    obtain ⟨hc1, hf1⟩ := bcell hb1
    have hz1_0 : w.heap.size < w1.heap.size := by have hq := hb1.size; (try simp at hq); omega
    have HK1 := Lib.hid hb1
    have HB1 := Lib.hid (bstep (B := w.heap.size) (W := w) (by (try have hp := HB0.out); go_grown) (by go_size) hb1); clear hb1
    go_wp2_with fail
    refine (NodesOf_any _ _ _ _ _ _ (HR.out.later (by have := HB1.out; go_grown))).mono ?_; rintro e w2 ⟨rfl, hb2⟩
    rw [HND.out]
    obtain ⟨hc2, hf2⟩ := bcell hb2
    have hz2_0 : w.heap.size < w2.heap.size := by have hq := hb2.size; (try simp at hq); omega
    have HK2 := Lib.hid hb2
    have HB2 := Lib.hid (bstep (B := w.heap.size) (W := w) (by have hp := HB1.out; go_grown) (by go_size) hb2); clear hb2
    have k20 : w2.cell? ⟨w.heap.size, 0, none⟩ = some (.int .i64 m) := by go_simp
    have k21 : w2.cell? ⟨w.heap.size, 1, none⟩ = some (.slice A ws.length cap) := by go_simp
    clear hc1 hf1 hc2 hf2
    go_wp2_with fail
    go_loopw [6, 17] (fun c i wr => ∃ k : Nat, k ≤ m ∧ i = .int .i64 k ∧ c = .int .i64 (ptTo ws s k) ∧ wr.cell? ⟨w.heap.size, 0, none⟩ = some (.int .i64 m) ∧ wr.cell? ⟨w.heap.size, 1, none⟩ = some (.slice A ws.length cap) ∧ Below w.heap.size w wr ∧ w.heap.size < wr.heap.size) (fun _ i _ => m - (intOf i).toNat)
    case atStart => exact ⟨0, Nat.zero_le _, rfl, rfl, k20, k21, HB2.out, hz2_0⟩
    case round =>
      clear k20 k21 HB1 HK1 HB2 HK2 hz1_0 hz2_0
      obtain ⟨k, hk, rfl, rfl, b0, b1, hb, hz⟩ := hrel
      have HB0 := Lib.hid hb
      have hk0 : (0 : Int) ≤ (k : Int) := by omega
      have hpb := HPB.out k
      have hpb0 := hpb.1
      have hpb1 := hpb.2
      have hyes := HYES.out k
      have hno := HNO.out k
      by_cases hlk : k < m
      · have hk1 : (k : Int) < (m : Int) := by omega
        have hri := reach_is (s := s) HN.out (p := (k : Int)) (by omega) (by omega)
        have hs9 : bit (reach ws s (k : Int)) (k : Int) = true := hri.has
        have hpos : 0 < reach ws s (k : Int) := by
          have := hri.lo
          by_cases h : reach ws s (k : Int) = 0
          · rw [h, bit_zero_] at hs9; cases hs9
          · omega
        have h64 : reach ws s (k : Int) < 64 := hri.hi
        have HLL := Lib.hid (low_low HN.out (s := s) hlk)
        obtain ⟨R, hR⟩ : ∃ R, reach ws s (k : Int) = R := ⟨_, rfl⟩
        have HRE := Lib.hid hR
        rw [hR] at hpos h64 HLL
        obtain ⟨p, hp⟩ : ∃ p, ptTo ws s k = p := ⟨_, rfl⟩
        rw [hp] at hyes hno hpb0 hpb1 ⊢
        clear hri hs9 hR hp hb hpb
        cases hbt : bit D (k : Int)
        · have HBT := Lib.hid hbt
          have HS : Hid (ptTo ws s (k + 1) = p) := hno (.inl hbt)
          clear hyes hno hbt
          go_wp2_with fail
          refine (inSet_any D k (by omega) (by omega) hD0 (by omega) _).mono ?_; rintro e3 w3 ⟨rfl, rfl⟩; rw [HBT.out]
          go_wp2_with fail
          go_roundw
          case rel => exact ⟨k + 1, by omega, by go_num, by rw [HS.out], b0, b1, HB0.out, hz⟩
          case measure => (simp [intOf]) <;> omega
        · have HBT := Lib.hid hbt
          cases hlb : lowB ws s k
          · have HLB : Hid ((low R == (k : Int)) = false) := HLL.out.trans hlb
            have HS : Hid (ptTo ws s (k + 1) = p) := hno (.inr hlb)
            clear hyes hno hbt hlb
            go_wp2_with fail
            refine (inSet_any D k (by omega) (by omega) hD0 (by omega) _).mono ?_; rintro e3 w3 ⟨rfl, rfl⟩; rw [HBT.out]
            go_wp2_with fail
            refine (setReach_any _ _ _ _ _ _ _ (HR.out.later (by have := HB0.out; go_grown)) HN.out s0 (by omega) hk0 hk1).mono ?_; rintro e w1 ⟨rfl, hb1⟩
            rw [HRE.out]
            obtain ⟨hc1, hf1⟩ := bcell hb1
            have hz1_0 : w.heap.size < w1.heap.size := by have hq := hb1.size; (try simp at hq); omega
            have HK1 := Lib.hid hb1
            have HB1 := Lib.hid (bstep (B := w.heap.size) (W := w) (by (try have hp := HB0.out); go_grown) (by go_size) hb1); clear hb1
            have k10 : w1.cell? ⟨w.heap.size, 0, none⟩ = some (.int .i64 m) := by go_simp
            have k11 : w1.cell? ⟨w.heap.size, 1, none⟩ = some (.slice A ws.length cap) := by go_simp
            clear hc1 hf1
            go_wp2_with fail
            refine (leastOf_any R hpos h64 _ (HT.out.later (by have := HB1.out; go_grown))).mono ?_; rintro e4 w4 ⟨rfl, rfl⟩
            have hlb := HLB.out
            go_wp2_with fail
            clear hlb
            go_roundw
            case rel => exact ⟨k + 1, by omega, by go_num, by rw [HS.out], k10, k11, HB1.out, hz1_0⟩
            case measure => (simp [intOf]) <;> omega
          · have HLB : Hid ((low R == (k : Int)) = true) := HLL.out.trans hlb
            have HS : Hid (ptTo ws s (k + 1) = p + 1) := hyes hbt hlb
            clear hyes hno hbt hlb
            go_wp2_with fail
            refine (inSet_any D k (by omega) (by omega) hD0 (by omega) _).mono ?_; rintro e3 w3 ⟨rfl, rfl⟩; rw [HBT.out]
            go_wp2_with fail
            refine (setReach_any _ _ _ _ _ _ _ (HR.out.later (by have := HB0.out; go_grown)) HN.out s0 (by omega) hk0 hk1).mono ?_; rintro e w1 ⟨rfl, hb1⟩
            rw [HRE.out]
            obtain ⟨hc1, hf1⟩ := bcell hb1
            have hz1_0 : w.heap.size < w1.heap.size := by have hq := hb1.size; (try simp at hq); omega
            have HK1 := Lib.hid hb1
            have HB1 := Lib.hid (bstep (B := w.heap.size) (W := w) (by (try have hp := HB0.out); go_grown) (by go_size) hb1); clear hb1
            have k10 : w1.cell? ⟨w.heap.size, 0, none⟩ = some (.int .i64 m) := by go_simp
            have k11 : w1.cell? ⟨w.heap.size, 1, none⟩ = some (.slice A ws.length cap) := by go_simp
            clear hc1 hf1
            go_wp2_with fail
            refine (leastOf_any R hpos h64 _ (HT.out.later (by have := HB1.out; go_grown))).mono ?_; rintro e4 w4 ⟨rfl, rfl⟩
            have hlb : low R = (k : Int) := by have := HLB.out; rwa [beq_iff_eq] at this
            rw [hlb]
            clear hlb
            go_wp2_with fail
            go_roundw
            case rel => exact ⟨k + 1, by omega, by go_num, by rw [HS.out], k10, k11, HB1.out, hz1_0⟩
            case measure => (simp [intOf]) <;> omega
      · obtain rfl : k = m := by omega
        obtain ⟨p, hp⟩ : ∃ p, ptTo ws s k = p := ⟨_, rfl⟩
        rw [hp]
        have HP9 : Hid (p = ptTo ws s k) := hp.symm
        clear hyes hno hp hb hpb
        go_wp2_with fail
        go_ret
        exact ⟨ret_int HP9.out, HB0.out⟩
end Go.Proofs.YtnnpooemdonbhaaDoor
