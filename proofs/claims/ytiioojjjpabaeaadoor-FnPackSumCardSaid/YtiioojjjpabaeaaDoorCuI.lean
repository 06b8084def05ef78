/- The program's cuts: CutWays, PartsEnds, PacksOk, PackSum, PathCuts. -/
import Derived.Test.YtiioojjjpabaeaaDoorCuC
import Derived.Test.YtiioojjjpabaeaaDoorCuD
import Derived.Test.YtiioojjjpabaeaaDoorCuA
import Derived.Test.YtiioojjjpabaeaaDoorTc
import Derived.Test.YtiioojjjpabaeaaDoorMC
import Derived.Test.YtiioojjjpabaeaaDoorMG
set_option linter.unusedSimpArgs false
set_option linter.unusedVariables false
attribute [local go_sem ↓] Go.wp_at_zero Go.wp_at_succ
namespace Go.Proofs.YtiioojjjpabaeaaDoor
open Go.ChangeShapes Go.WideShapes Go.ChangeAt Go.RowKit

theorem takes_any (P : Int) (x : Wy) (a0 : 0 ≤ x.a) (a1 : x.a ≤ 5) (b0 : 0 ≤ x.b) (b1 : x.b ≤ 5) (p0 : 0 ≤ P) (p1 : P ≤ 1048576) (w : World) :
    Calls Tryd.prog 30 #[.int .i64 P, .agg #[.int .i64 x.a, .int .i64 x.b, .int .i64 x.c]] w fun e w' => e = .returned (.bool (bit P x.a != bit P x.b)) ∧ Below w.heap.size w w' := by
  have HA := Lib.hid (fun W => inSet_any P x.a a0 (by omega) p0 p1 W)
  have HB := Lib.hid (fun W => inSet_any P x.b b0 (by omega) p0 p1 W)
  go_enter Tryd.func30, Tryd.ntmps30
  go_wp2_with fail
  refine wp_region_held_drew (S := (fun w' => w'.cell? ⟨w.heap.size, 0, none⟩ = some (.int .i64 x.a) ∧ w'.cell? ⟨w.heap.size, 1, none⟩ = some (.int .i64 x.b))) (by kernel_rfl) ?_ (fun hHeld => ?_)
  · exact ⟨by go_simp, by go_simp⟩
  refine wpAnyH_take (i := 0) (v := ?_) rfl (by kernel_rfl) (by kernel_rfl) (by kernel_rfl) (fun _ _ _ h => h) (Or.inl ⟨by rfl, ?_⟩) (by assumption) ?_
  rotate_left
  · (intro w hSw; (try dsimp only at hSw); (try simp only [List.getElem_toArray, List.getElem_cons_succ, List.getElem_cons_zero]); first | (go_simp; done) | (go_simp; with_reducible rfl))
  try simp only [Act.put, List.getElem_toArray, List.getElem_cons_succ, List.getElem_cons_zero, List.setIfInBounds_toArray, List.set_cons_zero, List.set_cons_succ]
  refine wpAnyH_take (i := 1) (v := ?_) rfl (by kernel_rfl) (by kernel_rfl) (by kernel_rfl) (fun _ _ _ h => h) (Or.inl ⟨by rfl, ?_⟩) (by assumption) ?_
  rotate_left
  · (intro w hSw; (try dsimp only at hSw); (try simp only [List.getElem_toArray, List.getElem_cons_succ, List.getElem_cons_zero]); first | (go_simp; done) | (go_simp; with_reducible rfl))
  try simp only [Act.put, List.getElem_toArray, List.getElem_cons_succ, List.getElem_cons_zero, List.setIfInBounds_toArray, List.set_cons_zero, List.set_cons_succ]
  refine wpAnyH_take (i := 2) (v := ?_) rfl (by kernel_rfl) (by kernel_rfl) (by kernel_rfl) (fun _ _ _ h => h) (Or.inl ⟨by rfl, ?_⟩) (by assumption) ?_
  rotate_left
  · (intro w hSw; (try dsimp only at hSw); (try simp only [List.getElem_toArray, List.getElem_cons_succ, List.getElem_cons_zero]); first | (go_simp; done) | (go_simp; with_reducible rfl))
  try simp only [Act.put, List.getElem_toArray, List.getElem_cons_succ, List.getElem_cons_zero, List.setIfInBounds_toArray, List.set_cons_zero, List.set_cons_succ]
  refine wpAnyH_take (i := 4) (v := ?_) rfl (by kernel_rfl) (by kernel_rfl) (by kernel_rfl) (fun _ _ _ h => h) (Or.inl ⟨by rfl, ?_⟩) (by assumption) ?_
  rotate_left
  · (intro w hSw; (try dsimp only at hSw); (try simp only [List.getElem_toArray, List.getElem_cons_succ, List.getElem_cons_zero]); first | (go_simp; done) | (go_simp; with_reducible rfl))
  try simp only [Act.put, List.getElem_toArray, List.getElem_cons_succ, List.getElem_cons_zero, List.setIfInBounds_toArray, List.set_cons_zero, List.set_cons_succ]
  refine wpAnyH_take (i := 5) (v := ?_) rfl (by kernel_rfl) (by kernel_rfl) (by kernel_rfl) (fun _ _ _ h => h) (Or.inl ⟨by rfl, ?_⟩) (by assumption) ?_
  rotate_left
  · (intro w hSw; (try dsimp only at hSw); (try simp only [List.getElem_toArray, List.getElem_cons_succ, List.getElem_cons_zero]); first | (go_simp; done) | (go_simp; with_reducible rfl))
  try simp only [Act.put, List.getElem_toArray, List.getElem_cons_succ, List.getElem_cons_zero, List.setIfInBounds_toArray, List.set_cons_zero, List.set_cons_succ]
  refine wpAnyH_take (i := 6) (v := ?_) rfl (by kernel_rfl) (by kernel_rfl) (by kernel_rfl) (fun _ _ _ h => h) (Or.inl ⟨by rfl, ?_⟩) (by assumption) ?_
  rotate_left
  · (intro w hSw; (try dsimp only at hSw); (try simp only [List.getElem_toArray, List.getElem_cons_succ, List.getElem_cons_zero]); first | (go_simp; done) | (go_simp; with_reducible rfl))
  try simp only [Act.put, List.getElem_toArray, List.getElem_cons_succ, List.getElem_cons_zero, List.setIfInBounds_toArray, List.set_cons_zero, List.set_cons_succ]
  refine wpAnyH_ready (rs := [3]) (by kernel_rfl) (by simp) ?_
  refine AllReadyH.cons rfl (fun K hK => ?_) AllReadyH.nil
  try simp only [List.getElem_toArray, List.getElem_cons_succ, List.getElem_cons_zero]
  go_simp
  go_at_call 45; refine (HA.out _).mono ?_; rintro e2 w2 ⟨rfl, rfl⟩
  refine hK.out _ _ ?_ (fun hHeld => ?_)
  · exact hHeld
  clear hK K
  try simp only [Act.put, List.getElem_toArray, List.getElem_cons_succ, List.getElem_cons_zero, List.setIfInBounds_toArray, List.set_cons_zero, List.set_cons_succ]
  refine wpAnyH_ready (rs := [7]) (by kernel_rfl) (by simp) ?_
  refine AllReadyH.cons rfl (fun K hK => ?_) AllReadyH.nil
  try simp only [List.getElem_toArray, List.getElem_cons_succ, List.getElem_cons_zero]
  go_simp
  go_at_call 45; refine (HB.out _).mono ?_; rintro e3 w3 ⟨rfl, rfl⟩
  refine hK.out _ _ ?_ (fun hHeld => ?_)
  · exact hHeld
  clear hK K
  try simp only [Act.put, List.getElem_toArray, List.getElem_cons_succ, List.getElem_cons_zero, List.setIfInBounds_toArray, List.set_cons_zero, List.set_cons_succ]
  refine wpAnyH_take (i := 8) (v := ?_) rfl (by kernel_rfl) (by kernel_rfl) (by kernel_rfl) (fun _ _ _ h => h) (Or.inl ⟨by rfl, ?_⟩) (by assumption) ?_
  rotate_left
  · (intro w hSw; (try dsimp only at hSw); (try simp only [List.getElem_toArray, List.getElem_cons_succ, List.getElem_cons_zero]); first | (go_simp; done) | (go_simp; with_reducible rfl))
  try simp only [Act.put, List.getElem_toArray, List.getElem_cons_succ, List.getElem_cons_zero, List.setIfInBounds_toArray, List.set_cons_zero, List.set_cons_succ]
  refine wpAnyH_take (i := 9) (v := ?_) rfl (by kernel_rfl) (by kernel_rfl) (by kernel_rfl) (fun _ _ _ h => h) (Or.inl ⟨by rfl, ?_⟩) (by assumption) ?_
  rotate_left
  · (intro w hSw; (try dsimp only at hSw); (try simp only [List.getElem_toArray, List.getElem_cons_succ, List.getElem_cons_zero]); first | (go_simp; done) | (go_simp; with_reducible rfl))
  try simp only [Act.put, List.getElem_toArray, List.getElem_cons_succ, List.getElem_cons_zero, List.setIfInBounds_toArray, List.set_cons_zero, List.set_cons_succ]
  refine wpAnyH_done (by kernel_rfl) ?_ _
  go_wp2_with fail
  go_ret
  exact ⟨rfl, by go_grown⟩
set_option maxHeartbeats 2000000 in
theorem CutWays_any (n P : Int) (A : Option Addr) (cap : Nat) (ws : List Wy) (w : World) (hr : RW w w.heap.size A ws) :
    Calls Tryd.prog 12 #[.agg #[.int .i64 n, .slice A ws.length cap], .int .i64 P] w fun e w' => e = .returned (.int .i64 (cutWays n ws P)) ∧ Below w.heap.size w w' := by
  have HR := Lib.hid hr
  clear hr
  unfold cutWays
  cases h1 : netOk n ws && plOk n P
  · have H1 := Lib.hid h1
    rw [if_neg (by simp)]
    clear h1
    go_enter Tryd.func12, Tryd.ntmps12
    go_wp2_with fail
    refine (endsOk_any _ _ _ _ _ _ (HR.out.later (by go_grown))).mono ?_; rintro e w1 ⟨rfl, hb1⟩
    rw [H1.out]
    obtain ⟨hc1, hf1⟩ := bcell hb1
    have hz1_0 : w.heap.size < w1.heap.size := by have hq := hb1.size; (try simp at hq); omega
    have HK1 := Lib.hid hb1
    have HB1 := Lib.hid (bstep (B := w.heap.size) (W := w) (by (try have hp := HB0.out); go_grown) (by go_size) hb1); clear hb1
    go_wp2_with fail
    go_ret
    exact ⟨rfl, HB1.out⟩
  · have H1 := Lib.hid h1
    obtain ⟨hno, hp⟩ : netOk n ws = true ∧ plOk n P = true := by simpa using h1
    have hni := netOk_t hno
    have HS := Lib.hid hni
    have hl9 := hni.len
    have hn6 := hni.hi
    have hpl := plOk_lt hn6 hp
    have p0 := hpl.1
    have p1 := hpl.2
    rw [if_pos rfl]
    unfold cw
    clear h1 hno hp hni hpl
    go_enter Tryd.func12, Tryd.ntmps12
    go_wp2_with fail
    refine (endsOk_any _ _ _ _ _ _ (HR.out.later (by go_grown))).mono ?_; rintro e w1 ⟨rfl, hb1⟩
    rw [H1.out]
    obtain ⟨hc1, hf1⟩ := bcell hb1
    have hz1_0 : w.heap.size < w1.heap.size := by have hq := hb1.size; (try simp at hq); omega
    have HK1 := Lib.hid hb1
    have HB1 := Lib.hid (bstep (B := w.heap.size) (W := w) (by (try have hp := HB0.out); go_grown) (by go_size) hb1); clear hb1
    have k10 : w1.cell? ⟨w.heap.size, 1, none⟩ = some (.slice A ws.length cap) := by go_simp
    clear hc1 hf1
    go_wp2_with fail
    go_loopw [5, 15] (fun c i wr => ∃ k : Nat, k ≤ ws.length ∧ c = .int .i64 (cwTo ws P k) ∧ i = .int .i64 k ∧ Below w.heap.size w wr ∧ w.heap.size < wr.heap.size) (fun _ i _ => ws.length - (intOf i).toNat)
    case atStart => exact ⟨0, Nat.zero_le _, rfl, rfl, HB1.out, hz1_0⟩
    case round =>
      clear k10 HB1 HK1
      obtain ⟨k, hk, rfl, rfl, hb, hz⟩ := hrel
      have HB0 := Lib.hid hb
      have hcb := cwTo_bd ws P k
      have hk0 : (0 : Int) ≤ (k : Int) := by omega
      by_cases hlk : k < ws.length
      · have hk1 : (k : Int) < (ws.length : Int) := by omega
        have hk8 : (k : Int) ≤ 60 := by omega
        obtain ⟨x, hx⟩ : ∃ x, ws[k]? = some x := ⟨_, List.getElem?_eq_getElem hlk⟩
        have hxa := HS.out.at_ hx
        obtain ⟨b, o, rfl, hB, c0, c1, c2⟩ := HR.out.below hb k x hx
        have hpk := pow_bd (k : Int) 8 (by omega)
        rw [Int.toNat_natCast] at hpk
        have HT := Lib.hid (fun W => takes_any P x (by omega) (by omega) (by omega) (by omega) p0 (by omega) W)
        have hcut := cutB_at (P := P) hx
        have HWK : Hid (IntKind.i64.wrap (2 ^ k) = 2 ^ k) := IntWalk.i64_in _ ⟨by omega, by omega⟩
        have HWK2 : Hid (wrap64 (2 ^ k) = 2 ^ k) := IntWalk.wrap64_in _ ⟨by omega, by omega⟩
        have hq512 : cwTo ws P k < 512 := by
          have : (2 : Int) ^ k ≤ 256 := by
            have h9 := Nat.pow_le_pow_right (n := 2) (by omega) (show k ≤ 8 by omega)
            have e9 : ((2 : Int) ^ k) = ((2 ^ k : Nat) : Int) := by simp
            omega
          omega
        have HOR := Lib.hid (bits_or (cwTo ws P k) (2 ^ k) hcb.1 (by omega) (by omega) (by omega))
        have hpk1 := hpk.1
        clear hx hxa hb hpk
        cases hc : cutB ws P k
        · have hne : (bit P x.a != bit P x.b) = false := by rw [← hcut, hc]
          have HNE := Lib.hid hne
          have HS1 : Hid (cwTo ws P (k + 1) = cwTo ws P k) := by show _ = _; rw [cwTo, if_neg (by rw [hc]; simp)]
          obtain ⟨q, hq⟩ : ∃ q, cwTo ws P k = q := ⟨_, rfl⟩
          rw [hq] at HS1 ⊢
          clear hcut hc hq hcb HOR hq512 hne
          go_wp2_with fail
          refine (HT.out _).mono ?_; rintro e w1 ⟨rfl, hb1⟩
          rw [HNE.out]
          obtain ⟨hc1, hf1⟩ := bcell hb1
          have hz1_0 : w.heap.size < w1.heap.size := by have hq := hb1.size; (try simp at hq); omega
          have HK1 := Lib.hid hb1
          have HB1 := Lib.hid (bstep (B := w.heap.size) (W := w) (by (try have hp := HB0.out); go_grown) (by go_size) hb1); clear hb1
          go_wp2_with fail
          go_roundw
          case rel => exact ⟨k + 1, by omega, by rw [HS1.out], by go_num, HB1.out, hz1_0⟩
          case measure => (simp [intOf]) <;> omega
        · have hne : (bit P x.a != bit P x.b) = true := by rw [← hcut, hc]
          have HNE := Lib.hid hne
          have HS1 : Hid (cwTo ws P (k + 1) = ior (cwTo ws P k) (2 ^ k)) := by show _ = _; rw [cwTo, if_pos hc]
          obtain ⟨q, hq⟩ : ∃ q, cwTo ws P k = q := ⟨_, rfl⟩
          rw [hq] at HS1 HOR ⊢
          clear hcut hc hq hcb hq512 hne
          go_wp2_with fail
          refine (HT.out _).mono ?_; rintro e w1 ⟨rfl, hb1⟩
          rw [HNE.out]
          obtain ⟨hc1, hf1⟩ := bcell hb1
          have hz1_0 : w.heap.size < w1.heap.size := by have hq := hb1.size; (try simp at hq); omega
          have HK1 := Lib.hid hb1
          have HB1 := Lib.hid (bstep (B := w.heap.size) (W := w) (by (try have hp := HB0.out); go_grown) (by go_size) hb1); clear hb1
          have wk := HWK.out
          have wk2 := HWK2.out
          have hor := HOR.out
          go_wp2_with fail
          clear wk wk2 hor
          go_roundw
          case rel => exact ⟨k + 1, by omega, by rw [HS1.out], by go_num, HB1.out, hz1_0⟩
          case measure => (simp [intOf]) <;> omega
      · obtain rfl : k = ws.length := by omega
        obtain ⟨q, hq⟩ : ∃ q, cwTo ws P ws.length = q := ⟨_, rfl⟩
        rw [hq]
        have HQ : Hid (q = cwTo ws P ws.length) := hq.symm
        clear hcb hq
        go_wp2_with fail
        go_ret
        exact ⟨ret_int HQ.out, HB0.out⟩
set_option maxHeartbeats 2000000 in
theorem PartsEnds_any (n e P : Int) (A : Option Addr) (cap : Nat) (ws : List Wy) (w : World) (hr : RW w w.heap.size A ws) :
    Calls Tryd.prog 7 #[.agg #[.int .i64 n, .slice A ws.length cap], .int .i64 e, .int .i64 P] w fun en w' => en = .returned (.bool (partsEnds n ws e P)) ∧ Below w.heap.size w w' := by
  have HR := Lib.hid hr
  clear hr
  cases h1 : netOk n ws && plOk n e
  · have H1 := Lib.hid h1
    rw [partsEnds_no h1]
    clear h1
    go_enter Tryd.func7, Tryd.ntmps7
    go_wp2_with fail
    refine (endsOk_any _ _ _ _ _ _ (HR.out.later (by go_grown))).mono ?_; rintro e w1 ⟨rfl, hb1⟩
    rw [H1.out]
    obtain ⟨hc1, hf1⟩ := bcell hb1
    have hz1_0 : w.heap.size < w1.heap.size := by have hq := hb1.size; (try simp at hq); omega
    have HK1 := Lib.hid hb1
    have HB1 := Lib.hid (bstep (B := w.heap.size) (W := w) (by (try have hp := HB0.out); go_grown) (by go_size) hb1); clear hb1
    go_wp2_with fail
    go_ret
    exact ⟨rfl, HB1.out⟩
  · have H1 := Lib.hid h1
    obtain ⟨hno, he⟩ : netOk n ws = true ∧ plOk n e = true := by simpa using h1
    have hn6 := (netOk_t hno).hi
    have hn2 := (netOk_t hno).lo
    cases hp : plOk n P
    · have HP : Hid ((decide (0 ≤ P) && decide (P < 2 ^ n.toNat)) = false) := hp
      rw [partsEnds_no2 (by rw [hno, hp]; rfl)]
      clear h1 hno he hp
      go_enter Tryd.func7, Tryd.ntmps7
      go_wp2_with fail
      refine (endsOk_any _ _ _ _ _ _ (HR.out.later (by go_grown))).mono ?_; rintro e w1 ⟨rfl, hb1⟩
      rw [H1.out]
      obtain ⟨hc1, hf1⟩ := bcell hb1
      have hz1_0 : w.heap.size < w1.heap.size := by have hq := hb1.size; (try simp at hq); omega
      have HK1 := Lib.hid hb1
      have HB1 := Lib.hid (bstep (B := w.heap.size) (W := w) (by (try have hp := HB0.out); go_grown) (by go_size) hb1); clear hb1
      go_wp2_with fail
      refine (hasPlaces_any _ _ _ (by omega) (by omega) _).mono ?_; rintro e w2 ⟨rfl, hb2⟩
      rw [HP.out]
      obtain ⟨hc2, hf2⟩ := bcell hb2
      have hz2_0 : w.heap.size < w2.heap.size := by have hq := hb2.size; (try simp at hq); omega
      have HK2 := Lib.hid hb2
      have HB2 := Lib.hid (bstep (B := w.heap.size) (W := w) (by have hp := HB1.out; go_grown) (by go_size) hb2); clear hb2
      go_wp2_with fail
      go_ret
      exact ⟨rfl, HB2.out⟩
    · have HP : Hid ((decide (0 ≤ P) && decide (P < 2 ^ n.toNat)) = true) := hp
      rw [partsEnds_is h1 (by rw [hno, hp]; rfl)]
      have eb := plOk_lt hn6 he
      have pb := plOk_lt hn6 hp
      have ha : bits .and .i64 e P = iand e P := bits_and _ _ (by omega) (by omega) (by omega) (by omega)
      have hd : bits .andNot .i64 e P = idiff e P := bits_andNot _ _ (by omega) (by omega) (by omega) (by omega)
      have HA := Lib.hid ha
      have HD := Lib.hid hd
      clear h1 hno he hp eb pb ha hd
      by_cases hi : iand e P = 0
      · rw [parts_no1 hi]
        have HA2 : Hid (bits .and .i64 e P = 0) := HA.out.trans hi
        clear hi
        go_enter Tryd.func7, Tryd.ntmps7
        go_wp2_with fail
        refine (endsOk_any _ _ _ _ _ _ (HR.out.later (by go_grown))).mono ?_; rintro e w1 ⟨rfl, hb1⟩
        rw [H1.out]
        obtain ⟨hc1, hf1⟩ := bcell hb1
        have hz1_0 : w.heap.size < w1.heap.size := by have hq := hb1.size; (try simp at hq); omega
        have HK1 := Lib.hid hb1
        have HB1 := Lib.hid (bstep (B := w.heap.size) (W := w) (by (try have hp := HB0.out); go_grown) (by go_size) hb1); clear hb1
        go_wp2_with fail
        refine (hasPlaces_any _ _ _ (by omega) (by omega) _).mono ?_; rintro e w2 ⟨rfl, hb2⟩
        rw [HP.out]
        obtain ⟨hc2, hf2⟩ := bcell hb2
        have hz2_0 : w.heap.size < w2.heap.size := by have hq := hb2.size; (try simp at hq); omega
        have HK2 := Lib.hid hb2
        have HB2 := Lib.hid (bstep (B := w.heap.size) (W := w) (by have hp := HB1.out; go_grown) (by go_size) hb2); clear hb2
        have ha := HA2.out
        go_wp2_with fail
        go_ret
        exact ⟨rfl, HB2.out⟩
      · by_cases hj : idiff e P = 0
        · rw [parts_no2 hj]
          have HD2 : Hid (bits .andNot .i64 e P = 0) := HD.out.trans hj
          have HI : Hid ((iand e P != 0) = true) := by show _ = _; simpa using hi
          clear hi hj
          go_enter Tryd.func7, Tryd.ntmps7
          go_wp2_with fail
          refine (endsOk_any _ _ _ _ _ _ (HR.out.later (by go_grown))).mono ?_; rintro e w1 ⟨rfl, hb1⟩
          rw [H1.out]
          obtain ⟨hc1, hf1⟩ := bcell hb1
          have hz1_0 : w.heap.size < w1.heap.size := by have hq := hb1.size; (try simp at hq); omega
          have HK1 := Lib.hid hb1
          have HB1 := Lib.hid (bstep (B := w.heap.size) (W := w) (by (try have hp := HB0.out); go_grown) (by go_size) hb1); clear hb1
          go_wp2_with fail
          refine (hasPlaces_any _ _ _ (by omega) (by omega) _).mono ?_; rintro e w2 ⟨rfl, hb2⟩
          rw [HP.out]
          obtain ⟨hc2, hf2⟩ := bcell hb2
          have hz2_0 : w.heap.size < w2.heap.size := by have hq := hb2.size; (try simp at hq); omega
          have HK2 := Lib.hid hb2
          have HB2 := Lib.hid (bstep (B := w.heap.size) (W := w) (by have hp := HB1.out; go_grown) (by go_size) hb2); clear hb2
          have ha := HA.out
          have hd := HD2.out
          have hi := HI.out
          go_wp2_with fail
          go_ret
          exact ⟨rfl, HB2.out⟩
        · rw [parts_yes hi hj]
          have HI : Hid ((iand e P != 0) = true) := by show _ = _; simpa using hi
          have HJ : Hid ((idiff e P != 0) = true) := by show _ = _; simpa using hj
          clear hi hj
          go_enter Tryd.func7, Tryd.ntmps7
          go_wp2_with fail
          refine (endsOk_any _ _ _ _ _ _ (HR.out.later (by go_grown))).mono ?_; rintro e w1 ⟨rfl, hb1⟩
          rw [H1.out]
          obtain ⟨hc1, hf1⟩ := bcell hb1
          have hz1_0 : w.heap.size < w1.heap.size := by have hq := hb1.size; (try simp at hq); omega
          have HK1 := Lib.hid hb1
          have HB1 := Lib.hid (bstep (B := w.heap.size) (W := w) (by (try have hp := HB0.out); go_grown) (by go_size) hb1); clear hb1
          go_wp2_with fail
          refine (hasPlaces_any _ _ _ (by omega) (by omega) _).mono ?_; rintro e w2 ⟨rfl, hb2⟩
          rw [HP.out]
          obtain ⟨hc2, hf2⟩ := bcell hb2
          have hz2_0 : w.heap.size < w2.heap.size := by have hq := hb2.size; (try simp at hq); omega
          have HK2 := Lib.hid hb2
          have HB2 := Lib.hid (bstep (B := w.heap.size) (W := w) (by have hp := HB1.out; go_grown) (by go_size) hb2); clear hb2
          have ha := HA.out
          have hd := HD.out
          have hi := HI.out
          have hj := HJ.out
          go_wp2_with fail
          go_ret
          exact ⟨rfl, HB2.out⟩
theorem weightOk_any (x : Int) (w : World) :
    Calls Tryd.prog 33 #[.int .i64 x] w fun e w' => e = .returned (.bool (inB x 0 81)) ∧ w = w' := by
  unfold inB
  go_enter Tryd.func33, Tryd.ntmps33
  go_wp2_with fail
  all_goals
    go_ret
    exact ⟨ret_bool (by first | (simp [*]; done) | (rw [Bool.eq_iff_iff]; simp only [Bool.and_eq_true, Bool.or_eq_true, Bool.not_eq_true', bne_iff_ne, beq_iff_eq, decide_eq_true_eq, decide_eq_false_iff_not, beq_eq_false_iff_ne, ne_eq, Bool.true_and, Bool.and_true, Bool.false_and, Bool.and_false, Bool.true_or, Bool.false_or, Bool.or_false, true_and, and_true, Bool.false_eq_true, false_iff, iff_false, true_iff, iff_true, iff_self]; done) | (rw [Bool.eq_iff_iff]; simp only [Bool.and_eq_true, Bool.or_eq_true, Bool.not_eq_true', bne_iff_ne, beq_iff_eq, decide_eq_true_eq, decide_eq_false_iff_not, beq_eq_false_iff_ne, ne_eq, Bool.true_and, Bool.and_true, Bool.false_and, Bool.and_false, Bool.true_or, Bool.false_or, Bool.or_false, true_and, and_true, Bool.false_eq_true, false_iff, iff_false, true_iff, iff_true]; omega)), rfl⟩
set_option maxHeartbeats 4000000 in
theorem weightOn_any (Ac : Option Addr) (cc : Nat) (cs : List (Int × Int)) (ws : List Wy) (j : Nat) (x : Wy) (hx : ws[j]? = some x) (a0 : 0 ≤ x.a) (a1 : x.a ≤ 5) (b0 : 0 ≤ x.b) (b1 : x.b ≤ 5)
    (hco : ∀ c, c ∈ cs → 0 ≤ c.1 ∧ c.1 < 64 ∧ 0 ≤ c.2 ∧ c.2 ≤ 81) (h8 : cs.length ≤ 8) (w : World) (hc : RC w w.heap.size Ac cs) :
    Calls Tryd.prog 34 #[.slice Ac cs.length cc, .agg #[.int .i64 x.a, .int .i64 x.b, .int .i64 x.c]] w fun e w' => e = .returned (.int .i64 (wload ws j cs)) ∧ Below w.heap.size w w' := by
  have HC := Lib.hid hc
  have HCO := Lib.hid hco
  have HX := Lib.hid hx
  clear hc hco hx
  go_enter Tryd.func34, Tryd.ntmps34
  go_wp2_with fail
  go_loopw [5, 10] (fun s i wr => ∃ k : Nat, k ≤ cs.length ∧ s = .int .i64 (wload ws j (cs.take k)) ∧ i = .int .i64 k ∧ wr.cell? ⟨w.heap.size, 0, none⟩ = some (.int .i64 x.a) ∧ wr.cell? ⟨w.heap.size, 1, none⟩ = some (.int .i64 x.b) ∧ wr.cell? ⟨w.heap.size, 2, none⟩ = some (.int .i64 x.c) ∧ Below w.heap.size w wr ∧ w.heap.size < wr.heap.size) (fun _ i _ => cs.length - (intOf i).toNat)
  case atStart => exact ⟨0, Nat.zero_le _, rfl, rfl, by go_simp, by go_simp, by go_simp, by go_grown, by go_size⟩
  case round =>
    obtain ⟨k, hk, rfl, rfl, q0, q1, q2, hb, hz⟩ := hrel
    have HB0 := Lib.hid hb
    have hk0 : (0 : Int) ≤ (k : Int) := by omega
    have hsb := wload_bd (ws := ws) (k := j) (cs := cs.take k) fun d hd => (HCO.out d (List.mem_of_mem_take hd)).2.2
    have hln : (cs.take k).length ≤ 8 := by rw [List.length_take]; omega
    by_cases hlk : k < cs.length
    · have hk1 : (k : Int) < (cs.length : Int) := by omega
      obtain ⟨c, hcx⟩ : ∃ c, cs[k]? = some c := ⟨_, List.getElem?_eq_getElem hlk⟩
      have hq := HCO.out c (List.mem_of_getElem? hcx)
      obtain ⟨b, o, rfl, hB, c0, c1⟩ := (HC.out.later hb) k c hcx
      have hWT := wload_take ws j hcx
      have hcut := cutB_at (P := c.1) HX.out
      have HT := Lib.hid (fun W => takes_any c.1 x a0 a1 b0 b1 (by omega) (by omega) W)
      obtain ⟨u, hu⟩ : ∃ u, wload ws j (cs.take k) = u := ⟨_, rfl⟩
      rw [hu] at hsb hWT ⊢
      have hu0 : 0 ≤ u ∧ u ≤ 648 := by omega
      clear hcx hb hu hsb hln
      cases hcc : cutB ws c.1 j
      · have HNE : Hid ((bit c.1 x.a != bit c.1 x.b) = false) := by show _ = _; rw [← hcut, hcc]
        have HS1 : Hid (wload ws j (cs.take (k + 1)) = u) := by show _ = _; rw [hWT, if_neg (by rw [hcc]; simp), Int.add_zero]
        clear hcut hcc hWT
        go_wp2_with fail
        refine (HT.out _).mono ?_; rintro e w1 ⟨rfl, hb1⟩
        rw [HNE.out]
        obtain ⟨hc1, hf1⟩ := bcell hb1
        have hz1_0 : w.heap.size < w1.heap.size := by have hq := hb1.size; (try simp at hq); omega
        have HK1 := Lib.hid hb1
        have HB1 := Lib.hid (bstep (B := w.heap.size) (W := w) (by (try have hp := HB0.out); go_grown) (by go_size) hb1); clear hb1
        have k0 : w1.cell? ⟨w.heap.size, 0, none⟩ = some (.int .i64 x.a) := by go_simp
        have k1 : w1.cell? ⟨w.heap.size, 1, none⟩ = some (.int .i64 x.b) := by go_simp
        have k2 : w1.cell? ⟨w.heap.size, 2, none⟩ = some (.int .i64 x.c) := by go_simp
        go_wp2_with fail
        go_roundw
        case rel => exact ⟨k + 1, by omega, by rw [HS1.out], by go_num, k0, k1, k2, HB1.out, hz1_0⟩
        case measure => (simp [intOf]) <;> omega
      · have HNE : Hid ((bit c.1 x.a != bit c.1 x.b) = true) := by show _ = _; rw [← hcut, hcc]
        have HS1 : Hid (wload ws j (cs.take (k + 1)) = u + c.2) := by show _ = _; rw [hWT, if_pos hcc]
        have HWW : Hid (IntKind.i64.wrap (u + c.2) = u + c.2) := IntWalk.i64_in _ ⟨by omega, by omega⟩
        have HWW2 : Hid (wrap64 (u + c.2) = u + c.2) := IntWalk.wrap64_in _ ⟨by omega, by omega⟩
        clear hcut hcc hWT
        go_wp2_with fail
        refine (HT.out _).mono ?_; rintro e w1 ⟨rfl, hb1⟩
        rw [HNE.out]
        obtain ⟨hc1, hf1⟩ := bcell hb1
        have hz1_0 : w.heap.size < w1.heap.size := by have hq := hb1.size; (try simp at hq); omega
        have HK1 := Lib.hid hb1
        have HB1 := Lib.hid (bstep (B := w.heap.size) (W := w) (by (try have hp := HB0.out); go_grown) (by go_size) hb1); clear hb1
        have k0 : w1.cell? ⟨w.heap.size, 0, none⟩ = some (.int .i64 x.a) := by go_simp
        have k1 : w1.cell? ⟨w.heap.size, 1, none⟩ = some (.int .i64 x.b) := by go_simp
        have k2 : w1.cell? ⟨w.heap.size, 2, none⟩ = some (.int .i64 x.c) := by go_simp
        have wk := HWW.out
        have wk2 := HWW2.out
        go_wp2_with fail
        clear wk wk2
        go_roundw
        case rel => exact ⟨k + 1, by omega, by rw [HS1.out], by go_num, k0, k1, k2, HB1.out, hz1_0⟩
        case measure => (simp [intOf]) <;> omega
    · obtain rfl : k = cs.length := by omega
      rw [List.take_length]
      obtain ⟨u, hu⟩ : ∃ u, wload ws j cs = u := ⟨_, rfl⟩
      rw [hu]
      have HU : Hid (u = wload ws j cs) := hu.symm
      clear hsb hln hu
      go_wp2_with fail
      go_ret
      exact ⟨ret_int HU.out, HB0.out⟩
set_option maxRecDepth 100000 in
set_option maxHeartbeats 8000000 in
theorem PacksOk_any (n e : Int) (A : Option Addr) (cap : Nat) (ws : List Wy) (Ac : Option Addr) (cc : Nat) (cs : List (Int × Int)) (w : World) (hr : RW w w.heap.size A ws) (hc : RC w w.heap.size Ac cs) :
    Calls Tryd.prog 16 #[.agg #[.int .i64 n, .slice A ws.length cap], .int .i64 e, .slice Ac cs.length cc] w fun en w' => en = .returned (.bool (packsOk n ws e cs)) ∧ Below w.heap.size w w' := by
  have HR := Lib.hid hr
  have HC := Lib.hid hc
  clear hr hc
  cases h1 : netOk n ws && plOk n e
  · have H1 := Lib.hid h1
    have hf : packsOk n ws e cs = false := by unfold packsOk; rw [← Bool.and_assoc, h1]; rfl
    rw [hf]
    clear h1 hf
    go_enter Tryd.func16, Tryd.ntmps16
    go_wp2_with fail
    refine (endsOk_any _ _ _ _ _ _ (HR.out.later (by go_grown))).mono ?_; rintro e w1 ⟨rfl, hb1⟩
    rw [H1.out]
    obtain ⟨hc1, hf1⟩ := bcell hb1
    have hz1_0 : w.heap.size < w1.heap.size := by have hq := hb1.size; (try simp at hq); omega
    have HK1 := Lib.hid hb1
    have HB1 := Lib.hid (bstep (B := w.heap.size) (W := w) (by (try have hp := HB0.out); go_grown) (by go_size) hb1); clear hb1
    go_wp2_with fail
    go_ret
    exact ⟨rfl, HB1.out⟩
  · have H1 := Lib.hid h1
    obtain ⟨hno, hpe⟩ : netOk n ws = true ∧ plOk n e = true := by simpa using h1
    by_cases h8 : cs.length ≤ 8
    · have hni := netOk_t hno
      have HS := Lib.hid hni
      have hl9 := hni.len
      have hn6 := hni.hi
      have HPK : Hid (packsOk n ws e cs = (cs.all (cutOk n e) && loadsTo ws cs ws.length)) := by show _ = _; unfold packsOk; rw [hno, hpe, decide_eq_true h8]; rfl
      have HPE : Hid (∀ P, partsEnds n ws e P = (plOk n P && parts e P)) := fun P => by unfold partsEnds; rw [hno, hpe]; rfl
      rw [HPK.out]
      have h8i : ¬ (8 : Int) < (cs.length : Int) := by omega
      have h8j : (cs.length : Int) ≤ 8 := by omega
      clear h1 hno hpe hni HPK
      go_enter Tryd.func16, Tryd.ntmps16
      go_wp2_with fail
      refine (endsOk_any _ _ _ _ _ _ (HR.out.later (by go_grown))).mono ?_; rintro e w1 ⟨rfl, hb1⟩
      rw [H1.out]
      obtain ⟨hc1, hf1⟩ := bcell hb1
      have hz1_0 : w.heap.size < w1.heap.size := by have hq := hb1.size; (try simp at hq); omega
      have HK1 := Lib.hid hb1
      have HB1 := Lib.hid (bstep (B := w.heap.size) (W := w) (by (try have hp := HB0.out); go_grown) (by go_size) hb1); clear hb1
      have k10 : w1.cell? ⟨w.heap.size, 0, none⟩ = some (.int .i64 n) := by go_simp
      have k11 : w1.cell? ⟨w.heap.size, 1, none⟩ = some (.slice A ws.length cap) := by go_simp
      clear hc1 hf1
      go_wp2_with fail
      go_loopw [22] (fun i wr => ∃ k : Nat, k ≤ cs.length ∧ i = .int .i64 k ∧ (cs.take k).all (cutOk n e) = true ∧ wr.cell? ⟨w.heap.size, 0, none⟩ = some (.int .i64 n) ∧ wr.cell? ⟨w.heap.size, 1, none⟩ = some (.slice A ws.length cap) ∧ Below w.heap.size w wr ∧ w.heap.size < wr.heap.size) (fun i _ => cs.length - (intOf i).toNat)
      case atStart => exact ⟨0, Nat.zero_le _, rfl, rfl, k10, k11, HB1.out, hz1_0⟩
      case round =>
        clear k10 k11 HB1 HK1 h8i
        obtain ⟨k, hk, rfl, hall, b0, b1, hb, hz⟩ := hrel
        have HB0 := Lib.hid hb
        have hk0 : (0 : Int) ≤ (k : Int) := by omega
        by_cases hlk : k < cs.length
        · have hk1 : (k : Int) < (cs.length : Int) := by omega
          obtain ⟨c, hx⟩ : ∃ c, cs[k]? = some c := ⟨_, List.getElem?_eq_getElem hlk⟩
          obtain ⟨b, o, rfl, hB, c0, c1⟩ := (HC.out.later hb) k c hx
          have HALL : Hid ((cs.take (k + 1)).all (cutOk n e) = cutOk n e c) := by show _ = _; rw [cutOk_take hx, hall]; rfl
          have HNO : Hid (cutOk n e c = false → cs.all (cutOk n e) = false) := fun h => cutOk_false hx h
          clear hx hall hb
          cases hw : inB c.2 0 81
          · have HW := Lib.hid hw
            have HF : Hid (cs.all (cutOk n e) = false) := HNO.out (by unfold cutOk; rw [hw]; simp)
            clear hw HALL HNO
            go_wp2_with fail
            refine (weightOk_any c.2 _).mono ?_; rintro e2 w2 ⟨rfl, rfl⟩; rw [HW.out]
            go_wp2_with fail
            go_ret
            exact ⟨ret_bool (by rw [HF.out]; rfl), by have := HB0.out; go_grown⟩
          · have HW := Lib.hid hw
            cases hp : plOk n c.1 && parts e c.1
            · have HP : Hid (partsEnds n ws e c.1 = false) := (HPE.out c.1).trans hp
              have HF : Hid (cs.all (cutOk n e) = false) := HNO.out (by unfold cutOk; rw [← Bool.and_assoc, hp]; rfl)
              clear hp hw HALL HNO
              go_wp2_with fail
              refine (weightOk_any c.2 _).mono ?_; rintro e2 w2 ⟨rfl, rfl⟩; rw [HW.out]
              go_wp2_with fail
              refine (PartsEnds_any _ _ _ _ _ _ _ (HR.out.later (by have := HB0.out; go_grown))).mono ?_; rintro e w1 ⟨rfl, hb1⟩
              rw [HP.out]
              obtain ⟨hc1, hf1⟩ := bcell hb1
              have hz1_0 : w.heap.size < w1.heap.size := by have hq := hb1.size; (try simp at hq); omega
              have HK1 := Lib.hid hb1
              have HB1 := Lib.hid (bstep (B := w.heap.size) (W := w) (by (try have hp := HB0.out); go_grown) (by go_size) hb1); clear hb1
              go_wp2_with fail
              go_ret
              exact ⟨ret_bool (by rw [HF.out]; rfl), HB1.out⟩
            · have HP : Hid (partsEnds n ws e c.1 = true) := (HPE.out c.1).trans hp
              have HALL2 : Hid ((cs.take (k + 1)).all (cutOk n e) = true) := by show _ = _; rw [HALL.out]; unfold cutOk; rw [← Bool.and_assoc, hp, hw]; rfl
              clear hp hw HALL HNO
              go_wp2_with fail
              refine (weightOk_any c.2 _).mono ?_; rintro e2 w2 ⟨rfl, rfl⟩; rw [HW.out]
              go_wp2_with fail
              refine (PartsEnds_any _ _ _ _ _ _ _ (HR.out.later (by have := HB0.out; go_grown))).mono ?_; rintro e w1 ⟨rfl, hb1⟩
              rw [HP.out]
              obtain ⟨hc1, hf1⟩ := bcell hb1
              have hz1_0 : w.heap.size < w1.heap.size := by have hq := hb1.size; (try simp at hq); omega
              have HK1 := Lib.hid hb1
              have HB1 := Lib.hid (bstep (B := w.heap.size) (W := w) (by (try have hp := HB0.out); go_grown) (by go_size) hb1); clear hb1
              have k10 : w1.cell? ⟨w.heap.size, 0, none⟩ = some (.int .i64 n) := by go_simp
              have k11 : w1.cell? ⟨w.heap.size, 1, none⟩ = some (.slice A ws.length cap) := by go_simp
              clear hc1 hf1
              go_wp2_with fail
              go_roundw
              case rel => exact ⟨k + 1, by omega, by go_num, HALL2.out, k10, k11, HB1.out, hz1_0⟩
              case measure => (simp [intOf]) <;> omega
        · obtain rfl : k = cs.length := by omega
          rw [List.take_length] at hall
          have HAT := Lib.hid hall
          have HCO : Hid (∀ c, c ∈ cs → 0 ≤ c.1 ∧ c.1 < 64 ∧ 0 ≤ c.2 ∧ c.2 ≤ 81) := fun c hc => by
            have h9 := List.all_eq_true.1 hall c hc
            unfold cutOk at h9
            rw [Bool.and_eq_true, Bool.and_eq_true] at h9
            have h8 := plOk_lt hn6 h9.1
            have h7 := h9.2.2
            unfold inB at h7
            simp at h7
            omega
          clear hall hb HPE
          go_wp2_with fail
          go_loopw [42] (fun i wr => ∃ j : Nat, j ≤ ws.length ∧ i = .int .i64 j ∧ loadsTo ws cs j = true ∧ Below w.heap.size w wr ∧ w.heap.size < wr.heap.size) (fun i _ => ws.length - (intOf i).toNat)
          case atStart => exact ⟨0, Nat.zero_le _, rfl, rfl, HB0.out, hz⟩
          case round =>
            clear b0 b1 HB0 hz
            obtain ⟨j, hj, rfl, hlo, hb, hz⟩ := hrel
            have HB0 := Lib.hid hb
            have HLO := Lib.hid hlo
            have hj0 : (0 : Int) ≤ (j : Int) := by omega
            by_cases hlj : j < ws.length
            · have hj1 : (j : Int) < (ws.length : Int) := by omega
              obtain ⟨x, hx⟩ : ∃ x, ws[j]? = some x := ⟨_, List.getElem?_eq_getElem hlj⟩
              have hxa := HS.out.at_ hx
              obtain ⟨b, o, rfl, hB, c0, c1, c2⟩ := HR.out.below hb j x hx
              have HLA : Hid (loadsTo ws cs (j + 1) = decide (wload ws j cs ≤ x.c)) := by show _ = _; rw [loadsTo_at hx, hlo, Bool.true_and]
              have HWO := Lib.hid (fun W h => weightOn_any Ac cc cs ws j x hx (by omega) (by omega) (by omega) (by omega) HCO.out h8 W h)
              have HCC := Lib.hid (HC.out.later hb)
              obtain ⟨u, hu⟩ : ∃ u, wload ws j cs = u := ⟨_, rfl⟩
              have HU := Lib.hid hu
              rw [hu] at HLA
              clear hu hb hx hxa hlo
              by_cases hle : u ≤ x.c
              · have hgt : ¬ x.c < u := by omega
                have HL1 : Hid (loadsTo ws cs (j + 1) = true) := by show _ = _; rw [HLA.out, decide_eq_true hle]
                go_wp2_with fail
                refine wp_region_held_drew (S := (fun w' => w'.cell? ⟨wr.heap.size, 0, none⟩ = some (.int .i64 x.a) ∧ w'.cell? ⟨wr.heap.size, 1, none⟩ = some (.int .i64 x.b) ∧ w'.cell? ⟨wr.heap.size, 2, none⟩ = some (.int .i64 x.c))) (by kernel_rfl) ?_ (fun hHeld => ?_)
                · exact ⟨by go_simp, by go_simp, by go_simp⟩
                refine wpAnyH_take (i := 0) (v := ?_) rfl (by kernel_rfl) (by kernel_rfl) (by kernel_rfl) (fun _ _ _ h => h) (Or.inl ⟨by rfl, ?_⟩) (by assumption) ?_
                rotate_left
                · (intro w hSw; (try dsimp only at hSw); (try simp only [List.getElem_toArray, List.getElem_cons_succ, List.getElem_cons_zero]); first | (go_simp; done) | (go_simp; with_reducible rfl))
                try simp only [Act.put, List.getElem_toArray, List.getElem_cons_succ, List.getElem_cons_zero, List.setIfInBounds_toArray, List.set_cons_zero, List.set_cons_succ]
                refine wpAnyH_take (i := 1) (v := ?_) rfl (by kernel_rfl) (by kernel_rfl) (by kernel_rfl) (fun _ _ _ h => h) (Or.inl ⟨by rfl, ?_⟩) (by assumption) ?_
                rotate_left
                · (intro w hSw; (try dsimp only at hSw); (try simp only [List.getElem_toArray, List.getElem_cons_succ, List.getElem_cons_zero]); first | (go_simp; done) | (go_simp; with_reducible rfl))
                try simp only [Act.put, List.getElem_toArray, List.getElem_cons_succ, List.getElem_cons_zero, List.setIfInBounds_toArray, List.set_cons_zero, List.set_cons_succ]
                refine wpAnyH_take (i := 3) (v := ?_) rfl (by kernel_rfl) (by kernel_rfl) (by kernel_rfl) (fun _ _ _ h => h) (Or.inl ⟨by rfl, ?_⟩) (by assumption) ?_
                rotate_left
                · (intro w hSw; (try dsimp only at hSw); (try simp only [List.getElem_toArray, List.getElem_cons_succ, List.getElem_cons_zero]); first | (go_simp; done) | (go_simp; with_reducible rfl))
                try simp only [Act.put, List.getElem_toArray, List.getElem_cons_succ, List.getElem_cons_zero, List.setIfInBounds_toArray, List.set_cons_zero, List.set_cons_succ]
                refine wpAnyH_take (i := 4) (v := ?_) rfl (by kernel_rfl) (by kernel_rfl) (by kernel_rfl) (fun _ _ _ h => h) (Or.inl ⟨by rfl, ?_⟩) (by assumption) ?_
                rotate_left
                · (intro w hSw; (try dsimp only at hSw); (try simp only [List.getElem_toArray, List.getElem_cons_succ, List.getElem_cons_zero]); first | (go_simp; done) | (go_simp; with_reducible rfl))
                try simp only [Act.put, List.getElem_toArray, List.getElem_cons_succ, List.getElem_cons_zero, List.setIfInBounds_toArray, List.set_cons_zero, List.set_cons_succ]
                refine wpAnyH_ready (rs := [2]) (by kernel_rfl) (by simp) ?_
                refine AllReadyH.cons rfl (fun K hK => ?_) AllReadyH.nil
                try simp only [List.getElem_toArray, List.getElem_cons_succ, List.getElem_cons_zero]
                go_simp
                go_at_call 34; refine (HWO.out _ (HCC.out.later (by go_grown))).mono ?_; rintro e3 w3 ⟨rfl, hb3⟩; rw [HU.out]; have gg3 := und hb3; have g3 : Below wr.heap.size wr w3 := bstep (by go_grown) (by go_size) gg3; have k3 := (⟨(gg3.cell (p := ⟨wr.heap.size, 0, none⟩) (by go_size)).trans hHeld.1, (gg3.cell (p := ⟨wr.heap.size, 1, none⟩) (by go_size)).trans hHeld.2.1, (gg3.cell (p := ⟨wr.heap.size, 2, none⟩) (by go_size)).trans hHeld.2.2⟩ : _ ∧ _ ∧ _)
                refine hK.out _ _ ?_ (fun hHeld => ?_)
                · exact k3
                clear hK K
                try simp only [Act.put, List.getElem_toArray, List.getElem_cons_succ, List.getElem_cons_zero, List.setIfInBounds_toArray, List.set_cons_zero, List.set_cons_succ]
                refine wpAnyH_take (i := 5) (v := ?_) rfl (by kernel_rfl) (by kernel_rfl) (by kernel_rfl) (fun _ _ _ h => h) (Or.inl ⟨by rfl, ?_⟩) (by assumption) ?_
                rotate_left
                · (intro w hSw; (try dsimp only at hSw); (try simp only [List.getElem_toArray, List.getElem_cons_succ, List.getElem_cons_zero]); first | (go_simp; done) | (go_simp; with_reducible rfl))
                try simp only [Act.put, List.getElem_toArray, List.getElem_cons_succ, List.getElem_cons_zero, List.setIfInBounds_toArray, List.set_cons_zero, List.set_cons_succ]
                refine wpAnyH_done (by kernel_rfl) ?_ _
                have HB3 := Lib.hid (bstep (B := w.heap.size) (W := w) HB0.out (Nat.le_of_lt hz) g3)
                have hz3 := Nat.lt_of_lt_of_le hz g3.size
                clear g3 gg3 hb3
                go_wp2_with fail
                go_roundw
                case rel => exact ⟨j + 1, by omega, by go_num, HL1.out, HB3.out, hz3⟩
                case measure => (simp [intOf]) <;> omega
              · have hgt : x.c < u := by omega
                have HL1 : Hid (loadsTo ws cs ws.length = false) := by
                  show _ = _
                  have := loadsTo_false (k := j + 1) (by rw [HLA.out]; exact decide_eq_false hle) (ws.length - (j + 1))
                  rw [show j + 1 + (ws.length - (j + 1)) = ws.length from by omega] at this
                  exact this
                go_wp2_with fail
                refine wp_region_held_drew (S := (fun w' => w'.cell? ⟨wr.heap.size, 0, none⟩ = some (.int .i64 x.a) ∧ w'.cell? ⟨wr.heap.size, 1, none⟩ = some (.int .i64 x.b) ∧ w'.cell? ⟨wr.heap.size, 2, none⟩ = some (.int .i64 x.c))) (by kernel_rfl) ?_ (fun hHeld => ?_)
                · exact ⟨by go_simp, by go_simp, by go_simp⟩
                refine wpAnyH_take (i := 0) (v := ?_) rfl (by kernel_rfl) (by kernel_rfl) (by kernel_rfl) (fun _ _ _ h => h) (Or.inl ⟨by rfl, ?_⟩) (by assumption) ?_
                rotate_left
                · (intro w hSw; (try dsimp only at hSw); (try simp only [List.getElem_toArray, List.getElem_cons_succ, List.getElem_cons_zero]); first | (go_simp; done) | (go_simp; with_reducible rfl))
                try simp only [Act.put, List.getElem_toArray, List.getElem_cons_succ, List.getElem_cons_zero, List.setIfInBounds_toArray, List.set_cons_zero, List.set_cons_succ]
                refine wpAnyH_take (i := 1) (v := ?_) rfl (by kernel_rfl) (by kernel_rfl) (by kernel_rfl) (fun _ _ _ h => h) (Or.inl ⟨by rfl, ?_⟩) (by assumption) ?_
                rotate_left
                · (intro w hSw; (try dsimp only at hSw); (try simp only [List.getElem_toArray, List.getElem_cons_succ, List.getElem_cons_zero]); first | (go_simp; done) | (go_simp; with_reducible rfl))
                try simp only [Act.put, List.getElem_toArray, List.getElem_cons_succ, List.getElem_cons_zero, List.setIfInBounds_toArray, List.set_cons_zero, List.set_cons_succ]
                refine wpAnyH_take (i := 3) (v := ?_) rfl (by kernel_rfl) (by kernel_rfl) (by kernel_rfl) (fun _ _ _ h => h) (Or.inl ⟨by rfl, ?_⟩) (by assumption) ?_
                rotate_left
                · (intro w hSw; (try dsimp only at hSw); (try simp only [List.getElem_toArray, List.getElem_cons_succ, List.getElem_cons_zero]); first | (go_simp; done) | (go_simp; with_reducible rfl))
                try simp only [Act.put, List.getElem_toArray, List.getElem_cons_succ, List.getElem_cons_zero, List.setIfInBounds_toArray, List.set_cons_zero, List.set_cons_succ]
                refine wpAnyH_take (i := 4) (v := ?_) rfl (by kernel_rfl) (by kernel_rfl) (by kernel_rfl) (fun _ _ _ h => h) (Or.inl ⟨by rfl, ?_⟩) (by assumption) ?_
                rotate_left
                · (intro w hSw; (try dsimp only at hSw); (try simp only [List.getElem_toArray, List.getElem_cons_succ, List.getElem_cons_zero]); first | (go_simp; done) | (go_simp; with_reducible rfl))
                try simp only [Act.put, List.getElem_toArray, List.getElem_cons_succ, List.getElem_cons_zero, List.setIfInBounds_toArray, List.set_cons_zero, List.set_cons_succ]
                refine wpAnyH_ready (rs := [2]) (by kernel_rfl) (by simp) ?_
                refine AllReadyH.cons rfl (fun K hK => ?_) AllReadyH.nil
                try simp only [List.getElem_toArray, List.getElem_cons_succ, List.getElem_cons_zero]
                go_simp
                go_at_call 34; refine (HWO.out _ (HCC.out.later (by go_grown))).mono ?_; rintro e3 w3 ⟨rfl, hb3⟩; rw [HU.out]; have gg3 := und hb3; have g3 : Below wr.heap.size wr w3 := bstep (by go_grown) (by go_size) gg3; have k3 := (⟨(gg3.cell (p := ⟨wr.heap.size, 0, none⟩) (by go_size)).trans hHeld.1, (gg3.cell (p := ⟨wr.heap.size, 1, none⟩) (by go_size)).trans hHeld.2.1, (gg3.cell (p := ⟨wr.heap.size, 2, none⟩) (by go_size)).trans hHeld.2.2⟩ : _ ∧ _ ∧ _)
                refine hK.out _ _ ?_ (fun hHeld => ?_)
                · exact k3
                clear hK K
                try simp only [Act.put, List.getElem_toArray, List.getElem_cons_succ, List.getElem_cons_zero, List.setIfInBounds_toArray, List.set_cons_zero, List.set_cons_succ]
                refine wpAnyH_take (i := 5) (v := ?_) rfl (by kernel_rfl) (by kernel_rfl) (by kernel_rfl) (fun _ _ _ h => h) (Or.inl ⟨by rfl, ?_⟩) (by assumption) ?_
                rotate_left
                · (intro w hSw; (try dsimp only at hSw); (try simp only [List.getElem_toArray, List.getElem_cons_succ, List.getElem_cons_zero]); first | (go_simp; done) | (go_simp; with_reducible rfl))
                try simp only [Act.put, List.getElem_toArray, List.getElem_cons_succ, List.getElem_cons_zero, List.setIfInBounds_toArray, List.set_cons_zero, List.set_cons_succ]
                refine wpAnyH_done (by kernel_rfl) ?_ _
                have HB3 := Lib.hid (bstep (B := w.heap.size) (W := w) HB0.out (Nat.le_of_lt hz) g3)
                clear g3 gg3 hb3
                go_wp2_with fail
                go_ret
                exact ⟨ret_bool (by rw [HL1.out, HAT.out]; rfl), HB3.out⟩
            · obtain rfl : j = ws.length := by omega
              clear hlo hb
              go_wp2_with fail
              go_ret
              exact ⟨ret_bool (by rw [HLO.out, HAT.out]; rfl), HB0.out⟩
    · have hf : packsOk n ws e cs = false := by unfold packsOk; rw [decide_eq_false h8]; simp
      rw [hf]
      have h8i : (8 : Int) < (cs.length : Int) := by omega
      clear h1 hf hno hpe
      go_enter Tryd.func16, Tryd.ntmps16
      go_wp2_with fail
      refine (endsOk_any _ _ _ _ _ _ (HR.out.later (by go_grown))).mono ?_; rintro e w1 ⟨rfl, hb1⟩
      rw [H1.out]
      obtain ⟨hc1, hf1⟩ := bcell hb1
      have hz1_0 : w.heap.size < w1.heap.size := by have hq := hb1.size; (try simp at hq); omega
      have HK1 := Lib.hid hb1
      have HB1 := Lib.hid (bstep (B := w.heap.size) (W := w) (by (try have hp := HB0.out); go_grown) (by go_size) hb1); clear hb1
      go_wp2_with fail
      go_ret
      exact ⟨rfl, HB1.out⟩
set_option maxHeartbeats 4000000 in
theorem PackSum_any (n e : Int) (A : Option Addr) (cap : Nat) (ws : List Wy) (Ac : Option Addr) (cc : Nat) (cs : List (Int × Int)) (w : World) (hr : RW w w.heap.size A ws) (hc : RC w w.heap.size Ac cs) :
    Calls Tryd.prog 14 #[.agg #[.int .i64 n, .slice A ws.length cap], .int .i64 e, .slice Ac cs.length cc] w fun en w' => en = .returned (.int .i64 (packSum n ws e cs)) ∧ Below w.heap.size w w' := by
  have HR := Lib.hid hr
  have HC := Lib.hid hc
  clear hr hc
  cases h1 : packsOk n ws e cs
  · have H1 := Lib.hid h1
    rw [packSum_no h1]
    clear h1
    go_enter Tryd.func14, Tryd.ntmps14
    go_wp2_with fail
    refine (PacksOk_any _ _ _ _ _ _ _ _ _ (HR.out.later (by go_grown)) (HC.out.later (by go_grown))).mono ?_; rintro e w1 ⟨rfl, hb1⟩
    rw [H1.out]
    obtain ⟨hc1, hf1⟩ := bcell hb1
    have hz1_0 : w.heap.size < w1.heap.size := by have hq := hb1.size; (try simp at hq); omega
    have HK1 := Lib.hid hb1
    have HB1 := Lib.hid (bstep (B := w.heap.size) (W := w) (by (try have hp := HB0.out); go_grown) (by go_size) hb1); clear hb1
    go_wp2_with fail
    go_ret
    exact ⟨rfl, HB1.out⟩
  · have H1 := Lib.hid h1
    rw [packSum_is h1]
    obtain ⟨-, -, h8, -, hpk⟩ := packsOk_t h1
    have HCO : Hid (∀ c, c ∈ cs → 0 ≤ c.2 ∧ c.2 ≤ 81) := fun c hc => (hpk.part c hc).2
    clear h1 hpk
    go_enter Tryd.func14, Tryd.ntmps14
    go_wp2_with fail
    refine (PacksOk_any _ _ _ _ _ _ _ _ _ (HR.out.later (by go_grown)) (HC.out.later (by go_grown))).mono ?_; rintro e w1 ⟨rfl, hb1⟩
    rw [H1.out]
    obtain ⟨hc1, hf1⟩ := bcell hb1
    have hz1_0 : w.heap.size < w1.heap.size := by have hq := hb1.size; (try simp at hq); omega
    have HK1 := Lib.hid hb1
    have HB1 := Lib.hid (bstep (B := w.heap.size) (W := w) (by (try have hp := HB0.out); go_grown) (by go_size) hb1); clear hb1
    clear hc1 hf1
    go_wp2_with fail
    go_loopw [7, 17] (fun s i wr => ∃ k : Nat, k ≤ cs.length ∧ s = .int .i64 (wsum (cs.take k)) ∧ i = .int .i64 k ∧ Below w.heap.size w wr) (fun _ i _ => cs.length - (intOf i).toNat)
    case atStart => exact ⟨0, Nat.zero_le _, rfl, rfl, HB1.out⟩
    case round =>
      clear HB1 HK1
      obtain ⟨k, hk, rfl, rfl, hb⟩ := hrel
      have HB0 := Lib.hid hb
      have hk0 : (0 : Int) ≤ (k : Int) := by omega
      have hsb := wsum_bd (cs := cs.take k) fun d hd => HCO.out d (List.mem_of_mem_take hd)
      have hln : (cs.take k).length ≤ 8 := by rw [List.length_take]; omega
      by_cases hlk : k < cs.length
      · have hk1 : (k : Int) < (cs.length : Int) := by omega
        obtain ⟨c, hx⟩ : ∃ c, cs[k]? = some c := ⟨_, List.getElem?_eq_getElem hlk⟩
        have hq := HCO.out c (List.mem_of_getElem? hx)
        obtain ⟨b, o, rfl, hB, c0, c1⟩ := (HC.out.later hb) k c hx
        have HS1 := Lib.hid (wsum_take hx)
        obtain ⟨u, hu⟩ : ∃ u, wsum (cs.take k) = u := ⟨_, rfl⟩
        rw [hu] at hsb HS1 ⊢
        have wk : IntKind.i64.wrap (u + c.2) = u + c.2 := IntWalk.i64_in _ ⟨by omega, by omega⟩
        have wk2 : wrap64 (u + c.2) = u + c.2 := IntWalk.wrap64_in _ ⟨by clear wk; omega, by clear wk; omega⟩
        clear hx hb hu hsb hln hq
        go_wp2_with fail
        clear wk wk2
        go_roundw
        case rel => exact ⟨k + 1, by omega, by rw [HS1.out], by go_num, HB0.out.alloc HB0.out.size _⟩
        case measure => (simp [intOf]) <;> omega
      · obtain rfl : k = cs.length := by omega
        rw [List.take_length]
        obtain ⟨u, hu⟩ : ∃ u, wsum cs = u := ⟨_, rfl⟩
        rw [hu]
        have HU : Hid (u = wsum cs) := hu.symm
        clear hsb hln hu
        go_wp2_with fail
        go_ret
        exact ⟨ret_int HU.out, HB0.out⟩
/-- a row of distances, of m numbers -/
def RowD (w : World) (R m : Nat) (d : Nat → Int) : Prop := ∀ k, k < m → w.cell? ⟨R, k, none⟩ = some (.int .i64 (d k))
end Go.Proofs.YtiioojjjpabaeaaDoor
