/- The program's cuts: CutWays, PartsEnds, PacksOk, PackSum, PathCuts. -/
import Derived.Test.YtiioojjjpabaeaaCuC
import Derived.Test.YtiioojjjpabaeaaCuD
import Derived.Test.YtiioojjjpabaeaaCuA
import Derived.Test.YtiioojjjpabaeaaTc
import Derived.Test.YtiioojjjpabaeaaMC
import Derived.Test.YtiioojjjpabaeaaMG
set_option linter.unusedSimpArgs false
set_option linter.unusedVariables false
attribute [local go_sem ↓] Go.wp_at_zero Go.wp_at_succ
namespace Go.Proofs.Ytiioojjjpabaeaa
open Go.ChangeShapes Go.WideShapes Go.ChangeAt Go.RowKit

theorem takes_any (P : Int) (x : Wy) (a0 : 0 ≤ x.a) (a1 : x.a ≤ 5) (b0 : 0 ≤ x.b) (b1 : x.b ≤ 5) (p0 : 0 ≤ P) (p1 : P ≤ 1048576) (w : World) :
    Calls Try.prog 42 #[.int .i64 P, .agg #[.int .i64 x.a, .int .i64 x.b, .int .i64 x.c]] w fun e w' => e = .returned (.bool (bit P x.a != bit P x.b)) ∧ Below w.heap.size w w' := by
  have HA := Lib.hid (fun W => inSet_any P x.a a0 (by omega) p0 p1 W)
  have HB := Lib.hid (fun W => inSet_any P x.b b0 (by omega) p0 p1 W)
  go_enter Try.func42, Try.ntmps42
  go_wp2_with fail
  refine wp_region_held_drew (S := (fun w' => w'.cell? ⟨w.heap.size, 0, none⟩ = some (.int .i64 x.a) ∧ w'.cell? ⟨w.heap.size, 1, none⟩ = some (.int .i64 x.b))) (by kernel_rfl) ?_ (fun hHeld => ?_)
  · exact ⟨by go_simp, by go_simp⟩
  refine wpAnyH_take (i := 0) (v := ?_) rfl (by kernel_rfl) (by kernel_rfl) (by kernel_rfl) (fun _ _ _ h => h) (Or.inl ⟨by rfl, ?_⟩) (by assumption) ?_
  rotate_left
  · (intro w hSw; (try dsimp only at hSw); (try simp only [List.getElem_toArray, List.getElem_cons_succ, List.getElem_cons_zero]); first | (go_simp; done) | (go_simp; with_reducible rfl))
  try simp only [Act.put, List.getElem_toArray, List.getElem_cons_succ, List.getElem_cons_zero, List.setIfInBounds_toArray, List.set_cons_zero, List.set_cons_succ]
  refine wpAnyH_take (i := 1) (v := ?_) rfl (by kernel_rfl) (by kernel_rfl) (by kernel_rfl) (fun _ _ _ h => h) (Or.inl ⟨by rfl, ?_⟩) (by assumption) ?_
  rotate_left
  · (intro w hSw; (try dsimp only at hSw); (try simp only [List.getElem_toArray, List.getElem_cons_succ, List.getElem_cons_zero]); first | (go_simp; done) | (go_simp; with_reducible rfl))
  try simp only [Act.put, List.getElem_toArray, List.getElem_cons_succ, List.getElem_cons_zero, List.setIfInBounds_toArray, List.set_cons_zero, List.set_cons_succ]
  refine wpAnyH_take (i := 2) (v := ?_) rfl (by kernel_rfl) (by kernel_rfl) (by kernel_rfl) (fun _ _ _ h => h) (Or.inl ⟨by rfl, ?_⟩) (by assumption) ?_
  rotate_left
  · (intro w hSw; (try dsimp only at hSw); (try simp only [List.getElem_toArray, List.getElem_cons_succ, List.getElem_cons_zero]); first | (go_simp; done) | (go_simp; with_reducible rfl))
  try simp only [Act.put, List.getElem_toArray, List.getElem_cons_succ, List.getElem_cons_zero, List.setIfInBounds_toArray, List.set_cons_zero, List.set_cons_succ]
  refine wpAnyH_take (i := 4) (v := ?_) rfl (by kernel_rfl) (by kernel_rfl) (by kernel_rfl) (fun _ _ _ h => h) (Or.inl ⟨by rfl, ?_⟩) (by assumption) ?_
  rotate_left
  · (intro w hSw; (try dsimp only at hSw); (try simp only [List.getElem_toArray, List.getElem_cons_succ, List.getElem_cons_zero]); first | (go_simp; done) | (go_simp; with_reducible rfl))
  try simp only [Act.put, List.getElem_toArray, List.getElem_cons_succ, List.getElem_cons_zero, List.setIfInBounds_toArray, List.set_cons_zero, List.set_cons_succ]
  refine wpAnyH_take (i := 5) (v := ?_) rfl (by kernel_rfl) (by kernel_rfl) (by kernel_rfl) (fun _ _ _ h => h) (Or.inl ⟨by rfl, ?_⟩) (by assumption) ?_
  rotate_left
  · (intro w hSw; (try dsimp only at hSw); (try simp only [List.getElem_toArray, List.getElem_cons_succ, List.getElem_cons_zero]); first | (go_simp; done) | (go_simp; with_reducible rfl))
  try simp only [Act.put, List.getElem_toArray, List.getElem_cons_succ, List.getElem_cons_zero, List.setIfInBounds_toArray, List.set_cons_zero, List.set_cons_succ]
  refine wpAnyH_take (i := 6) (v := ?_) rfl (by kernel_rfl) (by kernel_rfl) (by kernel_rfl) (fun _ _ _ h => h) (Or.inl ⟨by rfl, ?_⟩) (by assumption) ?_
  rotate_left
  · (intro w hSw; (try dsimp only at hSw); (try simp only [List.getElem_toArray, List.getElem_cons_succ, List.getElem_cons_zero]); first | (go_simp; done) | (go_simp; with_reducible rfl))
  try simp only [Act.put, List.getElem_toArray, List.getElem_cons_succ, List.getElem_cons_zero, List.setIfInBounds_toArray, List.set_cons_zero, List.set_cons_succ]
  refine wpAnyH_ready (rs := [3]) (by kernel_rfl) (by simp) ?_
  refine AllReadyH.cons rfl (fun K hK => ?_) AllReadyH.nil
  try simp only [List.getElem_toArray, List.getElem_cons_succ, List.getElem_cons_zero]
  go_simp
  go_at_call 68; refine (HA.out _).mono ?_; rintro e2 w2 ⟨rfl, rfl⟩
  refine hK.out _ _ ?_ (fun hHeld => ?_)
  · exact hHeld
  clear hK K
  try simp only [Act.put, List.getElem_toArray, List.getElem_cons_succ, List.getElem_cons_zero, List.setIfInBounds_toArray, List.set_cons_zero, List.set_cons_succ]
  refine wpAnyH_ready (rs := [7]) (by kernel_rfl) (by simp) ?_
  refine AllReadyH.cons rfl (fun K hK => ?_) AllReadyH.nil
  try simp only [List.getElem_toArray, List.getElem_cons_succ, List.getElem_cons_zero]
  go_simp
  go_at_call 68; refine (HB.out _).mono ?_; rintro e3 w3 ⟨rfl, rfl⟩
  refine hK.out _ _ ?_ (fun hHeld => ?_)
  · exact hHeld
  clear hK K
  try simp only [Act.put, List.getElem_toArray, List.getElem_cons_succ, List.getElem_cons_zero, List.setIfInBounds_toArray, List.set_cons_zero, List.set_cons_succ]
  refine wpAnyH_take (i := 8) (v := ?_) rfl (by kernel_rfl) (by kernel_rfl) (by kernel_rfl) (fun _ _ _ h => h) (Or.inl ⟨by rfl, ?_⟩) (by assumption) ?_
  rotate_left
  · (intro w hSw; (try dsimp only at hSw); (try simp only [List.getElem_toArray, List.getElem_cons_succ, List.getElem_cons_zero]); first | (go_simp; done) | (go_simp; with_reducible rfl))
  try simp only [Act.put, List.getElem_toArray, List.getElem_cons_succ, List.getElem_cons_zero, List.setIfInBounds_toArray, List.set_cons_zero, List.set_cons_succ]
  refine wpAnyH_take (i := 9) (v := ?_) rfl (by kernel_rfl) (by kernel_rfl) (by kernel_rfl) (fun _ _ _ h => h) (Or.inl ⟨by rfl, ?_⟩) (by assumption) ?_
  rotate_left
  · (intro w hSw; (try dsimp only at hSw); (try simp only [List.getElem_toArray, List.getElem_cons_succ, List.getElem_cons_zero]); first | (go_simp; done) | (go_simp; with_reducible rfl))
  try simp only [Act.put, List.getElem_toArray, List.getElem_cons_succ, List.getElem_cons_zero, List.setIfInBounds_toArray, List.set_cons_zero, List.set_cons_succ]
  refine wpAnyH_done (by kernel_rfl) ?_ _
  go_wp2_with fail
  go_ret
  exact ⟨rfl, by go_grown⟩
set_option maxHeartbeats 2000000 in
theorem CutWays_any (n P : Int) (A : Option Addr) (cap : Nat) (ws : List Wy) (w : World) (hr : RW w w.heap.size A ws) :
    Calls Try.prog 13 #[.agg #[.int .i64 n, .slice A ws.length cap], .int .i64 P] w fun e w' => e = .returned (.int .i64 (cutWays n ws P)) ∧ Below w.heap.size w w' := by
  have HR := Lib.hid hr
  clear hr
  unfold cutWays
  cases h1 : netOk n ws && plOk n P
  · have H1 := Lib.hid h1
    rw [if_neg (by simp)]
    clear h1
    go_enter Try.func13, Try.ntmps13
    go_wp2_with fail
    refine (endsOk_any _ _ _ _ _ _ (HR.out.later (by go_grown))).mono ?_; rintro e w1 ⟨rfl, hb1⟩
    rw [H1.out]
    obtain ⟨hc1, hf1⟩ := bcell hb1
    have hz1_0 : w.heap.size < w1.heap.size := by have hq := hb1.size; (try simp at hq); omega
    have HK1 := Lib.hid hb1
    have HB1 := Lib.hid (bstep (B := w.heap.size) (W := w) (by (try have hp := HB0.out); go_grown) (by go_size) hb1); clear hb1
    go_wp2_with fail
    go_ret
    exact ⟨rfl, HB1.out⟩
  · have H1 := Lib.hid h1
    obtain ⟨hno, hp⟩ : netOk n ws = true ∧ plOk n P = true := by simpa using h1
    have hni := netOk_t hno
    have HS := Lib.hid hni
    have hl9 := hni.len
    have hn6 := hni.hi
    have hpl := plOk_lt hn6 hp
    have p0 := hpl.1
    have p1 := hpl.2
    rw [if_pos rfl]
    unfold cw
    clear h1 hno hp hni hpl
    go_enter Try.func13, Try.ntmps13
    go_wp2_with fail
    refine (endsOk_any _ _ _ _ _ _ (HR.out.later (by go_grown))).mono ?_; rintro e w1 ⟨rfl, hb1⟩
    rw [H1.out]
    obtain ⟨hc1, hf1⟩ := bcell hb1
    have hz1_0 : w.heap.size < w1.heap.size := by have hq := hb1.size; (try simp at hq); omega
    have HK1 := Lib.hid hb1
    have HB1 := Lib.hid (bstep (B := w.heap.size) (W := w) (by (try have hp := HB0.out); go_grown) (by go_size) hb1); clear hb1
    have k10 : w1.cell? ⟨w.heap.size, 1, none⟩ = some (.slice A ws.length cap) := by go_simp
    clear hc1 hf1
    go_wp2_with fail
    go_loopw [5, 15] (fun c i wr => ∃ k : Nat, k ≤ ws.length ∧ c = .int .i64 (cwTo ws P k) ∧ i = .int .i64 k ∧ Below w.heap.size w wr ∧ w.heap.size < wr.heap.size) (fun _ i _ => ws.length - (intOf i).toNat)
    case atStart => exact ⟨0, Nat.zero_le _, rfl, rfl, HB1.out, hz1_0⟩
    case round =>
      clear k10 HB1 HK1
      obtain ⟨k, hk, rfl, rfl, hb, hz⟩ := hrel
      have HB0 := Lib.hid hb
      have hcb := cwTo_bd ws P k
      have hk0 : (0 : Int) ≤ (k : Int) := by omega
      by_cases hlk : k < ws.length
      · have hk1 : (k : Int) < (ws.length : Int) := by omega
        have hk8 : (k : Int) ≤ 60 := by omega
        obtain ⟨x, hx⟩ : ∃ x, ws[k]? = some x := ⟨_, List.getElem?_eq_getElem hlk⟩
        have hxa := HS.out.at_ hx
        obtain ⟨b, o, rfl, hB, c0, c1, c2⟩ := HR.out.below hb k x hx
        have hpk := pow_bd (k : Int) 8 (by omega)
        rw [Int.toNat_natCast] at hpk
        have HT := Lib.hid (fun W => takes_any P x (by omega) (by omega) (by omega) (by omega) p0 (by omega) W)
        have hcut := cutB_at (P := P) hx
        have HWK : Hid (IntKind.i64.wrap (2 ^ k) = 2 ^ k) := IntWalk.i64_in _ ⟨by omega, by omega⟩
        have HWK2 : Hid (wrap64 (2 ^ k) = 2 ^ k) := IntWalk.wrap64_in _ ⟨by omega, by omega⟩
        have hq512 : cwTo ws P k < 512 := by
          have : (2 : Int) ^ k ≤ 256 := by
            have h9 := Nat.pow_le_pow_right (n := 2) (by omega) (show k ≤ 8 by omega)
            have e9 : ((2 : Int) ^ k) = ((2 ^ k : Nat) : Int) := by simp
            omega
          omega
        have HOR := Lib.hid (bits_or (cwTo ws P k) (2 ^ k) hcb.1 (by omega) (by omega) (by omega))
        have hpk1 := hpk.1
        clear hx hxa hb hpk
        cases hc : cutB ws P k
        · have hne : (bit P x.a != bit P x.b) = false := by rw [← hcut, hc]
          have HNE := Lib.hid hne
          have HS1 : Hid (cwTo ws P (k + 1) = cwTo ws P k) := by show _ = _; rw [cwTo, if_neg (by rw [hc]; simp)]
          obtain ⟨q, hq⟩ : ∃ q, cwTo ws P k = q := ⟨_, rfl⟩
          rw [hq] at HS1 ⊢
          clear hcut hc hq hcb HOR hq512 hne
          go_wp2_with fail
          refine (HT.out _).mono ?_; rintro e w1 ⟨rfl, hb1⟩
          rw [HNE.out]
          obtain ⟨hc1, hf1⟩ := bcell hb1
          have hz1_0 : w.heap.size < w1.heap.size := by have hq := hb1.size; (try simp at hq); omega
          have HK1 := Lib.hid hb1
          have HB1 := Lib.hid (bstep (B := w.heap.size) (W := w) (by (try have hp := HB0.out); go_grown) (by go_size) hb1); clear hb1
          go_wp2_with fail
          go_roundw
          case rel => exact ⟨k + 1, by omega, by rw [HS1.out], by go_num, HB1.out, hz1_0⟩
          case measure => (simp [intOf]) <;> omega
        · have hne : (bit P x.a != bit P x.b) = true := by rw [← hcut, hc]
          have HNE := Lib.hid hne
          have HS1 : Hid (cwTo ws P (k + 1) = ior (cwTo ws P k) (2 ^ k)) := by show _ = _; rw [cwTo, if_pos hc]
          obtain ⟨q, hq⟩ : ∃ q, cwTo ws P k = q := ⟨_, rfl⟩
          rw [hq] at HS1 HOR ⊢
          clear hcut hc hq hcb hq512 hne
          go_wp2_with fail
          refine (HT.out _).mono ?_; rintro e w1 ⟨rfl, hb1⟩
          rw [HNE.out]
          obtain ⟨hc1, hf1⟩ := bcell hb1
          have hz1_0 : w.heap.size < w1.heap.size := by have hq := hb1.size; (try simp at hq); omega
          have HK1 := Lib.hid hb1
          have HB1 := Lib.hid (bstep (B := w.heap.size) (W := w) (by (try have hp := HB0.out); go_grown) (by go_size) hb1); clear hb1
          have wk := HWK.out
          have wk2 := HWK2.out
          have hor := HOR.out
          go_wp2_with fail
          clear wk wk2 hor
          go_roundw
          case rel => exact ⟨k + 1, by omega, by rw [HS1.out], by go_num, HB1.out, hz1_0⟩
          case measure => (simp [intOf]) <;> omega
      · obtain rfl : k = ws.length := by omega
        obtain ⟨q, hq⟩ : ∃ q, cwTo ws P ws.length = q := ⟨_, rfl⟩
        rw [hq]
        have HQ : Hid (q = cwTo ws P ws.length) := hq.symm
        clear hcb hq
        go_wp2_with fail
        go_ret
        exact ⟨ret_int HQ.out, HB0.out⟩
set_option maxHeartbeats 2000000 in
theorem PartsEnds_any (n e P : Int) (A : Option Addr) (cap : Nat) (ws : List Wy) (w : World) (hr : RW w w.heap.size A ws) :
    Calls Try.prog 31 #[.agg #[.int .i64 n, .slice A ws.length cap], .int .i64 e, .int .i64 P] w fun en w' => en = .returned (.bool (partsEnds n ws e P)) ∧ Below w.heap.size w w' := by
  have HR := Lib.hid hr
  clear hr
  cases h1 : netOk n ws && plOk n e
  · have H1 := Lib.hid h1
    rw [partsEnds_no h1]
    clear h1
    go_enter Try.func31, Try.ntmps31
    go_wp2_with fail
    refine (endsOk_any _ _ _ _ _ _ (HR.out.later (by go_grown))).mono ?_; rintro e w1 ⟨rfl, hb1⟩
    rw [H1.out]
    obtain ⟨hc1, hf1⟩ := bcell hb1
    have hz1_0 : w.heap.size < w1.heap.size := by have hq := hb1.size; (try simp at hq); omega
    have HK1 := Lib.hid hb1
    have HB1 := Lib.hid (bstep (B := w.heap.size) (W := w) (by (try have hp := HB0.out); go_grown) (by go_size) hb1); clear hb1
    go_wp2_with fail
    go_ret
    exact ⟨rfl, HB1.out⟩
  · have H1 := Lib.hid h1
    obtain ⟨hno, he⟩ : netOk n ws = true ∧ plOk n e = true := by simpa using h1
    have hn6 := (netOk_t hno).hi
    have hn2 := (netOk_t hno).lo
    cases hp : plOk n P
    · have HP : Hid ((decide (0 ≤ P) && decide (P < 2 ^ n.toNat)) = false) := hp
      rw [partsEnds_no2 (by rw [hno, hp]; rfl)]
      clear h1 hno he hp
      go_enter Try.func31, Try.ntmps31
      go_wp2_with fail
      refine (endsOk_any _ _ _ _ _ _ (HR.out.later (by go_grown))).mono ?_; rintro e w1 ⟨rfl, hb1⟩
      rw [H1.out]
      obtain ⟨hc1, hf1⟩ := bcell hb1
      have hz1_0 : w.heap.size < w1.heap.size := by have hq := hb1.size; (try simp at hq); omega
      have HK1 := Lib.hid hb1
      have HB1 := Lib.hid (bstep (B := w.heap.size) (W := w) (by (try have hp := HB0.out); go_grown) (by go_size) hb1); clear hb1
      go_wp2_with fail
      refine (hasPlaces_any _ _ _ (by omega) (by omega) _).mono ?_; rintro e w2 ⟨rfl, hb2⟩
      rw [HP.out]
      obtain ⟨hc2, hf2⟩ := bcell hb2
      have hz2_0 : w.heap.size < w2.heap.size := by have hq := hb2.size; (try simp at hq); omega
      have HK2 := Lib.hid hb2
      have HB2 := Lib.hid (bstep (B := w.heap.size) (W := w) (by have hp := HB1.out; go_grown) (by go_size) hb2); clear hb2
      go_wp2_with fail
      go_ret
      exact ⟨rfl, HB2.out⟩
    · have HP : Hid ((decide (0 ≤ P) && decide (P < 2 ^ n.toNat)) = true) := hp
      rw [partsEnds_is h1 (by rw [hno, hp]; rfl)]
      have eb := plOk_lt hn6 he
      have pb := plOk_lt hn6 hp
      have ha : bits .and .i64 e P = iand e P := bits_and _ _ (by omega) (by omega) (by omega) (by omega)
      have hd : bits .andNot .i64 e P = idiff e P := bits_andNot _ _ (by omega) (by omega) (by omega) (by omega)
      have HA := Lib.hid ha
      have HD := Lib.hid hd
      clear h1 hno he hp eb pb ha hd
      by_cases hi : iand e P = 0
      · rw [parts_no1 hi]
        have HA2 : Hid (bits .and .i64 e P = 0) := HA.out.trans hi
        clear hi
        go_enter Try.func31, Try.ntmps31
        go_wp2_with fail
        refine (endsOk_any _ _ _ _ _ _ (HR.out.later (by go_grown))).mono ?_; rintro e w1 ⟨rfl, hb1⟩
        rw [H1.out]
        obtain ⟨hc1, hf1⟩ := bcell hb1
        have hz1_0 : w.heap.size < w1.heap.size := by have hq := hb1.size; (try simp at hq); omega
        have HK1 := Lib.hid hb1
        have HB1 := Lib.hid (bstep (B := w.heap.size) (W := w) (by (try have hp := HB0.out); go_grown) (by go_size) hb1); clear hb1
        go_wp2_with fail
        refine (hasPlaces_any _ _ _ (by omega) (by omega) _).mono ?_; rintro e w2 ⟨rfl, hb2⟩
        rw [HP.out]
        obtain ⟨hc2, hf2⟩ := bcell hb2
        have hz2_0 : w.heap.size < w2.heap.size := by have hq := hb2.size; (try simp at hq); omega
        have HK2 := Lib.hid hb2
        have HB2 := Lib.hid (bstep (B := w.heap.size) (W := w) (by have hp := HB1.out; go_grown) (by go_size) hb2); clear hb2
        have ha := HA2.out
        go_wp2_with fail
        go_ret
        exact ⟨rfl, HB2.out⟩
      · by_cases hj : idiff e P = 0
        · rw [parts_no2 hj]
          have HD2 : Hid (bits .andNot .i64 e P = 0) := HD.out.trans hj
          have HI : Hid ((iand e P != 0) = true) := by show _ = _; simpa using hi
          clear hi hj
          go_enter Try.func31, Try.ntmps31
          go_wp2_with fail
          refine (endsOk_any _ _ _ _ _ _ (HR.out.later (by go_grown))).mono ?_; rintro e w1 ⟨rfl, hb1⟩
          rw [H1.out]
          obtain ⟨hc1, hf1⟩ := bcell hb1
          have hz1_0 : w.heap.size < w1.heap.size := by have hq := hb1.size; (try simp at hq); omega
          have HK1 := Lib.hid hb1
          have HB1 := Lib.hid (bstep (B := w.heap.size) (W := w) (by (try have hp := HB0.out); go_grown) (by go_size) hb1); clear hb1
          go_wp2_with fail
          refine (hasPlaces_any _ _ _ (by omega) (by omega) _).mono ?_; rintro e w2 ⟨rfl, hb2⟩
          rw [HP.out]
          obtain ⟨hc2, hf2⟩ := bcell hb2
          have hz2_0 : w.heap.size < w2.heap.size := by have hq := hb2.size; (try simp at hq); omega
          have HK2 := Lib.hid hb2
          have HB2 := Lib.hid (bstep (B := w.heap.size) (W := w) (by have hp := HB1.out; go_grown) (by go_size) hb2); clear hb2
          have ha := HA.out
          have hd := HD2.out
          have hi := HI.out
          go_wp2_with fail
          go_ret
          exact ⟨rfl, HB2.out⟩
        · rw [parts_yes hi hj]
          have HI : Hid ((iand e P != 0) = true) := by show _ = _; simpa using hi
          have HJ : Hid ((idiff e P != 0) = true) := by show _ = _; simpa using hj
          clear hi hj
          go_enter Try.func31, Try.ntmps31
          go_wp2_with fail
          refine (endsOk_any _ _ _ _ _ _ (HR.out.later (by go_grown))).mono ?_; rintro e w1 ⟨rfl, hb1⟩
          rw [H1.out]
          obtain ⟨hc1, hf1⟩ := bcell hb1
          have hz1_0 : w.heap.size < w1.heap.size := by have hq := hb1.size; (try simp at hq); omega
          have HK1 := Lib.hid hb1
          have HB1 := Lib.hid (bstep (B := w.heap.size) (W := w) (by (try have hp := HB0.out); go_grown) (by go_size) hb1); clear hb1
          go_wp2_with fail
          refine (hasPlaces_any _ _ _ (by omega) (by omega) _).mono ?_; rintro e w2 ⟨rfl, hb2⟩
          rw [HP.out]
          obtain ⟨hc2, hf2⟩ := bcell hb2
          have hz2_0 : w.heap.size < w2.heap.size := by have hq := hb2.size; (try simp at hq); omega
          have HK2 := Lib.hid hb2
          have HB2 := Lib.hid (bstep (B := w.heap.size) (W := w) (by have hp := HB1.out; go_grown) (by go_size) hb2); clear hb2
          have ha := HA.out
          have hd := HD.out
          have hi := HI.out
          have hj := HJ.out
          go_wp2_with fail
          go_ret
          exact ⟨rfl, HB2.out⟩
theorem weightOk_any (x : Int) (w : World) :
    Calls Try.prog 50 #[.int .i64 x] w fun e w' => e = .returned (.bool (inB x 0 81)) ∧ w = w' := by
  unfold inB
  go_enter Try.func50, Try.ntmps50
  go_wp2_with fail
  all_goals
    go_ret
    exact ⟨ret_bool (by first | (simp [*]; done) | (rw [Bool.eq_iff_iff]; simp only [Bool.and_eq_true, Bool.or_eq_true, Bool.not_eq_true', bne_iff_ne, beq_iff_eq, decide_eq_true_eq, decide_eq_false_iff_not, beq_eq_false_iff_ne, ne_eq, Bool.true_and, Bool.and_true, Bool.false_and, Bool.and_false, Bool.true_or, Bool.false_or, Bool.or_false, true_and, and_true, Bool.false_eq_true, false_iff, iff_false, true_iff, iff_true, iff_self]; done) | (rw [Bool.eq_iff_iff]; simp only [Bool.and_eq_true, Bool.or_eq_true, Bool.not_eq_true', bne_iff_ne, beq_iff_eq, decide_eq_true_eq, decide_eq_false_iff_not, beq_eq_false_iff_ne, ne_eq, Bool.true_and, Bool.and_true, Bool.false_and, Bool.and_false, Bool.true_or, Bool.false_or, Bool.or_false, true_and, and_true, Bool.false_eq_true, false_iff, iff_false, true_iff, iff_true]; omega)), rfl⟩
set_option maxHeartbeats 4000000 in
theorem weightOn_any (Ac : Option Addr) (cc : Nat) (cs : List (Int × Int)) (ws : List Wy) (j : Nat) (x : Wy) (hx : ws[j]? = some x) (a0 : 0 ≤ x.a) (a1 : x.a ≤ 5) (b0 : 0 ≤ x.b) (b1 : x.b ≤ 5)
    (hco : ∀ c, c ∈ cs → 0 ≤ c.1 ∧ c.1 < 64 ∧ 0 ≤ c.2 ∧ c.2 ≤ 81) (h8 : cs.length ≤ 8) (w : World) (hc : RC w w.heap.size Ac cs) :
    Calls Try.prog 51 #[.slice Ac cs.length cc, .agg #[.int .i64 x.a, .int .i64 x.b, .int .i64 x.c]] w fun e w' => e = .returned (.int .i64 (wload ws j cs)) ∧ Below w.heap.size w w' := by
  have HC := Lib.hid hc
  have HCO := Lib.hid hco
  have HX := Lib.hid hx
  clear hc hco hx
  go_enter Try.func51, Try.ntmps51
  go_wp2_with fail
  go_loopw [5, 10] (fun s i wr => ∃ k : Nat, k ≤ cs.length ∧ s = .int .i64 (wload ws j (cs.take k)) ∧ i = .int .i64 k ∧ wr.cell? ⟨w.heap.size, 0, none⟩ = some (.int .i64 x.a) ∧ wr.cell? ⟨w.heap.size, 1, none⟩ = some (.int .i64 x.b) ∧ wr.cell? ⟨w.heap.size, 2, none⟩ = some (.int .i64 x.c) ∧ Below w.heap.size w wr ∧ w.heap.size < wr.heap.size) (fun _ i _ => cs.length - (intOf i).toNat)
  case atStart => exact ⟨0, Nat.zero_le _, rfl, rfl, by go_simp, by go_simp, by go_simp, by go_grown, by go_size⟩
  case round =>
    obtain ⟨k, hk, rfl, rfl, q0, q1, q2, hb, hz⟩ := hrel
    have HB0 := Lib.hid hb
    have hk0 : (0 : Int) ≤ (k : Int) := by omega
    have hsb := wload_bd (ws := ws) (k := j) (cs := cs.take k) fun d hd => (HCO.out d (List.mem_of_mem_take hd)).2.2
    have hln : (cs.take k).length ≤ 8 := by rw [List.length_take]; omega
    by_cases hlk : k < cs.length
    · have hk1 : (k : Int) < (cs.length : Int) := by omega
      obtain ⟨c, hcx⟩ : ∃ c, cs[k]? = some c := ⟨_, List.getElem?_eq_getElem hlk⟩
      have hq := HCO.out c (List.mem_of_getElem? hcx)
      obtain ⟨b, o, rfl, hB, c0, c1⟩ := (HC.out.later hb) k c hcx
      have hWT := wload_take ws j hcx
      have hcut := cutB_at (P := c.1) HX.out
      have HT := Lib.hid (fun W => takes_any c.1 x a0 a1 b0 b1 (by omega) (by omega) W)
      obtain ⟨u, hu⟩ : ∃ u, wload ws j (cs.take k) = u := ⟨_, rfl⟩
      rw [hu] at hsb hWT ⊢
      have hu0 : 0 ≤ u ∧ u ≤ 648 := by omega
      clear hcx hb hu hsb hln
      cases hcc : cutB ws c.1 j
      · have HNE : Hid ((bit c.1 x.a != bit c.1 x.b) = false) := by show _ = _; rw [← hcut, hcc]
        have HS1 : Hid (wload ws j (cs.take (k + 1)) = u) := by show _ = _; rw [hWT, if_neg (by rw [hcc]; simp), Int.add_zero]
        clear hcut hcc hWT
        go_wp2_with fail
        refine (HT.out _).mono ?_; rintro e w1 ⟨rfl, hb1⟩
        rw [HNE.out]
        obtain ⟨hc1, hf1⟩ := bcell hb1
        have hz1_0 : w.heap.size < w1.heap.size := by have hq := hb1.size; (try simp at hq); omega
        have HK1 := Lib.hid hb1
        have HB1 := Lib.hid (bstep (B := w.heap.size) (W := w) (by (try have hp := HB0.out); go_grown) (by go_size) hb1); clear hb1
        have k0 : w1.cell? ⟨w.heap.size, 0, none⟩ = some (.int .i64 x.a) := by go_simp
        have k1 : w1.cell? ⟨w.heap.size, 1, none⟩ = some (.int .i64 x.b) := by go_simp
        have k2 : w1.cell? ⟨w.heap.size, 2, none⟩ = some (.int .i64 x.c) := by go_simp
        go_wp2_with fail
        go_roundw
        case rel => exact ⟨k + 1, by omega, by rw [HS1.out], by go_num, k0, k1, k2, HB1.out, hz1_0⟩
        case measure => (simp [intOf]) <;> omega
      · have HNE : Hid ((bit c.1 x.a != bit c.1 x.b) = true) := by show _ = _; rw [← hcut, hcc]
        have HS1 : Hid (wload ws j (cs.take (k + 1)) = u + c.2) := by show _ = _; rw [hWT, if_pos hcc]
        have HWW : Hid (IntKind.i64.wrap (u + c.2) = u + c.2) := IntWalk.i64_in _ ⟨by omega, by omega⟩
        have HWW2 : Hid (wrap64 (u + c.2) = u + c.2) := IntWalk.wrap64_in _ ⟨by omega, by omega⟩
        clear hcut hcc hWT
        go_wp2_with fail
        refine (HT.out _).mono ?_; rintro e w1 ⟨rfl, hb1⟩
        rw [HNE.out]
        obtain ⟨hc1, hf1⟩ := bcell hb1
        have hz1_0 : w.heap.size < w1.heap.size := by have hq := hb1.size; (try simp at hq); omega
        have HK1 := Lib.hid hb1
        have HB1 := Lib.hid (bstep (B := w.heap.size) (W := w) (by (try have hp := HB0.out); go_grown) (by go_size) hb1); clear hb1
        have k0 : w1.cell? ⟨w.heap.size, 0, none⟩ = some (.int .i64 x.a) := by go_simp
        have k1 : w1.cell? ⟨w.heap.size, 1, none⟩ = some (.int .i64 x.b) := by go_simp
        have k2 : w1.cell? ⟨w.heap.size, 2, none⟩ = some (.int .i64 x.c) := by go_simp
        have wk := HWW.out
        have wk2 := HWW2.out
        go_wp2_with fail
        clear wk wk2
        go_roundw
        case rel => exact ⟨k + 1, by omega, by rw [HS1.out], by go_num, k0, k1, k2, HB1.out, hz1_0⟩
        case measure => (simp [intOf]) <;> omega
    · obtain rfl : k = cs.length := by omega
      rw [List.take_length]
      obtain ⟨u, hu⟩ : ∃ u, wload ws j cs = u := ⟨_, rfl⟩
      rw [hu]
      have HU : Hid (u = wload ws j cs) := hu.symm
      clear hsb hln hu
      go_wp2_with fail
      go_ret
      exact ⟨ret_int HU.out, HB0.out⟩
set_option maxRecDepth 100000 in
set_option maxHeartbeats 8000000 in
theorem PacksOk_any (n e : Int) (A : Option Addr) (cap : Nat) (ws : List Wy) (Ac : Option Addr) (cc : Nat) (cs : List (Int × Int)) (w : World) (hr : RW w w.heap.size A ws) (hc : RC w w.heap.size Ac cs) :
    Calls Try.prog 18 #[.agg #[.int .i64 n, .slice A ws.length cap], .int .i64 e, .slice Ac cs.length cc] w fun en w' => en = .returned (.bool (packsOk n ws e cs)) ∧ Below w.heap.size w w' := by
  have HR := Lib.hid hr
  have HC := Lib.hid hc
  clear hr hc
  cases h1 : netOk n ws && plOk n e
  · have H1 := Lib.hid h1
    have hf : packsOk n ws e cs = false := by unfold packsOk; rw [← Bool.and_assoc, h1]; rfl
    rw [hf]
    clear h1 hf
    go_enter Try.func18, Try.ntmps18
    go_wp2_with fail
    refine (endsOk_any _ _ _ _ _ _ (HR.out.later (by go_grown))).mono ?_; rintro e w1 ⟨rfl, hb1⟩
    rw [H1.out]
    obtain ⟨hc1, hf1⟩ := bcell hb1
    have hz1_0 : w.heap.size < w1.heap.size := by have hq := hb1.size; (try simp at hq); omega
    have HK1 := Lib.hid hb1
    have HB1 := Lib.hid (bstep (B := w.heap.size) (W := w) (by (try have hp := HB0.out); go_grown) (by go_size) hb1); clear hb1
    go_wp2_with fail
    go_ret
    exact ⟨rfl, HB1.out⟩
  · have H1 := Lib.hid h1
    obtain ⟨hno, hpe⟩ : netOk n ws = true ∧ plOk n e = true := by simpa using h1
    by_cases h8 : cs.length ≤ 8
    · have hni := netOk_t hno
      have HS := Lib.hid hni
      have hl9 := hni.len
      have hn6 := hni.hi
      have HPK : Hid (packsOk n ws e cs = (cs.all (cutOk n e) && loadsTo ws cs ws.length)) := by show _ = _; unfold packsOk; rw [hno, hpe, decide_eq_true h8]; rfl
      have HPE : Hid (∀ P, partsEnds n ws e P = (plOk n P && parts e P)) := fun P => by unfold partsEnds; rw [hno, hpe]; rfl
      rw [HPK.out]
      have h8i : ¬ (8 : Int) < (cs.length : Int) := by omega
      have h8j : (cs.length : Int) ≤ 8 := by omega
      clear h1 hno hpe hni HPK
      go_enter Try.func18, Try.ntmps18
      go_wp2_with fail
      refine (endsOk_any _ _ _ _ _ _ (HR.out.later (by go_grown))).mono ?_; rintro e w1 ⟨rfl, hb1⟩
      rw [H1.out]
      obtain ⟨hc1, hf1⟩ := bcell hb1
      have hz1_0 : w.heap.size < w1.heap.size := by have hq := hb1.size; (try simp at hq); omega
      have HK1 := Lib.hid hb1
      have HB1 := Lib.hid (bstep (B := w.heap.size) (W := w) (by (try have hp := HB0.out); go_grown) (by go_size) hb1); clear hb1
      have k10 : w1.cell? ⟨w.heap.size, 0, none⟩ = some (.int .i64 n) := by go_simp
      have k11 : w1.cell? ⟨w.heap.size, 1, none⟩ = some (.slice A ws.length cap) := by go_simp
      clear hc1 hf1
      go_wp2_with fail
      go_loopw [22] (fun i wr => ∃ k : Nat, k ≤ cs.length ∧ i = .int .i64 k ∧ (cs.take k).all (cutOk n e) = true ∧ wr.cell? ⟨w.heap.size, 0, none⟩ = some (.int .i64 n) ∧ wr.cell? ⟨w.heap.size, 1, none⟩ = some (.slice A ws.length cap) ∧ Below w.heap.size w wr ∧ w.heap.size < wr.heap.size) (fun i _ => cs.length - (intOf i).toNat)
      case atStart => exact ⟨0, Nat.zero_le _, rfl, rfl, k10, k11, HB1.out, hz1_0⟩
      case round =>
        clear k10 k11 HB1 HK1 h8i
        obtain ⟨k, hk, rfl, hall, b0, b1, hb, hz⟩ := hrel
        have HB0 := Lib.hid hb
        have hk0 : (0 : Int) ≤ (k : Int) := by omega
        by_cases hlk : k < cs.length
        · have hk1 : (k : Int) < (cs.length : Int) := by omega
          obtain ⟨c, hx⟩ : ∃ c, cs[k]? = some c := ⟨_, List.getElem?_eq_getElem hlk⟩
          obtain ⟨b, o, rfl, hB, c0, c1⟩ := (HC.out.later hb) k c hx
          have HALL : Hid ((cs.take (k + 1)).all (cutOk n e) = cutOk n e c) := by show _ = _; rw [cutOk_take hx, hall]; rfl
          have HNO : Hid (cutOk n e c = false → cs.all (cutOk n e) = false) := fun h => cutOk_false hx h
          clear hx hall hb
          cases hw : inB c.2 0 81
          · have HW := Lib.hid hw
            have HF : Hid (cs.all (cutOk n e) = false) := HNO.out (by unfold cutOk; rw [hw]; simp)
            clear hw HALL HNO
            go_wp2_with fail
            refine (weightOk_any c.2 _).mono ?_; rintro e2 w2 ⟨rfl, rfl⟩; rw [HW.out]
            go_wp2_with fail
            go_ret
            exact ⟨ret_bool (by rw [HF.out]; rfl), by have := HB0.out; go_grown⟩
          · have HW := Lib.hid hw
            cases hp : plOk n c.1 && parts e c.1
            · have HP : Hid (partsEnds n ws e c.1 = false) := (HPE.out c.1).trans hp
              have HF : Hid (cs.all (cutOk n e) = false) := HNO.out (by unfold cutOk; rw [← Bool.and_assoc, hp]; rfl)
              clear hp hw HALL HNO
              go_wp2_with fail
              refine (weightOk_any c.2 _).mono ?_; rintro e2 w2 ⟨rfl, rfl⟩; rw [HW.out]
              go_wp2_with fail
              refine (PartsEnds_any _ _ _ _ _ _ _ (HR.out.later (by have := HB0.out; go_grown))).mono ?_; rintro e w1 ⟨rfl, hb1⟩
              rw [HP.out]
              obtain ⟨hc1, hf1⟩ := bcell hb1
              have hz1_0 : w.heap.size < w1.heap.size := by have hq := hb1.size; (try simp at hq); omega
              have HK1 := Lib.hid hb1
              have HB1 := Lib.hid (bstep (B := w.heap.size) (W := w) (by (try have hp := HB0.out); go_grown) (by go_size) hb1); clear hb1
              go_wp2_with fail
              go_ret
              exact ⟨ret_bool (by rw [HF.out]; rfl), HB1.out⟩
            · have HP : Hid (partsEnds n ws e c.1 = true) := (HPE.out c.1).trans hp
              have HALL2 : Hid ((cs.take (k + 1)).all (cutOk n e) = true) := by show _ = _; rw [HALL.out]; unfold cutOk; rw [← Bool.and_assoc, hp, hw]; rfl
              clear hp hw HALL HNO
              go_wp2_with fail
              refine (weightOk_any c.2 _).mono ?_; rintro e2 w2 ⟨rfl, rfl⟩; rw [HW.out]
              go_wp2_with fail
              refine (PartsEnds_any _ _ _ _ _ _ _ (HR.out.later (by have := HB0.out; go_grown))).mono ?_; rintro e w1 ⟨rfl, hb1⟩
              rw [HP.out]
              obtain ⟨hc1, hf1⟩ := bcell hb1
              have hz1_0 : w.heap.size < w1.heap.size := by have hq := hb1.size; (try simp at hq); omega
              have HK1 := Lib.hid hb1
              have HB1 := Lib.hid (bstep (B := w.heap.size) (W := w) (by (try have hp := HB0.out); go_grown) (by go_size) hb1); clear hb1
              have k10 : w1.cell? ⟨w.heap.size, 0, none⟩ = some (.int .i64 n) := by go_simp
              have k11 : w1.cell? ⟨w.heap.size, 1, none⟩ = some (.slice A ws.length cap) := by go_simp
              clear hc1 hf1
              go_wp2_with fail
              go_roundw
              case rel => exact ⟨k + 1, by omega, by go_num, HALL2.out, k10, k11, HB1.out, hz1_0⟩
              case measure => (simp [intOf]) <;> omega
        · obtain rfl : k = cs.length := by omega
          rw [List.take_length] at hall
          have HAT := Lib.hid hall
          have HCO : Hid (∀ c, c ∈ cs → 0 ≤ c.1 ∧ c.1 < 64 ∧ 0 ≤ c.2 ∧ c.2 ≤ 81) := fun c hc => by
            have h9 := List.all_eq_true.1 hall c hc
            unfold cutOk at h9
            rw [Bool.and_eq_true, Bool.and_eq_true] at h9
            have h8 := plOk_lt hn6 h9.1
            have h7 := h9.2.2
            unfold inB at h7
            simp at h7
            omega
          clear hall hb HPE
          go_wp2_with fail
          go_loopw [42] (fun i wr => ∃ j : Nat, j ≤ ws.length ∧ i = .int .i64 j ∧ loadsTo ws cs j = true ∧ Below w.heap.size w wr ∧ w.heap.size < wr.heap.size) (fun i _ => ws.length - (intOf i).toNat)
          case atStart => exact ⟨0, Nat.zero_le _, rfl, rfl, HB0.out, hz⟩
          case round =>
            clear b0 b1 HB0 hz
            obtain ⟨j, hj, rfl, hlo, hb, hz⟩ := hrel
            have HB0 := Lib.hid hb
            have HLO := Lib.hid hlo
            have hj0 : (0 : Int) ≤ (j : Int) := by omega
            by_cases hlj : j < ws.length
            · have hj1 : (j : Int) < (ws.length : Int) := by omega
              obtain ⟨x, hx⟩ : ∃ x, ws[j]? = some x := ⟨_, List.getElem?_eq_getElem hlj⟩
              have hxa := HS.out.at_ hx
              obtain ⟨b, o, rfl, hB, c0, c1, c2⟩ := HR.out.below hb j x hx
              have HLA : Hid (loadsTo ws cs (j + 1) = decide (wload ws j cs ≤ x.c)) := by show _ = _; rw [loadsTo_at hx, hlo, Bool.true_and]
              have HWO := Lib.hid (fun W h => weightOn_any Ac cc cs ws j x hx (by omega) (by omega) (by omega) (by omega) HCO.out h8 W h)
              have HCC := Lib.hid (HC.out.later hb)
              obtain ⟨u, hu⟩ : ∃ u, wload ws j cs = u := ⟨_, rfl⟩
              have HU := Lib.hid hu
              rw [hu] at HLA
              clear hu hb hx hxa hlo
              by_cases hle : u ≤ x.c
              · have hgt : ¬ x.c < u := by omega
                have HL1 : Hid (loadsTo ws cs (j + 1) = true) := by show _ = _; rw [HLA.out, decide_eq_true hle]
                go_wp2_with fail
                refine wp_region_held_drew (S := (fun w' => w'.cell? ⟨wr.heap.size, 0, none⟩ = some (.int .i64 x.a) ∧ w'.cell? ⟨wr.heap.size, 1, none⟩ = some (.int .i64 x.b) ∧ w'.cell? ⟨wr.heap.size, 2, none⟩ = some (.int .i64 x.c))) (by kernel_rfl) ?_ (fun hHeld => ?_)
                · exact ⟨by go_simp, by go_simp, by go_simp⟩
                refine wpAnyH_take (i := 0) (v := ?_) rfl (by kernel_rfl) (by kernel_rfl) (by kernel_rfl) (fun _ _ _ h => h) (Or.inl ⟨by rfl, ?_⟩) (by assumption) ?_
                rotate_left
                · (intro w hSw; (try dsimp only at hSw); (try simp only [List.getElem_toArray, List.getElem_cons_succ, List.getElem_cons_zero]); first | (go_simp; done) | (go_simp; with_reducible rfl))
                try simp only [Act.put, List.getElem_toArray, List.getElem_cons_succ, List.getElem_cons_zero, List.setIfInBounds_toArray, List.set_cons_zero, List.set_cons_succ]
                refine wpAnyH_take (i := 1) (v := ?_) rfl (by kernel_rfl) (by kernel_rfl) (by kernel_rfl) (fun _ _ _ h => h) (Or.inl ⟨by rfl, ?_⟩) (by assumption) ?_
                rotate_left
                · (intro w hSw; (try dsimp only at hSw); (try simp only [List.getElem_toArray, List.getElem_cons_succ, List.getElem_cons_zero]); first | (go_simp; done) | (go_simp; with_reducible rfl))
                try simp only [Act.put, List.getElem_toArray, List.getElem_cons_succ, List.getElem_cons_zero, List.setIfInBounds_toArray, List.set_cons_zero, List.set_cons_succ]
                refine wpAnyH_take (i := 3) (v := ?_) rfl (by kernel_rfl) (by kernel_rfl) (by kernel_rfl) (fun _ _ _ h => h) (Or.inl ⟨by rfl, ?_⟩) (by assumption) ?_
                rotate_left
                · (intro w hSw; (try dsimp only at hSw); (try simp only [List.getElem_toArray, List.getElem_cons_succ, List.getElem_cons_zero]); first | (go_simp; done) | (go_simp; with_reducible rfl))
                try simp only [Act.put, List.getElem_toArray, List.getElem_cons_succ, List.getElem_cons_zero, List.setIfInBounds_toArray, List.set_cons_zero, List.set_cons_succ]
                refine wpAnyH_take (i := 4) (v := ?_) rfl (by kernel_rfl) (by kernel_rfl) (by kernel_rfl) (fun _ _ _ h => h) (Or.inl ⟨by rfl, ?_⟩) (by assumption) ?_
                rotate_left
                · (intro w hSw; (try dsimp only at hSw); (try simp only [List.getElem_toArray, List.getElem_cons_succ, List.getElem_cons_zero]); first | (go_simp; done) | (go_simp; with_reducible rfl))
                try simp only [Act.put, List.getElem_toArray, List.getElem_cons_succ, List.getElem_cons_zero, List.setIfInBounds_toArray, List.set_cons_zero, List.set_cons_succ]
                refine wpAnyH_ready (rs := [2]) (by kernel_rfl) (by simp) ?_
                refine AllReadyH.cons rfl (fun K hK => ?_) AllReadyH.nil
                try simp only [List.getElem_toArray, List.getElem_cons_succ, List.getElem_cons_zero]
                go_simp
                go_at_call 51; refine (HWO.out _ (HCC.out.later (by go_grown))).mono ?_; rintro e3 w3 ⟨rfl, hb3⟩; rw [HU.out]; have gg3 := und hb3; have g3 : Below wr.heap.size wr w3 := bstep (by go_grown) (by go_size) gg3; have k3 := (⟨(gg3.cell (p := ⟨wr.heap.size, 0, none⟩) (by go_size)).trans hHeld.1, (gg3.cell (p := ⟨wr.heap.size, 1, none⟩) (by go_size)).trans hHeld.2.1, (gg3.cell (p := ⟨wr.heap.size, 2, none⟩) (by go_size)).trans hHeld.2.2⟩ : _ ∧ _ ∧ _)
                refine hK.out _ _ ?_ (fun hHeld => ?_)
                · exact k3
                clear hK K
                try simp only [Act.put, List.getElem_toArray, List.getElem_cons_succ, List.getElem_cons_zero, List.setIfInBounds_toArray, List.set_cons_zero, List.set_cons_succ]
                refine wpAnyH_take (i := 5) (v := ?_) rfl (by kernel_rfl) (by kernel_rfl) (by kernel_rfl) (fun _ _ _ h => h) (Or.inl ⟨by rfl, ?_⟩) (by assumption) ?_
                rotate_left
                · (intro w hSw; (try dsimp only at hSw); (try simp only [List.getElem_toArray, List.getElem_cons_succ, List.getElem_cons_zero]); first | (go_simp; done) | (go_simp; with_reducible rfl))
                try simp only [Act.put, List.getElem_toArray, List.getElem_cons_succ, List.getElem_cons_zero, List.setIfInBounds_toArray, List.set_cons_zero, List.set_cons_succ]
                refine wpAnyH_done (by kernel_rfl) ?_ _
                have HB3 := Lib.hid (bstep (B := w.heap.size) (W := w) HB0.out (Nat.le_of_lt hz) g3)
                have hz3 := Nat.lt_of_lt_of_le hz g3.size
                clear g3 gg3 hb3
                go_wp2_with fail
                go_roundw
                case rel => exact ⟨j + 1, by omega, by go_num, HL1.out, HB3.out, hz3⟩
                case measure => (simp [intOf]) <;> omega
              · have hgt : x.c < u := by omega
                have HL1 : Hid (loadsTo ws cs ws.length = false) := by
                  show _ = _
                  have := loadsTo_false (k := j + 1) (by rw [HLA.out]; exact decide_eq_false hle) (ws.length - (j + 1))
                  rw [show j + 1 + (ws.length - (j + 1)) = ws.length from by omega] at this
                  exact this
                go_wp2_with fail
                refine wp_region_held_drew (S := (fun w' => w'.cell? ⟨wr.heap.size, 0, none⟩ = some (.int .i64 x.a) ∧ w'.cell? ⟨wr.heap.size, 1, none⟩ = some (.int .i64 x.b) ∧ w'.cell? ⟨wr.heap.size, 2, none⟩ = some (.int .i64 x.c))) (by kernel_rfl) ?_ (fun hHeld => ?_)
                · exact ⟨by go_simp, by go_simp, by go_simp⟩
                refine wpAnyH_take (i := 0) (v := ?_) rfl (by kernel_rfl) (by kernel_rfl) (by kernel_rfl) (fun _ _ _ h => h) (Or.inl ⟨by rfl, ?_⟩) (by assumption) ?_
                rotate_left
                · (intro w hSw; (try dsimp only at hSw); (try simp only [List.getElem_toArray, List.getElem_cons_succ, List.getElem_cons_zero]); first | (go_simp; done) | (go_simp; with_reducible rfl))
                try simp only [Act.put, List.getElem_toArray, List.getElem_cons_succ, List.getElem_cons_zero, List.setIfInBounds_toArray, List.set_cons_zero, List.set_cons_succ]
                refine wpAnyH_take (i := 1) (v := ?_) rfl (by kernel_rfl) (by kernel_rfl) (by kernel_rfl) (fun _ _ _ h => h) (Or.inl ⟨by rfl, ?_⟩) (by assumption) ?_
                rotate_left
                · (intro w hSw; (try dsimp only at hSw); (try simp only [List.getElem_toArray, List.getElem_cons_succ, List.getElem_cons_zero]); first | (go_simp; done) | (go_simp; with_reducible rfl))
                try simp only [Act.put, List.getElem_toArray, List.getElem_cons_succ, List.getElem_cons_zero, List.setIfInBounds_toArray, List.set_cons_zero, List.set_cons_succ]
                refine wpAnyH_take (i := 3) (v := ?_) rfl (by kernel_rfl) (by kernel_rfl) (by kernel_rfl) (fun _ _ _ h => h) (Or.inl ⟨by rfl, ?_⟩) (by assumption) ?_
                rotate_left
                · (intro w hSw; (try dsimp only at hSw); (try simp only [List.getElem_toArray, List.getElem_cons_succ, List.getElem_cons_zero]); first | (go_simp; done) | (go_simp; with_reducible rfl))
                try simp only [Act.put, List.getElem_toArray, List.getElem_cons_succ, List.getElem_cons_zero, List.setIfInBounds_toArray, List.set_cons_zero, List.set_cons_succ]
                refine wpAnyH_take (i := 4) (v := ?_) rfl (by kernel_rfl) (by kernel_rfl) (by kernel_rfl) (fun _ _ _ h => h) (Or.inl ⟨by rfl, ?_⟩) (by assumption) ?_
                rotate_left
                · (intro w hSw; (try dsimp only at hSw); (try simp only [List.getElem_toArray, List.getElem_cons_succ, List.getElem_cons_zero]); first | (go_simp; done) | (go_simp; with_reducible rfl))
                try simp only [Act.put, List.getElem_toArray, List.getElem_cons_succ, List.getElem_cons_zero, List.setIfInBounds_toArray, List.set_cons_zero, List.set_cons_succ]
                refine wpAnyH_ready (rs := [2]) (by kernel_rfl) (by simp) ?_
                refine AllReadyH.cons rfl (fun K hK => ?_) AllReadyH.nil
                try simp only [List.getElem_toArray, List.getElem_cons_succ, List.getElem_cons_zero]
                go_simp
                go_at_call 51; refine (HWO.out _ (HCC.out.later (by go_grown))).mono ?_; rintro e3 w3 ⟨rfl, hb3⟩; rw [HU.out]; have gg3 := und hb3; have g3 : Below wr.heap.size wr w3 := bstep (by go_grown) (by go_size) gg3; have k3 := (⟨(gg3.cell (p := ⟨wr.heap.size, 0, none⟩) (by go_size)).trans hHeld.1, (gg3.cell (p := ⟨wr.heap.size, 1, none⟩) (by go_size)).trans hHeld.2.1, (gg3.cell (p := ⟨wr.heap.size, 2, none⟩) (by go_size)).trans hHeld.2.2⟩ : _ ∧ _ ∧ _)
                refine hK.out _ _ ?_ (fun hHeld => ?_)
                · exact k3
                clear hK K
                try simp only [Act.put, List.getElem_toArray, List.getElem_cons_succ, List.getElem_cons_zero, List.setIfInBounds_toArray, List.set_cons_zero, List.set_cons_succ]
                refine wpAnyH_take (i := 5) (v := ?_) rfl (by kernel_rfl) (by kernel_rfl) (by kernel_rfl) (fun _ _ _ h => h) (Or.inl ⟨by rfl, ?_⟩) (by assumption) ?_
                rotate_left
                · (intro w hSw; (try dsimp only at hSw); (try simp only [List.getElem_toArray, List.getElem_cons_succ, List.getElem_cons_zero]); first | (go_simp; done) | (go_simp; with_reducible rfl))
                try simp only [Act.put, List.getElem_toArray, List.getElem_cons_succ, List.getElem_cons_zero, List.setIfInBounds_toArray, List.set_cons_zero, List.set_cons_succ]
                refine wpAnyH_done (by kernel_rfl) ?_ _
                have HB3 := Lib.hid (bstep (B := w.heap.size) (W := w) HB0.out (Nat.le_of_lt hz) g3)
                clear g3 gg3 hb3
                go_wp2_with fail
                go_ret
                exact ⟨ret_bool (by rw [HL1.out, HAT.out]; rfl), HB3.out⟩
            · obtain rfl : j = ws.length := by omega
              clear hlo hb
              go_wp2_with fail
              go_ret
              exact ⟨ret_bool (by rw [HLO.out, HAT.out]; rfl), HB0.out⟩
    · have hf : packsOk n ws e cs = false := by unfold packsOk; rw [decide_eq_false h8]; simp
      rw [hf]
      have h8i : (8 : Int) < (cs.length : Int) := by omega
      clear h1 hf hno hpe
      go_enter Try.func18, Try.ntmps18
      go_wp2_with fail
      refine (endsOk_any _ _ _ _ _ _ (HR.out.later (by go_grown))).mono ?_; rintro e w1 ⟨rfl, hb1⟩
      rw [H1.out]
      obtain ⟨hc1, hf1⟩ := bcell hb1
      have hz1_0 : w.heap.size < w1.heap.size := by have hq := hb1.size; (try simp at hq); omega
      have HK1 := Lib.hid hb1
      have HB1 := Lib.hid (bstep (B := w.heap.size) (W := w) (by (try have hp := HB0.out); go_grown) (by go_size) hb1); clear hb1
      go_wp2_with fail
      go_ret
      exact ⟨rfl, HB1.out⟩
set_option maxHeartbeats 4000000 in
theorem PackSum_any (n e : Int) (A : Option Addr) (cap : Nat) (ws : List Wy) (Ac : Option Addr) (cc : Nat) (cs : List (Int × Int)) (w : World) (hr : RW w w.heap.size A ws) (hc : RC w w.heap.size Ac cs) :
    Calls Try.prog 26 #[.agg #[.int .i64 n, .slice A ws.length cap], .int .i64 e, .slice Ac cs.length cc] w fun en w' => en = .returned (.int .i64 (packSum n ws e cs)) ∧ Below w.heap.size w w' := by
  have HR := Lib.hid hr
  have HC := Lib.hid hc
  clear hr hc
  cases h1 : packsOk n ws e cs
  · have H1 := Lib.hid h1
    rw [packSum_no h1]
    clear h1
    go_enter Try.func26, Try.ntmps26
    go_wp2_with fail
    refine (PacksOk_any _ _ _ _ _ _ _ _ _ (HR.out.later (by go_grown)) (HC.out.later (by go_grown))).mono ?_; rintro e w1 ⟨rfl, hb1⟩
    rw [H1.out]
    obtain ⟨hc1, hf1⟩ := bcell hb1
    have hz1_0 : w.heap.size < w1.heap.size := by have hq := hb1.size; (try simp at hq); omega
    have HK1 := Lib.hid hb1
    have HB1 := Lib.hid (bstep (B := w.heap.size) (W := w) (by (try have hp := HB0.out); go_grown) (by go_size) hb1); clear hb1
    go_wp2_with fail
    go_ret
    exact ⟨rfl, HB1.out⟩
  · have H1 := Lib.hid h1
    rw [packSum_is h1]
    obtain ⟨-, -, h8, -, hpk⟩ := packsOk_t h1
    have HCO : Hid (∀ c, c ∈ cs → 0 ≤ c.2 ∧ c.2 ≤ 81) := fun c hc => (hpk.part c hc).2
    clear h1 hpk
    go_enter Try.func26, Try.ntmps26
    go_wp2_with fail
    refine (PacksOk_any _ _ _ _ _ _ _ _ _ (HR.out.later (by go_grown)) (HC.out.later (by go_grown))).mono ?_; rintro e w1 ⟨rfl, hb1⟩
    rw [H1.out]
    obtain ⟨hc1, hf1⟩ := bcell hb1
    have hz1_0 : w.heap.size < w1.heap.size := by have hq := hb1.size; (try simp at hq); omega
    have HK1 := Lib.hid hb1
    have HB1 := Lib.hid (bstep (B := w.heap.size) (W := w) (by (try have hp := HB0.out); go_grown) (by go_size) hb1); clear hb1
    clear hc1 hf1
    go_wp2_with fail
    go_loopw [7, 17] (fun s i wr => ∃ k : Nat, k ≤ cs.length ∧ s = .int .i64 (wsum (cs.take k)) ∧ i = .int .i64 k ∧ Below w.heap.size w wr) (fun _ i _ => cs.length - (intOf i).toNat)
    case atStart => exact ⟨0, Nat.zero_le _, rfl, rfl, HB1.out⟩
    case round =>
      clear HB1 HK1
      obtain ⟨k, hk, rfl, rfl, hb⟩ := hrel
      have HB0 := Lib.hid hb
      have hk0 : (0 : Int) ≤ (k : Int) := by omega
      have hsb := wsum_bd (cs := cs.take k) fun d hd => HCO.out d (List.mem_of_mem_take hd)
      have hln : (cs.take k).length ≤ 8 := by rw [List.length_take]; omega
      by_cases hlk : k < cs.length
      · have hk1 : (k : Int) < (cs.length : Int) := by omega
        obtain ⟨c, hx⟩ : ∃ c, cs[k]? = some c := ⟨_, List.getElem?_eq_getElem hlk⟩
        have hq := HCO.out c (List.mem_of_getElem? hx)
        obtain ⟨b, o, rfl, hB, c0, c1⟩ := (HC.out.later hb) k c hx
        have HS1 := Lib.hid (wsum_take hx)
        obtain ⟨u, hu⟩ : ∃ u, wsum (cs.take k) = u := ⟨_, rfl⟩
        rw [hu] at hsb HS1 ⊢
        have wk : IntKind.i64.wrap (u + c.2) = u + c.2 := IntWalk.i64_in _ ⟨by omega, by omega⟩
        have wk2 : wrap64 (u + c.2) = u + c.2 := IntWalk.wrap64_in _ ⟨by clear wk; omega, by clear wk; omega⟩
        clear hx hb hu hsb hln hq
        go_wp2_with fail
        clear wk wk2
        go_roundw
        case rel => exact ⟨k + 1, by omega, by rw [HS1.out], by go_num, HB0.out.alloc HB0.out.size _⟩
        case measure => (simp [intOf]) <;> omega
      · obtain rfl : k = cs.length := by omega
        rw [List.take_length]
        obtain ⟨u, hu⟩ : ∃ u, wsum cs = u := ⟨_, rfl⟩
        rw [hu]
        have HU : Hid (u = wsum cs) := hu.symm
        clear hsb hln hu
        go_wp2_with fail
        go_ret
        exact ⟨ret_int HU.out, HB0.out⟩
/-- a row of distances, of m numbers -/
def RowD (w : World) (R m : Nat) (d : Nat → Int) : Prop := ∀ k, k < m → w.cell? ⟨R, k, none⟩ = some (.int .i64 (d k))
set_option maxHeartbeats 1000000 in
theorem nextLevel_any (m R C : Nat) (d : Nat → Int) (now D : Int) (w : World) (h : RowD w R m d) (hm6 : m ≤ 6) :
    Calls Try.prog 54 #[.slice (some ⟨R, 0, none⟩) m C, .int .i64 now, .int .i64 D] w fun en w' => en = .returned (.int .i64 (nxtD d now D m)) ∧ w = w' := by
  have H := Lib.hid h
  clear h
  go_enter Try.func54, Try.ntmps54
  go_wp2_with fail
  go_loopw [7, 13] (fun x i wr => ∃ k : Nat, k ≤ m ∧ x = .int .i64 (nxtD d now D k) ∧ i = .int .i64 k ∧ w = wr) (fun _ i _ => m - (intOf i).toNat)
  case atStart => exact ⟨0, Nat.zero_le _, rfl, rfl, rfl⟩
  case round =>
    obtain ⟨k, hk, rfl, rfl, rfl⟩ := hrel
    have hk0 : (0 : Int) ≤ (k : Int) := by omega
    by_cases hlk : k < m
    · have hk1 : (k : Int) < (m : Int) := by omega
      have hxs := nxtD_step d now D k
      have rk := H.out k hlk
      obtain ⟨E, hE⟩ : ∃ E, d k = E := ⟨_, rfl⟩
      obtain ⟨x, hx⟩ : ∃ x, nxtD d now D k = x := ⟨_, rfl⟩
      rw [hE] at rk hxs
      rw [hx] at hxs ⊢
      clear hE hx
      by_cases hE1 : now < E
      · by_cases hE2 : E < x
        · rw [if_pos hE1, show min x E = E from by omega] at hxs
          have HXS := Lib.hid hxs
          clear hxs
          go_wp2_with fail
          go_roundw
          case rel => exact ⟨k + 1, by omega, by rw [HXS.out], by go_num, by first | rfl | trivial⟩
          case measure => (simp [intOf]) <;> omega
        · rw [if_pos hE1, show min x E = x from by omega] at hxs
          have HXS := Lib.hid hxs
          clear hxs
          go_wp2_with fail
          go_roundw
          case rel => exact ⟨k + 1, by omega, by rw [HXS.out], by go_num, by first | rfl | trivial⟩
          case measure => (simp [intOf]) <;> omega
      · rw [if_neg hE1] at hxs
        have HXS := Lib.hid hxs
        clear hxs
        go_wp2_with fail
        go_roundw
        case rel => exact ⟨k + 1, by omega, by rw [HXS.out], by go_num, by first | rfl | trivial⟩
        case measure => (simp [intOf]) <;> omega
    · obtain rfl : k = m := by omega
      go_wp2_with fail
      go_ret
      exact ⟨rfl, rfl⟩
set_option maxHeartbeats 1000000 in
theorem placesWithin_any (m R C : Nat) (d : Nat → Int) (now : Int) (w : World) (h : RowD w R m d) (hm6 : m ≤ 6) :
    Calls Try.prog 55 #[.slice (some ⟨R, 0, none⟩) m C, .int .i64 now] w fun en w' => en = .returned (.int .i64 (plcT d now m)) ∧ w = w' := by
  have H := Lib.hid h
  clear h
  go_enter Try.func55, Try.ntmps55
  go_wp2_with fail
  go_loopw [5, 10] (fun p i wr => ∃ k : Nat, k ≤ m ∧ p = .int .i64 (plcT d now k) ∧ i = .int .i64 k ∧ w = wr) (fun _ i _ => m - (intOf i).toNat)
  case atStart => exact ⟨0, Nat.zero_le _, rfl, rfl, rfl⟩
  case round =>
    obtain ⟨k, hk, rfl, rfl, rfl⟩ := hrel
    have hk0 : (0 : Int) ≤ (k : Int) := by omega
    have hpb := plcT_bd d now k
    by_cases hlk : k < m
    · have hk1 : (k : Int) < (m : Int) := by omega
      have hps := plcT_step d now k
      have rk := H.out k hlk
      obtain ⟨E, hE⟩ : ∃ E, d k = E := ⟨_, rfl⟩
      obtain ⟨p, hp⟩ : ∃ p, plcT d now k = p := ⟨_, rfl⟩
      rw [hE] at rk hps
      rw [hp] at hpb hps ⊢
      clear hE hp
      by_cases hE0 : E < 0
      · rw [if_neg (by omega)] at hps
        have HPS := Lib.hid hps
        have hE1 : ¬ 0 ≤ E := by omega
        clear hps hpb
        go_wp2_with fail
        go_roundw
        case rel => exact ⟨k + 1, by omega, by rw [HPS.out], by go_num, by first | rfl | trivial⟩
        case measure => (simp [intOf]) <;> omega
      · by_cases hle : E ≤ now
        · rw [if_pos (by omega)] at hps
          have hpk := pow_bd (k : Int) 5 (by omega)
          rw [Int.toNat_natCast] at hpk
          have hp64 : p < 64 := by
            have h9 := Nat.pow_le_pow_right (n := 2) (by omega) (show k ≤ 6 by omega)
            have e9 : ((2 : Int) ^ k) = ((2 ^ k : Nat) : Int) := by simp
            omega
          have hor : bits .or .i64 p (2 ^ k) = ior p (2 ^ k) := bits_or _ _ hpb.1 (by omega) (by omega) (by omega)
          have hwk : IntKind.i64.wrap (2 ^ k) = 2 ^ k := IntWalk.i64_in _ ⟨by omega, by omega⟩
          have hwk2 : wrap64 (2 ^ k) = 2 ^ k := IntWalk.wrap64_in _ ⟨by clear hwk; omega, by clear hwk; omega⟩
          have HPS := Lib.hid hps
          have hE1 : 0 ≤ E := by clear hwk hwk2 hor; omega
          have hk60 : (k : Int) ≤ 60 := by clear hwk hwk2 hor; omega
          clear hps hpb hpk
          go_wp2_with fail
          clear hwk hwk2 hor
          go_roundw
          case rel => exact ⟨k + 1, by omega, by rw [HPS.out], by go_num, by first | rfl | trivial⟩
          case measure => (simp [intOf]) <;> omega
        · rw [if_neg (by omega)] at hps
          have HPS := Lib.hid hps
          have hE1 : 0 ≤ E := by omega
          clear hps hpb
          go_wp2_with fail
          go_roundw
          case rel => exact ⟨k + 1, by omega, by rw [HPS.out], by go_num, by first | rfl | trivial⟩
          case measure => (simp [intOf]) <;> omega
    · obtain rfl : k = m := by omega
      go_wp2_with fail
      go_ret
      exact ⟨rfl, rfl⟩
set_option maxRecDepth 100000 in
set_option maxHeartbeats 8000000 in
theorem PathCuts_any (n a b : Int) (A : Option Addr) (cap : Nat) (ws : List Wy) (w : World) (hr : RW w w.heap.size A ws) :
    Calls Try.prog 22 #[.agg #[.int .i64 n, .slice A ws.length cap], .int .i64 a, .int .i64 b] w (NewCuts (pathCuts n ws a b) w) := by
  have HR := Lib.hid hr
  clear hr
  cases hno : netOk n ws
  · have HNO := Lib.hid hno
    rw [pathCuts_not (twoOk_no0 hno)]
    clear hno
    go_enter Try.func22, Try.ntmps22
    go_wp2_with fail
    refine (NetOk_any _ _ _ _ _ (HR.out.later (by go_grown))).mono ?_; rintro e w1 ⟨rfl, hb1⟩
    rw [HNO.out]
    obtain ⟨hc1, hf1⟩ := bcell hb1
    have hz1_0 : w.heap.size < w1.heap.size := by have hq := hb1.size; (try simp at hq); omega
    have HK1 := Lib.hid hb1
    have HB1 := Lib.hid (bstep (B := w.heap.size) (W := w) (by (try have hp := HB0.out); go_grown) (by go_size) hb1); clear hb1
    go_wp2_with fail
    refine bodyPost_ret (v := .tuple #[.slice none 0 0, .bool false]) (by simp [results, Try.results22, go_sem]) rfl ?_
    exact ⟨_, _, rfl, HB1.out⟩
  · have HNO := Lib.hid hno
    have hni := netOk_t hno
    have hn6 := hni.hi
    have hn2 := hni.lo
    cases ha : hasPl n a
    · have HA := Lib.hid ha
      rw [pathCuts_not (twoOk_no1 ha)]
      clear hno hni ha
      go_enter Try.func22, Try.ntmps22
      go_wp2_with fail
      refine (NetOk_any _ _ _ _ _ (HR.out.later (by go_grown))).mono ?_; rintro e w1 ⟨rfl, hb1⟩
      rw [HNO.out]
      obtain ⟨hc1, hf1⟩ := bcell hb1
      have hz1_0 : w.heap.size < w1.heap.size := by have hq := hb1.size; (try simp at hq); omega
      have HK1 := Lib.hid hb1
      have HB1 := Lib.hid (bstep (B := w.heap.size) (W := w) (by (try have hp := HB0.out); go_grown) (by go_size) hb1); clear hb1
      go_wp2_with fail
      refine (hasPlace_any _ _ _ _).mono ?_; rintro e w2 ⟨rfl, hb2⟩
      rw [HA.out]
      obtain ⟨hc2, hf2⟩ := bcell hb2
      have hz2_0 : w.heap.size < w2.heap.size := by have hq := hb2.size; (try simp at hq); omega
      have HK2 := Lib.hid hb2
      have HB2 := Lib.hid (bstep (B := w.heap.size) (W := w) (by have hp := HB1.out; go_grown) (by go_size) hb2); clear hb2
      go_wp2_with fail
      refine bodyPost_ret (v := .tuple #[.slice none 0 0, .bool false]) (by simp [results, Try.results22, go_sem]) rfl ?_
      exact ⟨_, _, rfl, HB2.out⟩
    · have HA := Lib.hid ha
      cases hb : hasPl n b
      · have HBP := Lib.hid hb
        rw [pathCuts_not (twoOk_no2 hb)]
        clear hno hni ha hb
        go_enter Try.func22, Try.ntmps22
        go_wp2_with fail
        refine (NetOk_any _ _ _ _ _ (HR.out.later (by go_grown))).mono ?_; rintro e w1 ⟨rfl, hb1⟩
        rw [HNO.out]
        obtain ⟨hc1, hf1⟩ := bcell hb1
        have hz1_0 : w.heap.size < w1.heap.size := by have hq := hb1.size; (try simp at hq); omega
        have HK1 := Lib.hid hb1
        have HB1 := Lib.hid (bstep (B := w.heap.size) (W := w) (by (try have hp := HB0.out); go_grown) (by go_size) hb1); clear hb1
        go_wp2_with fail
        refine (hasPlace_any _ _ _ _).mono ?_; rintro e w2 ⟨rfl, hb2⟩
        rw [HA.out]
        obtain ⟨hc2, hf2⟩ := bcell hb2
        have hz2_0 : w.heap.size < w2.heap.size := by have hq := hb2.size; (try simp at hq); omega
        have HK2 := Lib.hid hb2
        have HB2 := Lib.hid (bstep (B := w.heap.size) (W := w) (by have hp := HB1.out; go_grown) (by go_size) hb2); clear hb2
        go_wp2_with fail
        refine (hasPlace_any _ _ _ _).mono ?_; rintro e w3 ⟨rfl, hb3⟩
        rw [HBP.out]
        obtain ⟨hc3, hf3⟩ := bcell hb3
        have hz3_0 : w.heap.size < w3.heap.size := by have hq := hb3.size; (try simp at hq); omega
        have HK3 := Lib.hid hb3
        have HB3 := Lib.hid (bstep (B := w.heap.size) (W := w) (by have hp := HB2.out; go_grown) (by go_size) hb3); clear hb3
        go_wp2_with fail
        refine bodyPost_ret (v := .tuple #[.slice none 0 0, .bool false]) (by simp [results, Try.results22, go_sem]) rfl ?_
        exact ⟨_, _, rfl, HB3.out⟩
      · have HBP := Lib.hid hb
        by_cases hab : a = b
        · rw [pathCuts_not (twoOk_no3 hab)]
          subst hab
          clear hno hni ha hb
          go_enter Try.func22, Try.ntmps22
          go_wp2_with fail
          refine (NetOk_any _ _ _ _ _ (HR.out.later (by go_grown))).mono ?_; rintro e w1 ⟨rfl, hb1⟩
          rw [HNO.out]
          obtain ⟨hc1, hf1⟩ := bcell hb1
          have hz1_0 : w.heap.size < w1.heap.size := by have hq := hb1.size; (try simp at hq); omega
          have HK1 := Lib.hid hb1
          have HB1 := Lib.hid (bstep (B := w.heap.size) (W := w) (by (try have hp := HB0.out); go_grown) (by go_size) hb1); clear hb1
          go_wp2_with fail
          refine (hasPlace_any _ _ _ _).mono ?_; rintro e w2 ⟨rfl, hb2⟩
          rw [HA.out]
          obtain ⟨hc2, hf2⟩ := bcell hb2
          have hz2_0 : w.heap.size < w2.heap.size := by have hq := hb2.size; (try simp at hq); omega
          have HK2 := Lib.hid hb2
          have HB2 := Lib.hid (bstep (B := w.heap.size) (W := w) (by have hp := HB1.out; go_grown) (by go_size) hb2); clear hb2
          go_wp2_with fail
          refine (hasPlace_any _ _ _ _).mono ?_; rintro e w3 ⟨rfl, hb3⟩
          rw [HA.out]
          obtain ⟨hc3, hf3⟩ := bcell hb3
          have hz3_0 : w.heap.size < w3.heap.size := by have hq := hb3.size; (try simp at hq); omega
          have HK3 := Lib.hid hb3
          have HB3 := Lib.hid (bstep (B := w.heap.size) (W := w) (by have hp := HB2.out; go_grown) (by go_size) hb3); clear hb3
          go_wp2_with fail
          refine bodyPost_ret (v := .tuple #[.slice none 0 0, .bool false]) (by simp [results, Try.results22, go_sem]) rfl ?_
          exact ⟨_, _, rfl, HB3.out⟩
        · have hab1 : (a == b) = false := by simpa using hab
          have htw := twoOk_mk hno ha hb hab
          obtain ⟨-, m, ia, ib, rfl, rfl, rfl, hia, hib, hne⟩ := twoOk_t htw
          have HNI := Lib.hid hni
          have hm6 : m ≤ 6 := by omega
          have HTW := Lib.hid htw
          have HFN : Hid (∀ x y : Nat, x < m → y < m → -1 ≤ farF ws m x y ∧ farF ws m x y ≤ 1000) := fun x y hx hy => ⟨farF_ge hni m x y, farF_bd hni hx hy⟩
          have HNE := Lib.hid hne
          have HAB := Lib.hid hab1
          have ia0 : (0 : Int) ≤ (ia : Int) := by omega
          have ib0 : (0 : Int) ≤ (ib : Int) := by omega
          have iam : (ia : Int) < (m : Int) := by omega
          have ibm : (ib : Int) < (m : Int) := by omega
          clear hni ha hb hab htw hne hab1 hno
          go_enter Try.func22, Try.ntmps22
          go_wp2_with fail
          refine (NetOk_any _ _ _ _ _ (HR.out.later (by go_grown))).mono ?_; rintro e w1 ⟨rfl, hb1⟩
          rw [HNO.out]
          obtain ⟨hc1, hf1⟩ := bcell hb1
          have hz1_0 : w.heap.size < w1.heap.size := by have hq := hb1.size; (try simp at hq); omega
          have HK1 := Lib.hid hb1
          have HB1 := Lib.hid (bstep (B := w.heap.size) (W := w) (by (try have hp := HB0.out); go_grown) (by go_size) hb1); clear hb1
          go_wp2_with fail
          refine (hasPlace_any _ _ _ _).mono ?_; rintro e w2 ⟨rfl, hb2⟩
          rw [HA.out]
          obtain ⟨hc2, hf2⟩ := bcell hb2
          have hz2_0 : w.heap.size < w2.heap.size := by have hq := hb2.size; (try simp at hq); omega
          have HK2 := Lib.hid hb2
          have HB2 := Lib.hid (bstep (B := w.heap.size) (W := w) (by have hp := HB1.out; go_grown) (by go_size) hb2); clear hb2
          go_wp2_with fail
          refine (hasPlace_any _ _ _ _).mono ?_; rintro e w3 ⟨rfl, hb3⟩
          rw [HBP.out]
          obtain ⟨hc3, hf3⟩ := bcell hb3
          have hz3_0 : w.heap.size < w3.heap.size := by have hq := hb3.size; (try simp at hq); omega
          have HK3 := Lib.hid hb3
          have HB3 := Lib.hid (bstep (B := w.heap.size) (W := w) (by have hp := HB2.out; go_grown) (by go_size) hb3); clear hb3
          have hab1 := HAB.out
          go_wp2_with fail
          clear hab1
          refine (FarTable_any m A cap ws _ (HR.out.later (by have := HB3.out; go_grown)) HNO.out).mono ?_; rintro en4 w4 ⟨T, hT, rfl, htab, hb4⟩
          have HB4 := Lib.hid (bstep (B := w.heap.size) (W := w) HB3.out (Nat.le_of_lt hz3_0) hb4)
          have hz4 : w.heap.size ≤ w4.heap.size := HB4.out.size
          have tp := htab.top ia hia
          have hrd : RowD w4 (T + 1 + ia) m (farF ws m ia) := fun k hk => (htab.row ia k hia hk).1
          have hRz : T + 1 + ia < w4.heap.size := Nat.lt_of_lt_of_le (htab.rlo ia hia).2 htab.his
          have hfb := HFN.out ia ib hia hib
          obtain ⟨D, hD⟩ : ∃ D, farF ws m ia ib = D := ⟨_, rfl⟩
          rw [hD] at hfb
          have HD := Lib.hid hD
          have rb := hrd ib hib
          rw [hD] at rb
          have HRD := Lib.hid hrd
          clear hb4 htab hT HB1 HB2 HB3 HK1 HK2 HK3 hD hc1 hc2 hc3 hf1 hf2 hf3 hrd
          by_cases hD0 : D < 0
          · go_wp2_with fail
            refine bodyPost_ret (v := .tuple #[.slice none 0 0, .bool false]) (by simp [results, Try.results22, go_sem]) rfl ?_
            rw [pathCuts_far HTW.out (by rw [HD.out]; exact hD0)]
            exact ⟨_, _, rfl, HB4.out⟩
          · have hcs := cuts_are HNI.out hia hib HNE.out (by rw [HD.out]; omega)
            have HPS := Lib.hid (pathCuts_some HTW.out (by rw [HD.out]; omega))
            simp only [HD.out] at hcs HPS
            have HLN := Lib.hid hcs.1
            obtain ⟨d, hd⟩ : ∃ d : Nat → Int, farF ws m ia = d := ⟨_, rfl⟩
            have HDB : d ib = D := by rw [← hd]; exact HD.out
            rw [hd] at HLN HPS HRD
            obtain ⟨RA, hRA⟩ : ∃ RA, T + 1 + ia = RA := ⟨_, rfl⟩
            rw [hRA] at HRD hRz tp rb
            clear hcs hd hRA
            obtain ⟨j1, hj1, hy0, hy1, hy2⟩ := info_parts infoCutC
            have HI : Hid (Try.prog.info? 38 = some j1 ∧ j1.zero = some (.agg #[.int .i64 0, .int .i64 0]) ∧ j1.size = 2 ∧ j1.bytes = 16) := ⟨hj1, hy0, hy1, hy2⟩
            clear hj1 hy0 hy1 hy2
            go_wp2_with fail
            go_loopw [9, 10] (fun v i wr => ∃ (Lp : List (Int × Int)) (now : Int) (f : Nat), i = .int .i64 now ∧ 0 ≤ now ∧ now ≤ D ∧ D - now ≤ f ∧ pcs d m D D.toNat 0 = Lp ++ pcs d m D f now ∧ Below w4.heap.size w4 wr ∧ wr.ownsRow w4.heap.size 38 2 v Lp.length (ctCells Lp)) (fun _ i _ => (D - intOf i).toNat)
            case atStart => exact ⟨[], 0, D.toNat, rfl, Int.le_refl _, by omega, by omega, rfl, Below.refl _ _, ⟨rfl, .inl ⟨rfl, rfl⟩⟩⟩
            case round =>
              obtain ⟨Lp, now, f, rfl, hn0, hnD, hfu, hpc, hb, hown⟩ := hrel
              have HOW := Lib.hid hown
              have HPC := Lib.hid hpc
              have hrd : RowD wr RA m d := fun k hk => (hb.cell (p := ⟨RA, k, none⟩) hRz).trans (HRD.out k hk)
              have HRR := Lib.hid hrd
              have rb1 : wr.cell? ⟨RA, ib, none⟩ = some (.int .i64 D) := (hrd ib hib).trans (by rw [HDB])
              have hbw : w4.heap.size ≤ wr.heap.size := hb.size
              have HBB := Lib.hid hb
              have HLP : Hid (Lp.length ≤ 6) := by
                show _ ≤ _
                have h9 := HLN.out
                rw [hpc, List.length_append] at h9
                omega
              clear hb hown hpc hrd rb tp
              by_cases hlt : now < D
              · obtain ⟨f', rfl⟩ : ∃ f', f = f' + 1 := ⟨f - 1, by omega⟩
                have hnx := nxtD_ok d now D hlt m
                have HPC2 : Hid (pcs d m D D.toNat 0 = (Lp ++ [(plcT d now m, nxtD d now D m - now)]) ++ pcs d m D f' (nxtD d now D m)) := by
                  show _ = _
                  rw [HPC.out, pcs_more hlt]; simp
                have HNL := Lib.hid (fun W h => nextLevel_any m RA m d now D W h hm6)
                have HPW := Lib.hid (fun W h => placesWithin_any m RA m d now W h hm6)
                obtain ⟨p, hp⟩ : ∃ p, plcT d now m = p := ⟨_, rfl⟩
                obtain ⟨x, hx⟩ : ∃ x, nxtD d now D m = x := ⟨_, rfl⟩
                have hx1 := hnx.1
                have hx2 := hnx.2.1
                simp only [hp, hx] at HPC2 HNL HPW
                rw [hx] at hx1 hx2
                have hlp := HLP.out
                clear hp hx hnx HPC
                have HWK : Hid (IntKind.i64.wrap (x - now) = x - now) := IntWalk.i64_in _ ⟨by omega, by omega⟩
                have HWK2 : Hid (wrap64 (x - now) = x - now) := IntWalk.wrap64_in _ ⟨by omega, by omega⟩
                go_wp2_with fail
                refine (HNL.out _ HRR.out).mono ?_; rintro e5 w5 ⟨rfl, rfl⟩
                go_wp2_with fail
                refine (HPW.out _ HRR.out).mono ?_; rintro e6 w6 ⟨rfl, rfl⟩
                have wk := HWK.out
                have wk2 := HWK2.out
                obtain ⟨hj1, hy0, hy1, hy2⟩ := HI.out
                go_wp2_with (at_builtin; refine wpList_append_lies _ rfl _ _ _ rfl w4.heap.size 38 j1 _ 2 16 Try.underlying32 hj1 hy0 hy1 hy2 rfl (by decide) _ Lp.length (ctCells Lp) rfl (World.ownsRow.alloc HOW.out _) ⟨wr.heap.size, 0, none⟩ 1 1 [.int .i64 p, .int .i64 (x - now)] rfl rfl (World.news_of_block (cs := #[.int .i64 p, .int .i64 (x - now)]) (t := 38) (fr := (0, 0)) (heap_alloc_new wr _)) (by simp [Value.oneCell']) (by omega) (by clear wk wk2; unfold maxLen; omega) (by clear wk wk2; omega) (by clear wk wk2; simp; omega) (wr.heap.size + 1) (by simp) ?_; intro gg cc w7 hown7 hgrow7 hat7 hlt7)
                clear wk wk2 hj1 hy0 hy1 hy2
                have HO7 : Hid (w7.ownsRow w4.heap.size 38 2 (.slice (some ⟨gg, 0, none⟩) (Lp.length + 1) cc) (Lp ++ [(p, x - now)]).length (ctCells (Lp ++ [(p, x - now)]))) := by
                  rw [ctCells_snoc, List.length_append]; exact hown7
                have HB7 : Hid (Below w4.heap.size w4 w7) := by
                  have h9 := HBB.out.alloc hbw (.cells #[.int .i64 p, .int .i64 (x - now)] 38)
                  have hvl := HOW.out.lt
                  exact ⟨hgrow7.os.trans h9.os, hgrow7.tape.trans h9.tape, hgrow7.output.trans h9.output, Nat.le_trans h9.size hgrow7.size, fun i hi => (hgrow7.block i (by simp; omega) (fun e => by have := (hvl i e.symm).1; omega)).trans (h9.block i hi)⟩
                clear hown7 hgrow7 hat7 hlt7
                go_wp2_with fail
                go_roundw
                case rel => exact ⟨Lp ++ [(p, x - now)], x, f', rfl, by omega, by omega, by omega, HPC2.out, HB7.out, HO7.out⟩
                case measure => (simp [intOf]) <;> omega
              · have hfin : pcs d m D D.toNat 0 = Lp := by rw [HPC.out, pcs_end hlt, List.append_nil]
                have HFIN := Lib.hid hfin
                have HB5 := Lib.hid (bstep (B := w.heap.size) (W := w) HB4.out hz4 HBB.out)
                rcases HOW.out.2 with ⟨rfl, h0⟩ | ⟨g9, c9, cur, rfl, _⟩
                · have HL0 : Hid (Lp = []) := List.length_eq_zero_iff.1 h0
                  go_wp2_with fail
                  refine bodyPost_ret (v := .tuple #[.slice none 0 0, .bool true]) (by simp [results, Try.results22, go_sem]) rfl ?_
                  rw [HPS.out, HFIN.out, HL0.out]
                  exact ⟨none, 0, wr.heap.size, wr.heap.size, rfl, ⟨fun j hj => by simp at hj, Nat.le_refl _⟩, by omega, HB5.out⟩
                · have HRF : Hid (RowF wr w4.heap.size wr.heap.size (some ⟨g9, 0, none⟩) (Lp.length * 2) (ctF Lp)) := rowF_of_cuts HOW.out
                  go_wp2_with fail
                  refine bodyPost_ret (v := .tuple #[.slice (some ⟨g9, 0, none⟩) Lp.length c9, .bool true]) (by simp [results, Try.results22, go_sem]) rfl ?_
                  rw [HPS.out, HFIN.out]
                  exact ⟨_, c9, w4.heap.size, wr.heap.size, rfl, HRF.out, by omega, HB5.out⟩
end Go.Proofs.Ytiioojjjpabaeaa
