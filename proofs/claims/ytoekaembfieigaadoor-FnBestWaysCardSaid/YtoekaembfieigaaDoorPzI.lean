/- The program's prizes: PrizesOk, prizesOf, setGain, GainOf, bestSet, BestGain, BestWays. -/
import Derived.Test.YtoekaembfieigaaDoorPzM
import Derived.Test.YtoekaembfieigaaDoorPzL
import Derived.Test.YtoekaembfieigaaDoorPzD
import Derived.Test.YtoekaembfieigaaDoorUpA
import Derived.Test.YtoekaembfieigaaDoorMC
import Derived.Test.YtoekaembfieigaaDoorMD
import Derived.Test.YtoekaembfieigaaDoorME
set_option linter.unusedSimpArgs false
set_option linter.unusedVariables false
attribute [local go_sem ↓] Go.wp_at_zero Go.wp_at_succ
namespace Go.Proofs.YtoekaembfieigaaDoor
open Go.ChangeShapes Go.WideShapes Go.ChangeAt Go.RowKit

theorem prizesOk_no0 {n : Int} {ws : List Wy} {pz : List Int} (h : netOk n ws = false) : prizesOk n ws pz = false := by unfold prizesOk; rw [h]; rfl
theorem prizesOk_no1 {n : Int} {ws : List Wy} {pz : List Int} (h : ¬ (pz.length : Int) = n) : prizesOk n ws pz = false := by unfold prizesOk; rw [decide_eq_false h]; simp
theorem prizesOk_no2 {n : Int} {ws : List Wy} {pz : List Int} (h : pz.all prizeIn = false) : prizesOk n ws pz = false := by unfold prizesOk; rw [h]; simp
set_option maxHeartbeats 2000000 in
theorem PrizesOk_any (n : Int) (A : Option Addr) (cap : Nat) (ws : List Wy) (Ar : Option Addr) (cr : Nat) (pz : List Int) (w : World) (hr : RW w w.heap.size A ws) (hi : RI w w.heap.size Ar pz) :
    Calls Tryd.prog 7 #[.agg #[.int .i64 n, .slice A ws.length cap], .slice Ar pz.length cr] w fun en w' => en = .returned (.bool (prizesOk n ws pz)) ∧ Below w.heap.size w w' := by
  have HR := Lib.hid hr
  have HRI := Lib.hid hi
  clear hr hi
  cases hno : netOk n ws
  · have HN := Lib.hid hno
    rw [prizesOk_no0 hno]
    clear hno
    go_enter Tryd.func7, Tryd.ntmps7
    go_wp2_with fail
    refine (NetOk_any _ _ _ _ _ (HR.out.later (by go_grown))).mono ?_; rintro e w1 ⟨rfl, hb1⟩
    rw [HN.out]
    obtain ⟨hc1, hf1⟩ := bcell hb1
    have hz1_0 : w.heap.size < w1.heap.size := by have hq := hb1.size; (try simp at hq); omega
    have HK1 := Lib.hid hb1
    have HB1 := Lib.hid (bstep (B := w.heap.size) (W := w) (by (try have hp := HB0.out); go_grown) (by go_size) hb1); clear hb1
    go_wp2_with fail
    go_ret
    exact ⟨rfl, HB1.out⟩
  · have HN := Lib.hid hno
    have hni := netOk_t hno
    have hn2 := hni.lo
    have hn6 := hni.hi
    by_cases h1 : (pz.length : Int) = n
    · obtain ⟨b, o, hAr, -, -⟩ := HRI.out.at_ (j := 0) (by omega)
      obtain ⟨m, hLm⟩ : ∃ m, pz.length = m := ⟨_, rfl⟩
      have HLM := Lib.hid hLm
      have HALY : Hid (pz.all prizeIn = true → prizesOk n ws pz = true) := fun h => prizesOk_iff.2 ⟨hno, h1, h⟩
      have HALN : Hid (pz.all prizeIn = false → prizesOk n ws pz = false) := prizesOk_no2
      rw [hLm] at h1 ⊢
      subst h1
      subst hAr
      obtain ⟨an, han⟩ : ∃ a, prizesOk (m : Int) ws pz = a := ⟨_, rfl⟩
      rw [han] at HALY HALN ⊢
      clear hno hni han hLm
      go_enter Tryd.func7, Tryd.ntmps7
      go_wp2_with fail
      refine (NetOk_any _ _ _ _ _ (HR.out.later (by go_grown))).mono ?_; rintro e w1 ⟨rfl, hb1⟩
      rw [HN.out]
      obtain ⟨hc1, hf1⟩ := bcell hb1
      have hz1_0 : w.heap.size < w1.heap.size := by have hq := hb1.size; (try simp at hq); omega
      have HK1 := Lib.hid hb1
      have HB1 := Lib.hid (bstep (B := w.heap.size) (W := w) (by (try have hp := HB0.out); go_grown) (by go_size) hb1); clear hb1
      have k10 : w1.cell? ⟨w.heap.size, 0, none⟩ = some (.int .i64 m) := by go_simp
      clear hc1 hf1
      go_wp2_with fail
      go_loopw [19] (fun i wr => ∃ k : Nat, k ≤ m ∧ i = .int .i64 k ∧ (pz.take k).all prizeIn = true ∧ wr = w1) (fun i _ => m - (intOf i).toNat)
      case atStart => exact ⟨0, Nat.zero_le _, rfl, rfl, rfl⟩
      case round =>
        obtain ⟨k, hk, rfl, hall, rfl⟩ := hrel
        have hk0 : (0 : Int) ≤ (k : Int) := by omega
        by_cases hlk : k < m
        · have hkL : k < pz.length := by have := HLM.out; omega
          have hk2 : (k : Int) < (m : Int) := by omega
          have qk : wr.cell? ⟨b, o + k, none⟩ = some (.int .i64 (pz.getD k 0)) := by
            obtain ⟨b', o', e9, -, c9⟩ := (HRI.out.later HB1.out).at_ hkL
            injection e9 with e9; injection e9 with e91 e92; subst e91; subst e92
            exact c9
          have HTK := Lib.hid (prizes_take hkL)
          have HFA : Hid (prizeIn (pz.getD k 0) = false → pz.all prizeIn = false) := prizes_false hkL
          rw [hall, Bool.true_and] at HTK
          obtain ⟨x, hx⟩ : ∃ x, pz.getD k 0 = x := ⟨_, rfl⟩
          rw [hx] at qk HTK HFA
          clear hx hall
          by_cases hx0 : x < 0
          · have HF : Hid (an = false) := HALN.out (HFA.out (by unfold prizeIn inB; simp; omega))
            clear HTK HFA
            go_wp2_with fail
            go_ret
            exact ⟨ret_bool HF.out.symm, HB1.out⟩
          · by_cases hx1 : 20 < x
            · have HF : Hid (an = false) := HALN.out (HFA.out (by unfold prizeIn inB; simp; omega))
              clear HTK HFA
              go_wp2_with fail
              go_ret
              exact ⟨ret_bool HF.out.symm, HB1.out⟩
            · have HT2 : Hid ((pz.take (k + 1)).all prizeIn = true) := by show _ = _; rw [HTK.out]; unfold prizeIn inB; simp; omega
              clear HTK HFA
              go_wp2_with fail
              go_roundw
              case rel => exact ⟨k + 1, by omega, by go_num, HT2.out, by first | rfl | trivial⟩
              case measure => (simp [intOf]) <;> omega
        · obtain rfl : k = m := by omega
          have HALL : Hid (an = true) := HALY.out (by rw [← HLM.out, List.take_length] at hall; exact hall)
          clear hall
          go_wp2_with fail
          go_ret
          exact ⟨ret_bool HALL.out.symm, HB1.out⟩
    · have HF : Hid (prizesOk n ws pz = false) := prizesOk_no1 h1
      have h1b : ((pz.length : Int) != n) = true := by simpa using h1
      rw [HF.out]
      clear hno hni h1
      go_enter Tryd.func7, Tryd.ntmps7
      go_wp2_with fail
      refine (NetOk_any _ _ _ _ _ (HR.out.later (by go_grown))).mono ?_; rintro e w1 ⟨rfl, hb1⟩
      rw [HN.out]
      obtain ⟨hc1, hf1⟩ := bcell hb1
      have hz1_0 : w.heap.size < w1.heap.size := by have hq := hb1.size; (try simp at hq); omega
      have HK1 := Lib.hid hb1
      have HB1 := Lib.hid (bstep (B := w.heap.size) (W := w) (by (try have hp := HB0.out); go_grown) (by go_size) hb1); clear hb1
      go_wp2_with fail
      go_ret
      exact ⟨rfl, HB1.out⟩
set_option maxHeartbeats 1000000 in
theorem prizesPay_any (g : Int) (g0 : 0 ≤ g) (g1 : g ≤ 1048576) (b o cr m : Nat) (L : List Int) (hm : L.length = m) (hm6 : m ≤ 6) (hs : L.all prizeIn = true) (w : World) (hi : RI w w.heap.size (some ⟨b, o, none⟩) L) :
    Calls Tryd.prog 48 #[.slice (some ⟨b, o, none⟩) m cr, .int .i64 g] w fun en w' => en = .returned (.int .i64 (prTo L g m)) ∧ Below w.heap.size w w' := by
  have HI := Lib.hid hi
  have HM := Lib.hid hm
  have HBD := Lib.hid (prTo_bd hs g)
  have HIN := Lib.hid (fun j => pz_in hs j)
  clear hi hm hs
  go_enter Tryd.func48, Tryd.ntmps48
  go_wp2_with fail
  go_loopw [5, 10] (fun c i wr => ∃ k : Nat, k ≤ m ∧ i = .int .i64 k ∧ c = .int .i64 (prTo L g k) ∧ w = wr) (fun _ i _ => m - (intOf i).toNat)
  case atStart => exact ⟨0, Nat.zero_le _, rfl, rfl, rfl⟩
  case round =>
    obtain ⟨k, hk, rfl, rfl, rfl⟩ := hrel
    by_cases hlt : k < m
    · have hk0 : (0 : Int) ≤ (k : Int) := by omega
      have hk1 : (k : Int) < (m : Int) := by omega
      have hk60 : (k : Int) ≤ 60 := by omega
      obtain ⟨b', o', e9, -, c9⟩ := HI.out.at_ (j := k) (by have := HM.out; omega)
      injection e9 with e9; injection e9 with e91 e92; subst e91; subst e92
      have hbd := HBD.out k
      have hin := HIN.out k
      have HST : Hid (prTo L g (k + 1) = prTo L g k + if bit g k = true then L.getD k 0 else 0) := rfl
      obtain ⟨x, hx⟩ : ∃ x, L.getD k 0 = x := ⟨_, rfl⟩
      obtain ⟨p, hp⟩ : ∃ p, prTo L g k = p := ⟨_, rfl⟩
      rw [hx] at c9 hin HST
      rw [hp] at hbd HST ⊢
      have HIS := Lib.hid (fun W => inSet_any g k hk0 hk60 g0 g1 W)
      have HW1 : Hid (IntKind.i64.wrap (p + x) = p + x) := IntWalk.i64_in _ ⟨by omega, by omega⟩
      have HW2 : Hid (wrap64 (p + x) = p + x) := IntWalk.wrap64_in _ ⟨by omega, by omega⟩
      clear hx hp
      cases hb : bit g k
      · have HBT := Lib.hid hb
        have HS : Hid (prTo L g (k + 1) = p) := by show _ = _; rw [HST.out, hb]; simp
        clear hb
        go_wp2_with fail
        refine (HIS.out _).mono ?_; rintro e w1 ⟨rfl, rfl⟩; rw [HBT.out]
        go_wp2_with fail
        go_roundw
        case rel => exact ⟨k + 1, by omega, by go_num, by rw [HS.out], by first | rfl | trivial⟩
        case measure => (simp [intOf]) <;> omega
      · have HBT := Lib.hid hb
        have HS : Hid (prTo L g (k + 1) = p + x) := by show _ = _; rw [HST.out, hb, if_pos rfl]
        have hw1 := HW1.out
        have hw2 := HW2.out
        clear hb
        go_wp2_with fail
        refine (HIS.out _).mono ?_; rintro e w1 ⟨rfl, rfl⟩; rw [HBT.out]
        go_wp2_with fail
        clear hw1 hw2
        go_roundw
        case rel => exact ⟨k + 1, by omega, by go_num, by rw [HS.out], by first | rfl | trivial⟩
        case measure => (simp [intOf]) <;> omega
    · obtain rfl : k = m := by omega
      go_wp2_with fail
      go_ret
      exact ⟨rfl, Below.refl _ _⟩
theorem prizesOf_any (g : Int) (g0 : 0 ≤ g) (g1 : g ≤ 1048576) (b o cr m : Nat) (L : List Int) (hm : L.length = m) (hm6 : m ≤ 6) (hs : L.all prizeIn = true) (w : World) (hi : RI w w.heap.size (some ⟨b, o, none⟩) L) :
    Calls Tryd.prog 40 #[.slice (some ⟨b, o, none⟩) m cr, .int .i64 g] w fun en w' => en = .returned (.int .i64 (prTo L g m)) ∧ Below w.heap.size w w' := by
  have HI := Lib.hid hi
  have HM := Lib.hid hm
  have HS := Lib.hid hs
  clear hi hm hs
  go_enter Tryd.func40, Tryd.ntmps40
  go_wp2_with fail
  refine (prizesPay_any g g0 g1 b o cr m L HM.out hm6 HS.out _ HI.out).mono ?_; rintro e w1 ⟨rfl, hb1⟩
  have HB1 := Lib.hid hb1
  clear hb1
  go_wp2_with fail
  go_ret
  exact ⟨rfl, HB1.out⟩
set_option maxHeartbeats 2000000 in
theorem setGain_any (n s : Int) (A : Option Addr) (cap : Nat) (ws : List Wy) (b o cr m : Nat) (pz : List Int) (hpm : pz.length = m) (w : World) (hr : RW w w.heap.size A ws) (h : PzIs n ws pz) (hi : RI w w.heap.size (some ⟨b, o, none⟩) pz) (s0 : 0 ≤ s) (s1 : s ≤ 1048576) :
    Calls Tryd.prog 23 #[.agg #[.int .i64 n, .slice A ws.length cap], .slice (some ⟨b, o, none⟩) m cr, .int .i64 s] w fun en w' => en = .returned (.int .i64 (gain ws pz s)) ∧ Below w.heap.size w w' := by
  have HR := Lib.hid hr
  have HI := Lib.hid hi
  have HPM := Lib.hid hpm
  have hn := netOk_t h.ok
  have HN := Lib.hid hn
  have hn6 := hn.hi
  have hn2 := hn.lo
  have HIN := Lib.hid h.ins
  have hm6 : m ≤ 6 := by have := h.len; omega
  have hrr := reach_is (s := s) hn (Int.le_refl 0) (by omega)
  have hcb := cost_bds hn s
  have hpb := prTo_bd h.ins (reach ws s 0) pz.length
  unfold gain
  obtain ⟨R, hR⟩ : ∃ R, reach ws s 0 = R := ⟨_, rfl⟩
  obtain ⟨C, hC⟩ : ∃ C, cost ws s = C := ⟨_, rfl⟩
  have HRE := Lib.hid hR
  have HCO := Lib.hid hC
  have hr0 := hrr.lo
  have hr1 := hrr.hi
  rw [hR] at hr0 hr1 hpb ⊢
  rw [hC] at hcb ⊢
  rw [hpm] at hpb ⊢
  obtain ⟨P, hP⟩ : ∃ P, prTo pz R m = P := ⟨_, rfl⟩
  have HP := Lib.hid hP
  rw [hP] at hpb ⊢
  have hr9 : R ≤ 1048576 := by omega
  have HW1 : Hid (IntKind.i64.wrap (P - C) = P - C) := IntWalk.i64_in _ ⟨by omega, by omega⟩
  have HW2 : Hid (wrap64 (P - C) = P - C) := IntWalk.wrap64_in _ ⟨by omega, by omega⟩
  clear hr hi h hn hrr hR hC hP hpm hpb hcb
  go_enter Tryd.func23, Tryd.ntmps23
  go_wp2_with fail
  have k00 : (w.alloc (.cells #[.int .i64 n, .slice A ws.length cap] 25)).cell? ⟨w.heap.size, 0, none⟩ = some (.int .i64 n) := by go_simp
  have k01 : (w.alloc (.cells #[.int .i64 n, .slice A ws.length cap] 25)).cell? ⟨w.heap.size, 1, none⟩ = some (.slice A ws.length cap) := by go_simp
  have hz0 : w.heap.size < (w.alloc (.cells #[.int .i64 n, .slice A ws.length cap] 25)).heap.size := by simp
  have HB0 : Hid (Below w.heap.size w (w.alloc (.cells #[.int .i64 n, .slice A ws.length cap] 25))) := by show Below _ _ _; go_grown
  have HR0 := Lib.hid (HR.out.later HB0.out)
  have HI0 := Lib.hid (HI.out.later HB0.out)
  generalize w.alloc (.cells #[.int .i64 n, .slice A ws.length cap] 25) = w0 at k00 k01 hz0 HB0 HR0 HI0 ⊢
  refine wp_region_held_drew (S := (fun w' => w'.cell? ⟨w.heap.size, 0, none⟩ = some (.int .i64 n) ∧ w'.cell? ⟨w.heap.size, 1, none⟩ = some (.slice A ws.length cap))) (by kernel_rfl) ?_ (fun hHeld => ?_)
  · exact ⟨k00, k01⟩
  refine wpAnyH_take (i := 0) (v := ?_) rfl (by kernel_rfl) (by kernel_rfl) (by kernel_rfl) (fun _ _ _ h => h) (Or.inl ⟨by rfl, ?_⟩) (by assumption) ?_
  rotate_left
  · (intro w hSw; (try dsimp only at hSw); (try simp only [List.getElem_toArray, List.getElem_cons_succ, List.getElem_cons_zero]); first | (go_simp; done) | (go_simp; with_reducible rfl))
  try simp only [Act.put, List.getElem_toArray, List.getElem_cons_succ, List.getElem_cons_zero, List.setIfInBounds_toArray, List.set_cons_zero, List.set_cons_succ]
  refine wpAnyH_take (i := 1) (v := ?_) rfl (by kernel_rfl) (by kernel_rfl) (by kernel_rfl) (fun _ _ _ h => h) (Or.inl ⟨by rfl, ?_⟩) (by assumption) ?_
  rotate_left
  · (intro w hSw; (try dsimp only at hSw); (try simp only [List.getElem_toArray, List.getElem_cons_succ, List.getElem_cons_zero]); first | (go_simp; done) | (go_simp; with_reducible rfl))
  try simp only [Act.put, List.getElem_toArray, List.getElem_cons_succ, List.getElem_cons_zero, List.setIfInBounds_toArray, List.set_cons_zero, List.set_cons_succ]
  refine wpAnyH_take (i := 2) (v := ?_) rfl (by kernel_rfl) (by kernel_rfl) (by kernel_rfl) (fun _ _ _ h => h) (Or.inl ⟨by rfl, ?_⟩) (by assumption) ?_
  rotate_left
  · (intro w hSw; (try dsimp only at hSw); (try simp only [List.getElem_toArray, List.getElem_cons_succ, List.getElem_cons_zero]); first | (go_simp; done) | (go_simp; with_reducible rfl))
  try simp only [Act.put, List.getElem_toArray, List.getElem_cons_succ, List.getElem_cons_zero, List.setIfInBounds_toArray, List.set_cons_zero, List.set_cons_succ]
  refine wpAnyH_take (i := 5) (v := ?_) rfl (by kernel_rfl) (by kernel_rfl) (by kernel_rfl) (fun _ _ _ h => h) (Or.inl ⟨by rfl, ?_⟩) (by assumption) ?_
  rotate_left
  · (intro w hSw; (try dsimp only at hSw); (try simp only [List.getElem_toArray, List.getElem_cons_succ, List.getElem_cons_zero]); first | (go_simp; done) | (go_simp; with_reducible rfl))
  try simp only [Act.put, List.getElem_toArray, List.getElem_cons_succ, List.getElem_cons_zero, List.setIfInBounds_toArray, List.set_cons_zero, List.set_cons_succ]
  refine wpAnyH_take (i := 6) (v := ?_) rfl (by kernel_rfl) (by kernel_rfl) (by kernel_rfl) (fun _ _ _ h => h) (Or.inl ⟨by rfl, ?_⟩) (by assumption) ?_
  rotate_left
  · (intro w hSw; (try dsimp only at hSw); (try simp only [List.getElem_toArray, List.getElem_cons_succ, List.getElem_cons_zero]); first | (go_simp; done) | (go_simp; with_reducible rfl))
  try simp only [Act.put, List.getElem_toArray, List.getElem_cons_succ, List.getElem_cons_zero, List.setIfInBounds_toArray, List.set_cons_zero, List.set_cons_succ]
  refine wpAnyH_ready (rs := [3]) (by kernel_rfl) (by simp) ?_
  refine AllReadyH.cons rfl (fun K hK => ?_) AllReadyH.nil
  try simp only [List.getElem_toArray, List.getElem_cons_succ, List.getElem_cons_zero]
  go_simp
  go_at_call 25; refine (setReach_any _ _ _ _ _ _ _ (HR0.out.drewNR _) HN.out s0 s1 (Int.le_refl 0) (by omega)).mono ?_; rintro e11 w11 ⟨rfl, hb11⟩; rw [HRE.out]; have g11 : Below w0.heap.size w0 w11 := und hb11; have k11 := keep2 g11 ⟨k00, k01⟩ hz0; have z11 := Nat.lt_of_lt_of_le hz0 g11.size; have r11 := Lib.hid (HR0.out.later g11); have i11 := Lib.hid (HI0.out.later g11)
  refine hK.out _ _ ?_ (fun hHeld => ?_)
  · exact k11
  clear hK K
  try simp only [Act.put, List.getElem_toArray, List.getElem_cons_succ, List.getElem_cons_zero, List.setIfInBounds_toArray, List.set_cons_zero, List.set_cons_succ]
  refine wpAnyH_ready (rs := [4]) (by kernel_rfl) (by simp) ?_
  refine AllReadyH.cons rfl (fun K hK => ?_) AllReadyH.nil
  try simp only [List.getElem_toArray, List.getElem_cons_succ, List.getElem_cons_zero]
  go_simp
  go_at_call 40; refine (prizesOf_any R hr0 hr9 b o cr m pz HPM.out hm6 HIN.out w11 i11.out).mono ?_; rintro e12 w12 ⟨rfl, hb12⟩; rw [HP.out]; have g12 : Below w0.heap.size w0 w12 := bstep g11 g11.size hb12; have k12 := keep2 hb12 k11 z11; have z12 := Nat.lt_of_lt_of_le z11 hb12.size; have r12 := Lib.hid (r11.out.later hb12)
  refine hK.out _ _ ?_ (fun hHeld => ?_)
  · exact k12
  clear hK K
  try simp only [Act.put, List.getElem_toArray, List.getElem_cons_succ, List.getElem_cons_zero, List.setIfInBounds_toArray, List.set_cons_zero, List.set_cons_succ]
  refine wpAnyH_ready (rs := [7]) (by kernel_rfl) (by simp) ?_
  refine AllReadyH.cons rfl (fun K hK => ?_) AllReadyH.nil
  try simp only [List.getElem_toArray, List.getElem_cons_succ, List.getElem_cons_zero]
  go_simp
  go_at_call 29; refine (setCost_any _ _ _ _ _ w12 r12.out HN.out s0 s1).mono ?_; rintro e13 w13 ⟨rfl, hb13⟩; rw [HCO.out]; have g13 : Below w0.heap.size w0 w13 := bstep g12 g12.size hb13; have k13 := keep2 hb13 k12 z12; have hw1 := HW1.out; have hw2 := HW2.out
  refine hK.out _ _ ?_ (fun hHeld => ?_)
  · exact k13
  clear hK K
  try simp only [Act.put, List.getElem_toArray, List.getElem_cons_succ, List.getElem_cons_zero, List.setIfInBounds_toArray, List.set_cons_zero, List.set_cons_succ]
  refine wpAnyH_take (i := 8) (v := ?_) rfl (by kernel_rfl) (by kernel_rfl) (by kernel_rfl) (fun _ _ _ h => h) (Or.inl ⟨by rfl, ?_⟩) (by assumption) ?_
  rotate_left
  · (intro w hSw; (try dsimp only at hSw); (try simp only [List.getElem_toArray, List.getElem_cons_succ, List.getElem_cons_zero]); first | (go_simp; done) | (go_simp; with_reducible rfl))
  try simp only [Act.put, List.getElem_toArray, List.getElem_cons_succ, List.getElem_cons_zero, List.setIfInBounds_toArray, List.set_cons_zero, List.set_cons_succ]
  refine wpAnyH_take (i := 9) (v := ?_) rfl (by kernel_rfl) (by kernel_rfl) (by kernel_rfl) (fun _ _ _ h => h) (Or.inl ⟨by rfl, ?_⟩) (by assumption) ?_
  rotate_left
  · (intro w hSw; (try dsimp only at hSw); (try simp only [List.getElem_toArray, List.getElem_cons_succ, List.getElem_cons_zero]); first | (go_simp; done) | (go_simp; with_reducible rfl))
  try simp only [Act.put, List.getElem_toArray, List.getElem_cons_succ, List.getElem_cons_zero, List.setIfInBounds_toArray, List.set_cons_zero, List.set_cons_succ]
  refine wpAnyH_done (by kernel_rfl) ?_ _
  have HB9 := Lib.hid (bstep (B := w.heap.size) (W := w) HB0.out (Nat.le_of_lt hz0) g13)
  go_wp2_with fail
  go_ret
  exact ⟨rfl, ⟨HB9.out.os, HB9.out.tape, HB9.out.output, HB9.out.size, HB9.out.block⟩⟩
set_option maxHeartbeats 2000000 in
theorem GainOf_any (n : Int) (A : Option Addr) (cap : Nat) (ws : List Wy) (Ar : Option Addr) (cr : Nat) (pz : List Int) (s : Int) (w : World) (hr : RW w w.heap.size A ws) (hi : RI w w.heap.size Ar pz) :
    Calls Tryd.prog 9 #[.agg #[.int .i64 n, .slice A ws.length cap], .slice Ar pz.length cr, .int .i64 s] w fun en w' => en = .returned (.tuple #[.int .i64 (opV (gainOf n ws pz s)), .bool (opB (gainOf n ws pz s))]) ∧ Below w.heap.size w w' := by
  have HR := Lib.hid hr
  have HI := Lib.hid hi
  clear hr hi
  unfold gainOf
  cases hok : prizesOk n ws pz
  · have HOK := Lib.hid hok
    rw [if_neg (by simp)]
    clear hok
    go_enter Tryd.func9, Tryd.ntmps9
    go_wp2_with fail
    refine (PrizesOk_any _ _ _ _ _ _ _ _ (HR.out.later (by go_grown)) (HI.out.later (by go_grown))).mono ?_; rintro e w1 ⟨rfl, hb1⟩
    rw [HOK.out]
    obtain ⟨hc1, hf1⟩ := bcell hb1
    have hz1_0 : w.heap.size < w1.heap.size := by have hq := hb1.size; (try simp at hq); omega
    have HK1 := Lib.hid hb1
    have HB1 := Lib.hid (bstep (B := w.heap.size) (W := w) (by (try have hp := HB0.out); go_grown) (by go_size) hb1); clear hb1
    go_wp2_with fail
    refine bodyPost_ret (v := .tuple #[.int .i64 0, .bool false]) (by simp [results, Tryd.results9, go_sem]) rfl ?_
    exact ⟨rfl, HB1.out⟩
  · have HOK := Lib.hid hok
    have hpi := prizesOk_iff.1 hok
    have HPI := Lib.hid hpi
    have hl := (netOk_t hpi.ok).len
    have hf := full_bd ws.length hl
    have HSO : Hid (setOk n ws s = inB s 0 (full ws.length)) := by show _ = _; unfold setOk inB; rw [hpi.ok]; simp
    obtain ⟨b, o, hAr, -, -⟩ := HI.out.at_ (j := 0) (by have := hpi.len; have := (netOk_t hpi.ok).lo; omega)
    subst hAr
    clear hok hpi
    cases hin : inB s 0 (full ws.length)
    · have HSF : Hid (setOk n ws s = false) := HSO.out.trans hin
      rw [if_neg (by simp)]
      clear hin
      go_enter Tryd.func9, Tryd.ntmps9
      go_wp2_with fail
      refine (PrizesOk_any _ _ _ _ _ _ _ _ (HR.out.later (by go_grown)) (HI.out.later (by go_grown))).mono ?_; rintro e w1 ⟨rfl, hb1⟩
      rw [HOK.out]
      obtain ⟨hc1, hf1⟩ := bcell hb1
      have hz1_0 : w.heap.size < w1.heap.size := by have hq := hb1.size; (try simp at hq); omega
      have HK1 := Lib.hid hb1
      have HB1 := Lib.hid (bstep (B := w.heap.size) (W := w) (by (try have hp := HB0.out); go_grown) (by go_size) hb1); clear hb1
      go_wp2_with fail
      refine (waysOk_any _ _ _ _ _ _ (HR.out.later (by have := HB1.out; go_grown))).mono ?_; rintro e w2 ⟨rfl, hb2⟩
      rw [HSF.out]
      obtain ⟨hc2, hf2⟩ := bcell hb2
      have hz2_0 : w.heap.size < w2.heap.size := by have hq := hb2.size; (try simp at hq); omega
      have HK2 := Lib.hid hb2
      have HB2 := Lib.hid (bstep (B := w.heap.size) (W := w) (by have hp := HB1.out; go_grown) (by go_size) hb2); clear hb2
      go_wp2_with fail
      refine bodyPost_ret (v := .tuple #[.int .i64 0, .bool false]) (by simp [results, Tryd.results9, go_sem]) rfl ?_
      exact ⟨rfl, HB2.out⟩
    · have HST : Hid (setOk n ws s = true) := HSO.out.trans hin
      have hin' := inB_t hin
      rw [if_pos (show (true && true) = true from rfl)]
      clear hin
      go_enter Tryd.func9, Tryd.ntmps9
      go_wp2_with fail
      refine (PrizesOk_any _ _ _ _ _ _ _ _ (HR.out.later (by go_grown)) (HI.out.later (by go_grown))).mono ?_; rintro e w1 ⟨rfl, hb1⟩
      rw [HOK.out]
      obtain ⟨hc1, hf1⟩ := bcell hb1
      have hz1_0 : w.heap.size < w1.heap.size := by have hq := hb1.size; (try simp at hq); omega
      have HK1 := Lib.hid hb1
      have HB1 := Lib.hid (bstep (B := w.heap.size) (W := w) (by (try have hp := HB0.out); go_grown) (by go_size) hb1); clear hb1
      go_wp2_with fail
      refine (waysOk_any _ _ _ _ _ _ (HR.out.later (by have := HB1.out; go_grown))).mono ?_; rintro e w2 ⟨rfl, hb2⟩
      rw [HST.out]
      obtain ⟨hc2, hf2⟩ := bcell hb2
      have hz2_0 : w.heap.size < w2.heap.size := by have hq := hb2.size; (try simp at hq); omega
      have HK2 := Lib.hid hb2
      have HB2 := Lib.hid (bstep (B := w.heap.size) (W := w) (by have hp := HB1.out; go_grown) (by go_size) hb2); clear hb2
      go_wp2_with fail
      refine (setGain_any _ _ _ _ _ b o cr _ pz rfl _ (HR.out.later (by have := HB2.out; go_grown)) HPI.out (HI.out.later (by have := HB2.out; go_grown)) (by omega) (by omega)).mono ?_; rintro e w3 ⟨rfl, hb3⟩
      obtain ⟨hc3, hf3⟩ := bcell hb3
      have hz3_0 : w.heap.size < w3.heap.size := by have hq := hb3.size; (try simp at hq); omega
      have HK3 := Lib.hid hb3
      have HB3 := Lib.hid (bstep (B := w.heap.size) (W := w) (by have hp := HB2.out; go_grown) (by go_size) hb3); clear hb3
      go_wp2_with fail
      refine bodyPost_ret (v := .tuple #[.int .i64 (gain ws pz s), .bool true]) (by simp [results, Tryd.results9, go_sem]) rfl ?_
      exact ⟨rfl, HB3.out⟩
theorem best_gain {n : Int} {ws : List Wy} {pz : List Int} (h : PzIs n ws pz) : gain ws pz (bwTo ws pz (2 ^ ws.length)) = bgTo ws pz (2 ^ ws.length) := by
  obtain ⟨s, h1, -, -, h2, -⟩ := bw_root h
  unfold bestWays at h1
  rw [prizesOk_iff.2 h, if_pos rfl] at h1
  rw [h1, h2]
theorem bwTo_nat (ws : List Wy) (pz : List Int) : ∀ k : Nat, ∃ j : Nat, (j < k ∨ j = 0) ∧ bwTo ws pz k = j
  | 0 => ⟨0, .inr rfl, rfl⟩
  | k + 1 => by
    obtain ⟨⟨j, h1, h2⟩, -⟩ := bwTo_ok ws pz (k + 1) (by omega)
    exact ⟨j, .inl h1, h2⟩
set_option maxRecDepth 100000 in
set_option maxHeartbeats 4000000 in
theorem bestSet_any (n : Int) (A : Option Addr) (cap : Nat) (ws : List Wy) (b o cr m : Nat) (pz : List Int) (hpm : pz.length = m) (w : World) (hr : RW w w.heap.size A ws) (h : PzIs n ws pz) (hi : RI w w.heap.size (some ⟨b, o, none⟩) pz) :
    Calls Tryd.prog 17 #[.agg #[.int .i64 n, .slice A ws.length cap], .slice (some ⟨b, o, none⟩) m cr] w fun en w' => en = .returned (.tuple #[.int .i64 (bwTo ws pz (2 ^ ws.length)), .int .i64 (bgTo ws pz (2 ^ ws.length))]) ∧ Below w.heap.size w w' := by
  have HR := Lib.hid hr
  have HI := Lib.hid hi
  have HPM := Lib.hid hpm
  have HPI := Lib.hid h
  have HBGN : Hid (bgTo ws pz (2 ^ ws.length) = gain ws pz (bwTo ws pz (2 ^ ws.length))) := (best_gain h).symm
  have hl9 := (netOk_t h.ok).len
  have hN512 : 2 ^ ws.length ≤ 512 := by
    have h9 := Nat.pow_le_pow_right (n := 2) (by omega) hl9
    omega
  have hfl : full ws.length + 1 = ((2 ^ ws.length : Nat) : Int) := by unfold full; simp
  obtain ⟨N, hN⟩ : ∃ N : Nat, 2 ^ ws.length = N := ⟨_, rfl⟩
  rw [HBGN.out]
  rw [hN] at hN512 hfl ⊢
  obtain ⟨F, hF⟩ : ∃ F, full ws.length = F := ⟨_, rfl⟩
  have HF := Lib.hid hF
  rw [hF] at hfl
  have HWN1 : Hid (IntKind.i64.wrap (F + 1) = (N : Int)) := by show _ = _; rw [hfl]; exact IntWalk.i64_in _ ⟨by omega, by omega⟩
  have HWN2 : Hid (wrap64 (F + 1) = (N : Int)) := by show _ = _; rw [hfl]; exact IntWalk.wrap64_in _ ⟨by omega, by omega⟩
  have HBW := Lib.hid (bwTo_nat ws pz)
  have HG0 := Lib.hid (show bwTo ws pz 0 = 0 from rfl)
  clear hr hi h hpm hN hfl hF
  go_enter Tryd.func17, Tryd.ntmps17
  go_wp2_with fail
  refine (setGain_any _ _ _ _ _ b o cr m pz HPM.out _ (HR.out.later (by go_grown)) HPI.out (HI.out.later (by go_grown)) (Int.le_refl 0) (by omega)).mono ?_; rintro e w1 ⟨rfl, hb1⟩
  obtain ⟨hc1, hf1⟩ := bcell hb1
  have hz1_0 : w.heap.size < w1.heap.size := by have hq := hb1.size; (try simp at hq); omega
  have HK1 := Lib.hid hb1
  have HB1 := Lib.hid (bstep (B := w.heap.size) (W := w) (by (try have hp := HB0.out); go_grown) (by go_size) hb1); clear hb1
  go_wp2_with fail
  refine (allWays_any _ _ _ _ (by omega) _).mono ?_; rintro e w2 ⟨rfl, hb2⟩
  rw [HF.out]
  obtain ⟨hc2, hf2⟩ := bcell hb2
  have hz2_0 : w.heap.size < w2.heap.size := by have hq := hb2.size; (try simp at hq); omega
  have HK2 := Lib.hid hb2
  have HB2 := Lib.hid (bstep (B := w.heap.size) (W := w) (by have hp := HB1.out; go_grown) (by go_size) hb2); clear hb2
  have k10 : w2.cell? ⟨w.heap.size, 0, none⟩ = some (.int .i64 n) ∧ w2.cell? ⟨w.heap.size, 1, none⟩ = some (.slice A ws.length cap) := ⟨by go_simp, by go_simp⟩
  obtain ⟨k10, k11⟩ := k10
  have hwn1 := HWN1.out
  have hwn2 := HWN2.out
  clear hc1 hf1 hc2 hf2
  go_wp2_with fail
  clear hwn1 hwn2
  go_loopw [4, 5, 15] (fun bv gv sv wr => ∃ k : Nat, k ≤ N ∧ bv = .int .i64 (bwTo ws pz k) ∧ gv = .int .i64 (gain ws pz (bwTo ws pz k)) ∧ sv = .int .i64 k ∧ wr.cell? ⟨w.heap.size, 0, none⟩ = some (.int .i64 n) ∧ wr.cell? ⟨w.heap.size, 1, none⟩ = some (.slice A ws.length cap) ∧ Below w.heap.size w wr ∧ w.heap.size < wr.heap.size) (fun _ _ sv _ => N - (intOf sv).toNat)
  case atStart => exact ⟨0, Nat.zero_le _, rfl, by rw [HG0.out], rfl, k10, k11, HB2.out, hz2_0⟩
  case round =>
    clear k10 k11 HB1 HK1 HB2 HK2
    obtain ⟨k, hk, rfl, rfl, rfl, b0, b1, hb, hz⟩ := hrel
    have HB0 := Lib.hid hb
    have hk0 : (0 : Int) ≤ (k : Int) := by omega
    clear hb
    by_cases hlk : k < N
    · have hk1 : (k : Int) < (N : Int) := by omega
      have hst : bwTo ws pz (k + 1) = if gbet ws pz k (bwTo ws pz k) = true then (k : Int) else bwTo ws pz k := rfl
      obtain ⟨jb, hjb, hje⟩ := HBW.out k
      rw [hje] at hst ⊢
      obtain ⟨x, hx⟩ : ∃ x, gain ws pz k = x := ⟨_, rfl⟩
      obtain ⟨y, hy⟩ : ∃ y, gain ws pz jb = y := ⟨_, rfl⟩
      have HX := Lib.hid hx
      have HY := Lib.hid hy
      obtain ⟨pk, hpk⟩ : ∃ p, pop (k : Int) = p := ⟨_, rfl⟩
      obtain ⟨pj, hpj⟩ : ∃ p, pop (jb : Int) = p := ⟨_, rfl⟩
      have HPK := Lib.hid hpk
      have HPJ := Lib.hid hpj
      have hgb := gbet_iff (ws := ws) (pz := pz) (a := (k : Int)) (b := (jb : Int))
      rw [hx, hy, hpk, hpj] at hgb
      rw [hy]
      clear hx hy hpk hpj hje
      go_wp2_with fail
      refine (setGain_any _ _ _ _ _ b o cr m pz HPM.out _ (HR.out.later HB0.out) HPI.out (HI.out.later HB0.out) hk0 (by omega)).mono ?_; rintro e w1 ⟨rfl, hb1⟩
      rw [HX.out]
      obtain ⟨hc1, hf1⟩ := bcell hb1
      have hz1_0 : w.heap.size < w1.heap.size := by have hq := hb1.size; (try simp at hq); omega
      have HK1 := Lib.hid hb1
      have HB1 := Lib.hid (bstep (B := w.heap.size) (W := w) (by (try have hp := HB0.out); go_grown) (by go_size) hb1); clear hb1
      have y0 : w1.cell? ⟨w.heap.size, 0, none⟩ = some (.int .i64 n) := by go_simp
      have y1 : w1.cell? ⟨w.heap.size, 1, none⟩ = some (.slice A ws.length cap) := by go_simp
      clear hc1 hf1
      by_cases hgt : y < x
      · have HST : Hid (bwTo ws pz (k + 1) = (k : Int)) := by show _ = _; rw [hst, if_pos (hgb.2 (.inl hgt))]
        clear hst hgb
        go_wp2_with fail
        go_roundw
        case rel => exact ⟨k + 1, by omega, by rw [HST.out], by rw [HST.out, HX.out], by go_num, y0, y1, HB1.out, hz1_0⟩
        case measure => (simp [intOf]) <;> omega
      · by_cases heq : x = y
        · have d1 : (x == y) = true := by simpa using heq
          by_cases hlt : pk < pj
          · have HST : Hid (bwTo ws pz (k + 1) = (k : Int)) := by show _ = _; rw [hst, if_pos (hgb.2 (.inr ⟨heq, hlt⟩))]
            subst heq
            clear hst hgb d1
            go_wp2_with fail
            refine (sizeOf_any (k : Int) (by omega) (by omega) _).mono ?_; rintro e3 w3 ⟨rfl, rfl⟩; rw [HPK.out]
            go_wp2_with fail
            refine (sizeOf_any (jb : Int) (by omega) (by omega) _).mono ?_; rintro e4 w4 ⟨rfl, rfl⟩; rw [HPJ.out]
            go_wp2_with fail
            go_roundw
            case rel => exact ⟨k + 1, by omega, by rw [HST.out], by rw [HST.out, HX.out], by go_num, y0, y1, HB1.out, hz1_0⟩
            case measure => (simp [intOf]) <;> omega
          · have HST : Hid (bwTo ws pz (k + 1) = (jb : Int)) := by show _ = _; rw [hst, if_neg (fun h => by rcases hgb.1 h with h1 | h1 <;> omega)]
            subst heq
            clear hst hgb d1
            go_wp2_with fail
            refine (sizeOf_any (k : Int) (by omega) (by omega) _).mono ?_; rintro e3 w3 ⟨rfl, rfl⟩; rw [HPK.out]
            go_wp2_with fail
            refine (sizeOf_any (jb : Int) (by omega) (by omega) _).mono ?_; rintro e4 w4 ⟨rfl, rfl⟩; rw [HPJ.out]
            go_wp2_with fail
            go_roundw
            case rel => exact ⟨k + 1, by omega, by rw [HST.out], by rw [HST.out, HY.out], by go_num, y0, y1, HB1.out, hz1_0⟩
            case measure => (simp [intOf]) <;> omega
        · have HST : Hid (bwTo ws pz (k + 1) = (jb : Int)) := by show _ = _; rw [hst, if_neg (fun h => by rcases hgb.1 h with h1 | h1 <;> omega)]
          have d1 : (x == y) = false := by simpa using heq
          clear hst hgb heq
          go_wp2_with fail
          go_roundw
          case rel => exact ⟨k + 1, by omega, by rw [HST.out], by rw [HST.out, HY.out], by go_num, y0, y1, HB1.out, hz1_0⟩
          case measure => (simp [intOf]) <;> omega
    · obtain rfl : k = N := by omega
      obtain ⟨u, hu⟩ : ∃ u, bwTo ws pz k = u := ⟨_, rfl⟩
      rw [hu]
      obtain ⟨v, hv⟩ : ∃ v, gain ws pz u = v := ⟨_, rfl⟩
      rw [hv]
      have HU := Lib.hid hu
      have HV := Lib.hid hv
      clear hu hv
      go_wp2_with fail
      refine bodyPost_ret (v := .tuple #[.int .i64 u, .int .i64 v]) (by simp [results, Tryd.results17, go_sem]) rfl ?_
      exact ⟨by rw [HU.out, HV.out], HB0.out⟩
set_option maxHeartbeats 2000000 in
theorem BestGain_any (n : Int) (A : Option Addr) (cap : Nat) (ws : List Wy) (Ar : Option Addr) (cr : Nat) (pz : List Int) (w : World) (hr : RW w w.heap.size A ws) (hi : RI w w.heap.size Ar pz) :
    Calls Tryd.prog 11 #[.agg #[.int .i64 n, .slice A ws.length cap], .slice Ar pz.length cr] w fun en w' => en = .returned (.int .i64 (bestGain n ws pz)) ∧ Below w.heap.size w w' := by
  have HR := Lib.hid hr
  have HI := Lib.hid hi
  clear hr hi
  unfold bestGain
  cases hok : prizesOk n ws pz
  · have HOK := Lib.hid hok
    rw [if_neg (by simp)]
    clear hok
    go_enter Tryd.func11, Tryd.ntmps11
    go_wp2_with fail
    refine (PrizesOk_any _ _ _ _ _ _ _ _ (HR.out.later (by go_grown)) (HI.out.later (by go_grown))).mono ?_; rintro e w1 ⟨rfl, hb1⟩
    rw [HOK.out]
    obtain ⟨hc1, hf1⟩ := bcell hb1
    have hz1_0 : w.heap.size < w1.heap.size := by have hq := hb1.size; (try simp at hq); omega
    have HK1 := Lib.hid hb1
    have HB1 := Lib.hid (bstep (B := w.heap.size) (W := w) (by (try have hp := HB0.out); go_grown) (by go_size) hb1); clear hb1
    go_wp2_with fail
    go_ret
    exact ⟨rfl, HB1.out⟩
  · have HOK := Lib.hid hok
    have hpi := prizesOk_iff.1 hok
    have HPI := Lib.hid hpi
    rw [if_pos rfl]
    obtain ⟨b, o, hAr, -, -⟩ := HI.out.at_ (j := 0) (by have := hpi.len; have := (netOk_t hpi.ok).lo; omega)
    subst hAr
    clear hok hpi
    go_enter Tryd.func11, Tryd.ntmps11
    go_wp2_with fail
    refine (PrizesOk_any _ _ _ _ _ _ _ _ (HR.out.later (by go_grown)) (HI.out.later (by go_grown))).mono ?_; rintro e w1 ⟨rfl, hb1⟩
    rw [HOK.out]
    obtain ⟨hc1, hf1⟩ := bcell hb1
    have hz1_0 : w.heap.size < w1.heap.size := by have hq := hb1.size; (try simp at hq); omega
    have HK1 := Lib.hid hb1
    have HB1 := Lib.hid (bstep (B := w.heap.size) (W := w) (by (try have hp := HB0.out); go_grown) (by go_size) hb1); clear hb1
    go_wp2_with fail
    refine (bestSet_any _ _ _ _ b o cr _ pz rfl _ (HR.out.later (by have := HB1.out; go_grown)) HPI.out (HI.out.later (by have := HB1.out; go_grown))).mono ?_; rintro e w2 ⟨rfl, hb2⟩
    obtain ⟨hc2, hf2⟩ := bcell hb2
    have hz2_0 : w.heap.size < w2.heap.size := by have hq := hb2.size; (try simp at hq); omega
    have HK2 := Lib.hid hb2
    have HB2 := Lib.hid (bstep (B := w.heap.size) (W := w) (by have hp := HB1.out; go_grown) (by go_size) hb2); clear hb2
    obtain ⟨u, hu⟩ : ∃ u, bgTo ws pz (2 ^ ws.length) = u := ⟨_, rfl⟩
    obtain ⟨v, hv⟩ : ∃ v, bwTo ws pz (2 ^ ws.length) = v := ⟨_, rfl⟩
    rw [hu, hv]
    have HU : Hid (u = bgTo ws pz (2 ^ ws.length)) := hu.symm
    clear hu hv
    go_wp2_with fail
    go_ret
    exact ⟨ret_int HU.out, HB2.out⟩
set_option maxHeartbeats 2000000 in
theorem BestWays_any (n : Int) (A : Option Addr) (cap : Nat) (ws : List Wy) (Ar : Option Addr) (cr : Nat) (pz : List Int) (w : World) (hr : RW w w.heap.size A ws) (hi : RI w w.heap.size Ar pz) :
    Calls Tryd.prog 5 #[.agg #[.int .i64 n, .slice A ws.length cap], .slice Ar pz.length cr] w fun en w' => en = .returned (.int .i64 (bestWays n ws pz)) ∧ Below w.heap.size w w' := by
  have HR := Lib.hid hr
  have HI := Lib.hid hi
  clear hr hi
  unfold bestWays
  cases hok : prizesOk n ws pz
  · have HOK := Lib.hid hok
    rw [if_neg (by simp)]
    clear hok
    go_enter Tryd.func5, Tryd.ntmps5
    go_wp2_with fail
    refine (PrizesOk_any _ _ _ _ _ _ _ _ (HR.out.later (by go_grown)) (HI.out.later (by go_grown))).mono ?_; rintro e w1 ⟨rfl, hb1⟩
    rw [HOK.out]
    obtain ⟨hc1, hf1⟩ := bcell hb1
    have hz1_0 : w.heap.size < w1.heap.size := by have hq := hb1.size; (try simp at hq); omega
    have HK1 := Lib.hid hb1
    have HB1 := Lib.hid (bstep (B := w.heap.size) (W := w) (by (try have hp := HB0.out); go_grown) (by go_size) hb1); clear hb1
    go_wp2_with fail
    go_ret
    exact ⟨rfl, HB1.out⟩
  · have HOK := Lib.hid hok
    have hpi := prizesOk_iff.1 hok
    have HPI := Lib.hid hpi
    rw [if_pos rfl]
    obtain ⟨b, o, hAr, -, -⟩ := HI.out.at_ (j := 0) (by have := hpi.len; have := (netOk_t hpi.ok).lo; omega)
    subst hAr
    clear hok hpi
    go_enter Tryd.func5, Tryd.ntmps5
    go_wp2_with fail
    refine (PrizesOk_any _ _ _ _ _ _ _ _ (HR.out.later (by go_grown)) (HI.out.later (by go_grown))).mono ?_; rintro e w1 ⟨rfl, hb1⟩
    rw [HOK.out]
    obtain ⟨hc1, hf1⟩ := bcell hb1
    have hz1_0 : w.heap.size < w1.heap.size := by have hq := hb1.size; (try simp at hq); omega
    have HK1 := Lib.hid hb1
    have HB1 := Lib.hid (bstep (B := w.heap.size) (W := w) (by (try have hp := HB0.out); go_grown) (by go_size) hb1); clear hb1
    go_wp2_with fail
    refine (bestSet_any _ _ _ _ b o cr _ pz rfl _ (HR.out.later (by have := HB1.out; go_grown)) HPI.out (HI.out.later (by have := HB1.out; go_grown))).mono ?_; rintro e w2 ⟨rfl, hb2⟩
    obtain ⟨hc2, hf2⟩ := bcell hb2
    have hz2_0 : w.heap.size < w2.heap.size := by have hq := hb2.size; (try simp at hq); omega
    have HK2 := Lib.hid hb2
    have HB2 := Lib.hid (bstep (B := w.heap.size) (W := w) (by have hp := HB1.out; go_grown) (by go_size) hb2); clear hb2
    obtain ⟨u, hu⟩ : ∃ u, bgTo ws pz (2 ^ ws.length) = u := ⟨_, rfl⟩
    obtain ⟨v, hv⟩ : ∃ v, bwTo ws pz (2 ^ ws.length) = v := ⟨_, rfl⟩
    rw [hu, hv]
    have HU : Hid (v = bwTo ws pz (2 ^ ws.length)) := hv.symm
    clear hu hv
    go_wp2_with fail
    go_ret
    exact ⟨ret_int HU.out, HB2.out⟩
end Go.Proofs.YtoekaembfieigaaDoor
