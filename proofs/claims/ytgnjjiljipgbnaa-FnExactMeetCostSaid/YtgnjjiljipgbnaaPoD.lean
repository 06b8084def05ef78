/- The model's points: PointsOk, PointsFar, HalfRound, MiddleOf, MeetCost. -/
import Derived.Test.YtgnjjiljipgbnaaPoM
import Derived.Test.YtgnjjiljipgbnaaCuA
import Derived.Test.YtgnjjiljipgbnaaOrd
import Derived.Test.YtgnjjiljipgbnaaWC
set_option linter.unusedSimpArgs false
set_option linter.unusedVariables false
attribute [local go_sem ↓] Go.wp_at_zero Go.wp_at_succ
namespace Go.Proofs.Ytgnjjiljipgbnaa
open Go.ChangeShapes Go.WideShapes Go.ChangeAt Go.RowKit

theorem RC.at2 {w : World} {B : Nat} {A : Option Addr} {cs : List (Int × Int)} (h : RC w B A cs) {k : Nat} (hk : k < cs.length) : ∃ b o, A = some ⟨b, o, none⟩ ∧ b < B ∧ w.cell? ⟨b, o + k * 2, none⟩ = some (.int .i64 (ptAt cs k).1) ∧ w.cell? ⟨b, o + k * 2 + 1, none⟩ = some (.int .i64 (ptAt cs k).2) := by
  have hx : cs[k]? = some cs[k] := List.getElem?_eq_getElem hk
  rw [ptAt_at hx]
  exact h k _ hx
theorem two_block {w : World} {b : Nat} {x0 x1 v0 v1 : Value} {t : TypeId} (h : w.heap[b]? = some (.cells #[x0, x1] t (0, 0))) :
    ((w.setCell ⟨b, 0, none⟩ v0).setCell ⟨b, 1, none⟩ v1).heap[b]? = some (.cells #[v0, v1] t (0, 0)) := by
  simp [World.setCell, Array.getElem?_modify, h]
theorem minforms {a b M : Int} (h : min a b = M) : (if a < b then a else b) = M ∧ (if b < a then b else a) = M ∧ (if a ≤ b then a else b) = M ∧ (if b ≤ a then b else a) = M := by
  refine ⟨?_, ?_, ?_, ?_⟩ <;> split <;> omega
theorem maxforms {a b M : Int} (h : max a b = M) : (if a < b then b else a) = M ∧ (if b < a then a else b) = M ∧ (if a ≤ b then b else a) = M ∧ (if b ≤ a then a else b) = M := by
  refine ⟨?_, ?_, ?_, ?_⟩ <;> split <;> omega
set_option maxHeartbeats 2000000 in
theorem sPointsOk_any (Ap : Option Addr) (cp : Nat) (ps : List (Int × Int)) (w : World) (hp : RC w w.heap.size Ap ps) (hpm : ps.length ≤ 1073741824) :
    Calls Try.prog 16 #[.slice Ap ps.length cp] w fun e w' => e = .returned (.bool (pointsOk ps)) ∧ Below w.heap.size w w' := by
  have HP := Lib.hid hp
  have HFALSE : Hid (ps.all ptIn = false → pointsOk ps = false) := fun h => by unfold pointsOk; rw [h]; rfl
  have HTRUE : Hid (ps.all ptIn = true → pointsOk ps = inB (ps.length : Int) 1 6) := fun h => by unfold pointsOk; rw [h]; rfl
  obtain ⟨an, han⟩ : ∃ a, pointsOk ps = a := ⟨_, rfl⟩
  rw [han] at HFALSE HTRUE ⊢
  clear hp han
  go_enter Try.func16, Try.ntmps16
  go_wp2_with fail
  go_loopw [3] (fun i wr => ∃ k : Nat, k ≤ ps.length ∧ i = .int .i64 k ∧ (ps.take k).all ptIn = true ∧ Below w.heap.size w wr) (fun i _ => ps.length - (intOf i).toNat)
  case atStart => exact ⟨0, Nat.zero_le _, rfl, rfl, Below.refl _ _⟩
  case round =>
    obtain ⟨k, hk, rfl, hall, hb⟩ := hrel
    have HB0 := Lib.hid hb
    have hk0 : (0 : Int) ≤ (k : Int) := by omega
    by_cases hlk : k < ps.length
    · obtain ⟨⟨pa, pb⟩, hx⟩ : ∃ x, ps[k]? = some x := ⟨_, List.getElem?_eq_getElem hlk⟩
      obtain ⟨b, o, rfl, hB, c0, c1⟩ := (HP.out.below hb) k _ hx
      simp only at c0 c1
      have hk1 : (k : Int) < (ps.length : Int) := by omega
      have HTK := Lib.hid (ptIn_take hx)
      have HFA : Hid (ptIn (pa, pb) = false → an = false) := fun h => HFALSE.out (ptIn_false hx h)
      rw [hall, Bool.true_and] at HTK
      clear hx hall hb
      cases h1 : inB pa 0 20
      · have HF : Hid (an = false) := HFA.out (by unfold ptIn; rw [h1]; rfl)
        have H1 := Lib.hid h1
        clear h1 HTK HFA
        go_wp2_with fail
        refine (l1In_any _ _ _ _).mono ?_; rintro e w1 ⟨rfl, rfl⟩; rw [H1.out]
        go_wp2_with fail
        go_ret
        exact ⟨ret_bool HF.out.symm, HB0.out⟩
      · have H1 := Lib.hid h1
        cases h2 : inB pb 0 20
        · have HF : Hid (an = false) := HFA.out (by unfold ptIn; rw [h1, h2]; rfl)
          have H2 := Lib.hid h2
          clear h1 h2 HTK HFA
          go_wp2_with fail
          refine (l1In_any _ _ _ _).mono ?_; rintro e w1 ⟨rfl, rfl⟩; rw [H1.out]
          go_wp2_with fail
          refine (l1In_any _ _ _ _).mono ?_; rintro e w1 ⟨rfl, rfl⟩; rw [H2.out]
          go_wp2_with fail
          go_ret
          exact ⟨ret_bool HF.out.symm, HB0.out⟩
        · have HT2 : Hid ((ps.take (k + 1)).all ptIn = true) := by show _ = _; rw [HTK.out]; unfold ptIn; rw [h1, h2]; rfl
          have H2 := Lib.hid h2
          clear h1 h2 HTK HFA
          go_wp2_with fail
          refine (l1In_any _ _ _ _).mono ?_; rintro e w1 ⟨rfl, rfl⟩; rw [H1.out]
          go_wp2_with fail
          refine (l1In_any _ _ _ _).mono ?_; rintro e w1 ⟨rfl, rfl⟩; rw [H2.out]
          go_wp2_with fail
          go_roundw
          case rel => exact ⟨k + 1, by omega, by go_num, HT2.out, HB0.out⟩
          case measure => (simp [intOf]) <;> omega
    · obtain rfl : k = ps.length := by omega
      rw [List.take_length] at hall
      have HAN := Lib.hid (HTRUE.out hall)
      clear hall hb
      go_wp2_with fail
      refine (l1In_any _ _ _ _).mono ?_; rintro e w1 ⟨rfl, rfl⟩; rw [← HAN.out]
      go_wp2_with fail
      go_ret
      exact ⟨rfl, HB0.out⟩
set_option maxHeartbeats 1000000 in
theorem l10Far_any (p q : Int × Int) (hp : 0 ≤ p.1 ∧ p.1 ≤ 20 ∧ 0 ≤ p.2 ∧ p.2 ≤ 20) (hq : 0 ≤ q.1 ∧ q.1 ≤ 20 ∧ 0 ≤ q.2 ∧ q.2 ≤ 20) (w : World) :
    Calls Try.prog 42 #[.agg #[.int .i64 p.1, .int .i64 p.2], .agg #[.int .i64 q.1, .int .i64 q.2]] w fun e w' => e = .returned (.int .i64 (apart p q)) ∧ Below w.heap.size w w' := by
  obtain ⟨p1, p2⟩ := p
  obtain ⟨q1, q2⟩ := q
  simp only at hp hq ⊢
  obtain ⟨X, hX⟩ : ∃ X, max (p1 - q1) (q1 - p1) = X := ⟨_, rfl⟩
  obtain ⟨Y, hY⟩ : ∃ Y, max (p2 - q2) (q2 - p2) = Y := ⟨_, rfl⟩
  have HAP : Hid (apart (p1, p2) (q1, q2) = X + Y) := by show _ = _; unfold apart; simp only; rw [hX, hY]
  have HX := Lib.hid (And.intro hX (maxforms hX))
  have HY := Lib.hid (And.intro hY (maxforms hY))
  have H1 : Hid (IntKind.i64.wrap (p1 - q1) = p1 - q1 ∧ wrap64 (p1 - q1) = p1 - q1) := ⟨IntWalk.i64_in _ ⟨by omega, by omega⟩, IntWalk.wrap64_in _ ⟨by omega, by omega⟩⟩
  have H2 : Hid (IntKind.i64.wrap (q1 - p1) = q1 - p1 ∧ wrap64 (q1 - p1) = q1 - p1) := ⟨IntWalk.i64_in _ ⟨by omega, by omega⟩, IntWalk.wrap64_in _ ⟨by omega, by omega⟩⟩
  have H3 : Hid (IntKind.i64.wrap (p2 - q2) = p2 - q2 ∧ wrap64 (p2 - q2) = p2 - q2) := ⟨IntWalk.i64_in _ ⟨by omega, by omega⟩, IntWalk.wrap64_in _ ⟨by omega, by omega⟩⟩
  have H4 : Hid (IntKind.i64.wrap (q2 - p2) = q2 - p2 ∧ wrap64 (q2 - p2) = q2 - p2) := ⟨IntWalk.i64_in _ ⟨by omega, by omega⟩, IntWalk.wrap64_in _ ⟨by omega, by omega⟩⟩
  have H5 : Hid (IntKind.i64.wrap (X + Y) = X + Y ∧ wrap64 (X + Y) = X + Y) := ⟨IntWalk.i64_in _ ⟨by omega, by omega⟩, IntWalk.wrap64_in _ ⟨by omega, by omega⟩⟩
  rw [HAP.out]
  clear hX hY hp hq
  obtain ⟨x0, x1, x2, x3, x4⟩ := HX.out
  obtain ⟨y0, y1, y2, y3, y4⟩ := HY.out
  obtain ⟨a1, a2⟩ := H1.out
  obtain ⟨b1, b2⟩ := H2.out
  obtain ⟨c1, c2⟩ := H3.out
  obtain ⟨d1, d2⟩ := H4.out
  obtain ⟨e1, e2⟩ := H5.out
  go_enter Try.func42, Try.ntmps42
  go_wp2_with fail
  go_ret
  clear x0 x1 x2 x3 x4 y0 y1 y2 y3 y4 a1 a2 b1 b2 c1 c2 d1 d2 e1 e2
  exact ⟨rfl, ((Below.refl _ _).alloc (Nat.le_refl _) _).alloc (by simp) _⟩
set_option maxRecDepth 100000 in
set_option maxHeartbeats 2000000 in
theorem sPointsFar_any (a b' : Int) (Ap : Option Addr) (cp : Nat) (ps : List (Int × Int)) (w : World) (hp : RC w w.heap.size Ap ps) (hpm : ps.length ≤ 1073741824) :
    Calls Try.prog 19 #[.slice Ap ps.length cp, .int .i64 a, .int .i64 b'] w fun e w' => e = .returned (.int .i64 (pointsFar ps a b')) ∧ Below w.heap.size w w' := by
  have HP := Lib.hid hp
  clear hp
  unfold pointsFar
  cases hok : pointsOk ps
  · have HOK := Lib.hid hok
    rw [Bool.false_and, if_neg (by simp)]
    clear hok
    go_enter Try.func19, Try.ntmps19
    go_wp2_with fail
    refine (sPointsOk_any _ _ _ _ HP.out hpm).mono ?_; rintro e w1 ⟨rfl, hb1⟩
    rw [HOK.out]
    obtain ⟨hc1, hf1⟩ := bcell hb1
    have HK1 := Lib.hid hb1
    have HB1 := Lib.hid (bstep (B := w.heap.size) (W := w) (by (try have hp := HB0.out); go_grown) (by go_size) hb1); clear hb1
    go_wp2_with fail
    go_ret
    exact ⟨rfl, HB1.out⟩
  · have HOK := Lib.hid hok
    obtain ⟨hl1, hl6, hin⟩ := pointsOk_t hok
    have HIN := Lib.hid hin
    rw [Bool.true_and]
    have HW1 : Hid (IntKind.i64.wrap ((ps.length : Int) - 1) = (ps.length : Int) - 1) := IntWalk.i64_in _ ⟨by omega, by omega⟩
    have HW2 : Hid (wrap64 ((ps.length : Int) - 1) = (ps.length : Int) - 1) := IntWalk.wrap64_in _ ⟨by omega, by omega⟩
    clear hok hin
    cases ha : inB a 0 ((ps.length : Int) - 1)
    · have HA := Lib.hid ha
      rw [Bool.false_and, if_neg (by simp)]
      clear ha
      go_enter Try.func19, Try.ntmps19
      go_wp2_with fail
      refine (sPointsOk_any _ _ _ _ HP.out hpm).mono ?_; rintro e w1 ⟨rfl, hb1⟩
      rw [HOK.out]
      obtain ⟨hc1, hf1⟩ := bcell hb1
      have HK1 := Lib.hid hb1
      have HB1 := Lib.hid (bstep (B := w.heap.size) (W := w) (by (try have hp := HB0.out); go_grown) (by go_size) hb1); clear hb1
      have hw1 := HW1.out
      have hw2 := HW2.out
      go_wp2_with fail
      refine (l1In_any _ _ _ _).mono ?_; rintro e w2 ⟨rfl, rfl⟩; rw [HA.out]
      go_wp2_with fail
      go_ret
      exact ⟨rfl, HB1.out⟩
    · have HA := Lib.hid ha
      obtain ⟨a0, a1⟩ := inB_t ha
      rw [Bool.true_and]
      clear ha
      cases hb : inB b' 0 ((ps.length : Int) - 1)
      · have HBB := Lib.hid hb
        rw [if_neg (by simp)]
        clear hb
        go_enter Try.func19, Try.ntmps19
        go_wp2_with fail
        refine (sPointsOk_any _ _ _ _ HP.out hpm).mono ?_; rintro e w1 ⟨rfl, hb1⟩
        rw [HOK.out]
        obtain ⟨hc1, hf1⟩ := bcell hb1
        have HK1 := Lib.hid hb1
        have HB1 := Lib.hid (bstep (B := w.heap.size) (W := w) (by (try have hp := HB0.out); go_grown) (by go_size) hb1); clear hb1
        have hw1 := HW1.out
        have hw2 := HW2.out
        go_wp2_with fail
        refine (l1In_any _ _ _ _).mono ?_; rintro e w2 ⟨rfl, rfl⟩; rw [HA.out]
        go_wp2_with fail
        refine (l1In_any _ _ _ _).mono ?_; rintro e w2 ⟨rfl, rfl⟩; rw [HBB.out]
        go_wp2_with fail
        go_ret
        exact ⟨rfl, HB1.out⟩
      · have HBB := Lib.hid hb
        obtain ⟨b0, b1⟩ := inB_t hb
        rw [if_pos rfl]
        clear hb
        obtain ⟨ka, rfl⟩ : ∃ k : Nat, a = k := ⟨a.toNat, by omega⟩
        obtain ⟨kb, rfl⟩ : ∃ k : Nat, b' = k := ⟨b'.toNat, by omega⟩
        rw [Int.toNat_natCast, Int.toNat_natCast]
        have hpp := HIN.out _ (ptAt_mem (ps := ps) (k := ka) (by omega))
        have hqq := HIN.out _ (ptAt_mem (ps := ps) (k := kb) (by omega))
        have ka1 : (ka : Int) < (ps.length : Int) := by omega
        have kb1 : (kb : Int) < (ps.length : Int) := by omega
        have kal : ka < ps.length := by omega
        have kbl : kb < ps.length := by omega
        go_enter Try.func19, Try.ntmps19
        go_wp2_with fail
        refine (sPointsOk_any _ _ _ _ HP.out hpm).mono ?_; rintro e w1 ⟨rfl, hb1⟩
        rw [HOK.out]
        obtain ⟨hc1, hf1⟩ := bcell hb1
        have HK1 := Lib.hid hb1
        have HB1 := Lib.hid (bstep (B := w.heap.size) (W := w) (by (try have hp := HB0.out); go_grown) (by go_size) hb1); clear hb1
        obtain ⟨b, o, rfl, hbw, c0, c1⟩ := (HP.out.later HB1.out).at2 kal
        obtain ⟨bb, oo, e9, -, d0, d1⟩ := (HP.out.later HB1.out).at2 kbl
        injection e9 with e9; injection e9 with e91 e92; subst e91; subst e92
        obtain ⟨⟨pa, pb⟩, hP⟩ : ∃ x, ptAt ps ka = x := ⟨_, rfl⟩
        obtain ⟨⟨qa, qb⟩, hQ⟩ : ∃ x, ptAt ps kb = x := ⟨_, rfl⟩
        rw [hP] at c0 c1 hpp
        rw [hQ] at d0 d1 hqq
        have HPE := Lib.hid hP
        have HQE := Lib.hid hQ
        simp only at c0 c1 d0 d1
        have hw1 := HW1.out
        have hw2 := HW2.out
        clear hP hQ hc1 hf1
        go_wp2_with fail
        refine (l1In_any _ _ _ _).mono ?_; rintro e w2 ⟨rfl, rfl⟩; rw [HA.out]
        go_wp2_with fail
        refine (l1In_any _ _ _ _).mono ?_; rintro e w2 ⟨rfl, rfl⟩; rw [HBB.out]
        go_wp2_with fail
        refine wp_region_held_drew (S := (fun w' => w'.cell? ⟨b, o + ka * 2, none⟩ = some (.int .i64 pa) ∧ w'.cell? ⟨b, o + ka * 2 + 1, none⟩ = some (.int .i64 pb) ∧ w'.cell? ⟨b, o + kb * 2, none⟩ = some (.int .i64 qa) ∧ w'.cell? ⟨b, o + kb * 2 + 1, none⟩ = some (.int .i64 qb))) (by kernel_rfl) ?_ (fun hHeld => ?_)
        · exact ⟨c0, c1, d0, d1⟩
        refine wpAnyH_take (i := 0) (v := ?_) rfl (by kernel_rfl) (by kernel_rfl) (by kernel_rfl) (fun _ _ _ h => h) (Or.inl ⟨by rfl, ?_⟩) (by assumption) ?_
        rotate_left
        · (intro w hSw; (try dsimp only at hSw); (try simp only [List.getElem_toArray, List.getElem_cons_succ, List.getElem_cons_zero]); first | (go_simp; done) | (go_simp; with_reducible rfl))
        try simp only [Act.put, List.getElem_toArray, List.getElem_cons_succ, List.getElem_cons_zero, List.setIfInBounds_toArray, List.set_cons_zero, List.set_cons_succ]
        refine wpAnyH_take (i := 1) (v := ?_) rfl (by kernel_rfl) (by kernel_rfl) (by kernel_rfl) (fun _ _ _ h => h) (Or.inl ⟨by rfl, ?_⟩) (by assumption) ?_
        rotate_left
        · (intro w hSw; (try dsimp only at hSw); (try simp only [List.getElem_toArray, List.getElem_cons_succ, List.getElem_cons_zero]); first | (go_simp; done) | (go_simp; with_reducible rfl))
        try simp only [Act.put, List.getElem_toArray, List.getElem_cons_succ, List.getElem_cons_zero, List.setIfInBounds_toArray, List.set_cons_zero, List.set_cons_succ]
        refine wpAnyH_take (i := 2) (v := ?_) rfl (by kernel_rfl) (by kernel_rfl) (by kernel_rfl) (fun _ _ _ h => h) (Or.inl ⟨by rfl, ?_⟩) (by assumption) ?_
        rotate_left
        · (intro w hSw; (try dsimp only at hSw); (try simp only [List.getElem_toArray, List.getElem_cons_succ, List.getElem_cons_zero]); first | (go_simp; done) | (go_simp; with_reducible rfl))
        try simp only [Act.put, List.getElem_toArray, List.getElem_cons_succ, List.getElem_cons_zero, List.setIfInBounds_toArray, List.set_cons_zero, List.set_cons_succ]
        refine wpAnyH_take (i := 3) (v := ?_) rfl (by kernel_rfl) (by kernel_rfl) (by kernel_rfl) (fun _ _ _ h => h) (Or.inl ⟨by rfl, ?_⟩) (by assumption) ?_
        rotate_left
        · (intro w hSw; (try dsimp only at hSw); (try simp only [List.getElem_toArray, List.getElem_cons_succ, List.getElem_cons_zero]); first | (go_simp; done) | (go_simp; with_reducible rfl))
        try simp only [Act.put, List.getElem_toArray, List.getElem_cons_succ, List.getElem_cons_zero, List.setIfInBounds_toArray, List.set_cons_zero, List.set_cons_succ]
        refine wpAnyH_take (i := 4) (v := ?_) rfl (by kernel_rfl) (by kernel_rfl) (by kernel_rfl) (fun _ _ _ h => h) (Or.inl ⟨by rfl, ?_⟩) (by assumption) ?_
        rotate_left
        · (intro w hSw; (try dsimp only at hSw); (try simp only [List.getElem_toArray, List.getElem_cons_succ, List.getElem_cons_zero]); first | (go_simp; done) | (go_simp; with_reducible rfl))
        try simp only [Act.put, List.getElem_toArray, List.getElem_cons_succ, List.getElem_cons_zero, List.setIfInBounds_toArray, List.set_cons_zero, List.set_cons_succ]
        refine wpAnyH_take (i := 5) (v := ?_) rfl (by kernel_rfl) (by kernel_rfl) (by kernel_rfl) (fun _ _ _ h => h) (Or.inl ⟨by rfl, ?_⟩) (by assumption) ?_
        rotate_left
        · (intro w hSw; (try dsimp only at hSw); (try simp only [List.getElem_toArray, List.getElem_cons_succ, List.getElem_cons_zero]); first | (go_simp; done) | (go_simp; with_reducible rfl))
        try simp only [Act.put, List.getElem_toArray, List.getElem_cons_succ, List.getElem_cons_zero, List.setIfInBounds_toArray, List.set_cons_zero, List.set_cons_succ]
        refine wpAnyH_take (i := 6) (v := ?_) rfl (by kernel_rfl) (by kernel_rfl) (by kernel_rfl) (fun _ _ _ h => h) (Or.inl ⟨by rfl, ?_⟩) (by assumption) ?_
        rotate_left
        · (intro w hSw; (try dsimp only at hSw); (try simp only [List.getElem_toArray, List.getElem_cons_succ, List.getElem_cons_zero]); first | (go_simp; done) | (go_simp; with_reducible rfl))
        try simp only [Act.put, List.getElem_toArray, List.getElem_cons_succ, List.getElem_cons_zero, List.setIfInBounds_toArray, List.set_cons_zero, List.set_cons_succ]
        refine wpAnyH_take (i := 7) (v := ?_) rfl (by kernel_rfl) (by kernel_rfl) (by kernel_rfl) (fun _ _ _ h => h) (Or.inl ⟨by rfl, ?_⟩) (by assumption) ?_
        rotate_left
        · (intro w hSw; (try dsimp only at hSw); (try simp only [List.getElem_toArray, List.getElem_cons_succ, List.getElem_cons_zero]); first | (go_simp; done) | (go_simp; with_reducible rfl))
        try simp only [Act.put, List.getElem_toArray, List.getElem_cons_succ, List.getElem_cons_zero, List.setIfInBounds_toArray, List.set_cons_zero, List.set_cons_succ]
        refine wpAnyH_ready (rs := [8]) (by kernel_rfl) (by simp) ?_
        refine AllReadyH.cons rfl (fun K hK => ?_) AllReadyH.nil
        try simp only [List.getElem_toArray, List.getElem_cons_succ, List.getElem_cons_zero]
        go_simp
        go_at_call 42; refine (l10Far_any (pa, pb) (qa, qb) hpp hqq _).mono ?_; rintro e8 w8 ⟨rfl, hb8⟩; have g8 : Below w1.heap.size w1 w8 := und hb8
        refine hK.out _ _ ?_ (fun hHeld => ?_)
        · exact ⟨(g8.cell (p := ⟨b, o + ka * 2, none⟩) hbw).trans c0, (g8.cell (p := ⟨b, o + ka * 2 + 1, none⟩) hbw).trans c1, (g8.cell (p := ⟨b, o + kb * 2, none⟩) hbw).trans d0, (g8.cell (p := ⟨b, o + kb * 2 + 1, none⟩) hbw).trans d1⟩
        clear hK K
        try simp only [Act.put, List.getElem_toArray, List.getElem_cons_succ, List.getElem_cons_zero, List.setIfInBounds_toArray, List.set_cons_zero, List.set_cons_succ]
        refine wpAnyH_take (i := 9) (v := ?_) rfl (by kernel_rfl) (by kernel_rfl) (by kernel_rfl) (fun _ _ _ h => h) (Or.inl ⟨by rfl, ?_⟩) (by assumption) ?_
        rotate_left
        · (intro w hSw; (try dsimp only at hSw); (try simp only [List.getElem_toArray, List.getElem_cons_succ, List.getElem_cons_zero]); first | (go_simp; done) | (go_simp; with_reducible rfl))
        try simp only [Act.put, List.getElem_toArray, List.getElem_cons_succ, List.getElem_cons_zero, List.setIfInBounds_toArray, List.set_cons_zero, List.set_cons_succ]
        refine wpAnyH_done (by kernel_rfl) ?_ _
        have HB9 := Lib.hid (bstep (B := w.heap.size) (W := w) HB1.out HB1.out.size g8)
        go_wp2_with fail
        go_ret
        exact ⟨ret_int (by rw [HPE.out, HQE.out]), ⟨HB9.out.os, HB9.out.tape, HB9.out.output, HB9.out.size, HB9.out.block⟩⟩
set_option maxRecDepth 100000 in
set_option maxHeartbeats 4000000 in
theorem sHalfRound_any (Ap : Option Addr) (cp : Nat) (ps : List (Int × Int)) (w : World) (hp : RC w w.heap.size Ap ps) (hpm : ps.length ≤ 1073741824) :
    Calls Try.prog 23 #[.slice Ap ps.length cp] w fun e w' => e = .returned (.int .i64 (halfRound ps)) ∧ Below w.heap.size w w' := by
  have HP := Lib.hid hp
  clear hp
  unfold halfRound
  cases hok : pointsOk ps
  · have HOK := Lib.hid hok
    rw [if_neg (by simp)]
    clear hok
    go_enter Try.func23, Try.ntmps23
    go_wp2_with fail
    refine (sPointsOk_any _ _ _ _ HP.out hpm).mono ?_; rintro e w1 ⟨rfl, hb1⟩
    rw [HOK.out]
    obtain ⟨hc1, hf1⟩ := bcell hb1
    have HK1 := Lib.hid hb1
    have HB1 := Lib.hid (bstep (B := w.heap.size) (W := w) (by (try have hp := HB0.out); go_grown) (by go_size) hb1); clear hb1
    go_wp2_with fail
    go_ret
    exact ⟨rfl, HB1.out⟩
  · have HOK := Lib.hid hok
    obtain ⟨hl1, hl6, hin⟩ := pointsOk_t hok
    obtain ⟨Ba, Bb, Bc, Bd, BX, BL, BH, BE⟩ := box_is (ps := ps) (by omega)
    have HLO : Hid (lowP ps ps = (Ba, Bc)) := BL
    have HHI : Hid (highP ps ps = (Bb, Bd)) := BH
    have hlw : 0 ≤ Ba ∧ Ba ≤ 20 ∧ 0 ≤ Bc ∧ Bc ≤ 20 := by
      obtain ⟨x, hx, e1⟩ := BX.is1
      obtain ⟨y, hy, e2⟩ := BX.is2
      have := hin x hx; have := hin y hy
      omega
    have hhw : 0 ≤ Bb ∧ Bb ≤ 20 ∧ 0 ≤ Bd ∧ Bd ≤ 20 := by
      obtain ⟨x, hx, e1⟩ := BX.js1
      obtain ⟨y, hy, e2⟩ := BX.js2
      have := hin x hx; have := hin y hy
      omega
    rw [if_pos rfl]
    unfold boxOf
    clear hok hin BX BL BH BE
    have hlz : 0 < ps.length := by omega
    have hlz2 : (0 : Int) < (ps.length : Int) := by omega
    go_enter Try.func23, Try.ntmps23
    go_wp2_with fail
    refine (sPointsOk_any _ _ _ _ HP.out hpm).mono ?_; rintro e w1 ⟨rfl, hb1⟩
    rw [HOK.out]
    obtain ⟨hc1, hf1⟩ := bcell hb1
    have HK1 := Lib.hid hb1
    have HB1 := Lib.hid (bstep (B := w.heap.size) (W := w) (by (try have hp := HB0.out); go_grown) (by go_size) hb1); clear hb1
    obtain ⟨b, o, rfl, hbw, c0, c1⟩ := (HP.out.later HB1.out).at2 hlz
    obtain ⟨⟨xa, xb⟩, hX⟩ : ∃ x, ptAt ps 0 = x := ⟨_, rfl⟩
    have HX := Lib.hid hX
    rw [hX] at c0 c1
    simp only [Nat.zero_mul, Nat.add_zero] at c0 c1
    have e0 : (w1.alloc (.cells #[.int .i64 xa, .int .i64 xb] 27)).cell? ⟨b, o, none⟩ = some (.int .i64 xa) := (World.cell?_alloc_lt _ _ _ hbw).trans c0
    have e1 : (w1.alloc (.cells #[.int .i64 xa, .int .i64 xb] 27)).cell? ⟨b, o + 1, none⟩ = some (.int .i64 xb) := (World.cell?_alloc_lt _ _ _ hbw).trans c1
    have HB3 := Lib.hid ((HB1.out.alloc HB1.out.size (.cells #[.int .i64 xa, .int .i64 xb] 27)).alloc (by have := HB1.out.size; simp; omega) (.cells #[.int .i64 xa, .int .i64 xb] 27))
    have hz1 := HB1.out.size
    clear hX hc1 hf1
    go_wp2_with fail
    go_loopw [5] (fun i wr => ∃ k : Nat, k ≤ ps.length ∧ i = .int .i64 k ∧ wr.heap[w1.heap.size]? = some (.cells #[.int .i64 (mnTo Prod.fst xa (ps.take k)), .int .i64 (mnTo Prod.snd xb (ps.take k))] 27 (0, 0)) ∧ wr.heap[w1.heap.size + 1]? = some (.cells #[.int .i64 (mxTo Prod.fst xa (ps.take k)), .int .i64 (mxTo Prod.snd xb (ps.take k))] 27 (0, 0)) ∧ Below w1.heap.size w1 wr) (fun i _ => ps.length - (intOf i).toNat)
    case atStart => exact ⟨0, Nat.zero_le _, rfl, (Below.heap_alloc _ _ _ (by simp)).trans (heap_alloc_new _ _), by have h9 := heap_alloc_new (w1.alloc (.cells #[.int .i64 xa, .int .i64 xb] 27)) (.cells #[.int .i64 xa, .int .i64 xb] 27); rw [World.size_alloc] at h9; exact h9, ((Below.refl _ _).alloc (Nat.le_refl _) _).alloc (by simp) _⟩
    case round =>
      clear c0 c1 e0 e1 HB3
      obtain ⟨k, hk, rfl, hlo, hhi, hbl⟩ := hrel
      have HBL := Lib.hid hbl
      have l0 := cell_of_row _ _ 0 _ _ (0, 0) hlo
      have l1 := cell_of_row _ _ 1 _ _ (0, 0) hlo
      have lf0 : wr.frozen? ⟨w1.heap.size, 0, none⟩ = false := by simp [World.frozen?, hlo]
      have lf1 : wr.frozen? ⟨w1.heap.size, 1, none⟩ = false := by simp [World.frozen?, hlo]
      have h0 := cell_of_row _ _ 0 _ _ (0, 0) hhi
      have h1 := cell_of_row _ _ 1 _ _ (0, 0) hhi
      have hf0 : wr.frozen? ⟨w1.heap.size + 1, 0, none⟩ = false := by simp [World.frozen?, hhi]
      have hf1 : wr.frozen? ⟨w1.heap.size + 1, 1, none⟩ = false := by simp [World.frozen?, hhi]
      have hzw : w1.heap.size + 1 < wr.heap.size := (Array.getElem?_eq_some_iff.1 hhi).1
      have HLOB := Lib.hid hlo
      have HHIB := Lib.hid hhi
      clear hbl hlo hhi
      have k0 : (0 : Int) ≤ (k : Int) := by omega
      by_cases hlk : k < ps.length
      · obtain ⟨⟨pa, pb⟩, hx⟩ : ∃ x, ps[k]? = some x := ⟨_, List.getElem?_eq_getElem hlk⟩
        obtain ⟨bb, oo, e9, hbw2, c0, c1⟩ := (HP.out.later HB1.out) k _ hx
        injection e9 with e9; injection e9 with e91 e92; subst e91; subst e92
        replace c0 := (HBL.out.cell (p := ⟨b, o + k * 2, none⟩) hbw).trans c0
        replace c1 := (HBL.out.cell (p := ⟨b, o + k * 2 + 1, none⟩) hbw).trans c1
        simp only at c0 c1
        have k1 : (k : Int) < (ps.length : Int) := by omega
        have M1 := Lib.hid (mnTo_take (f := Prod.fst) (x := xa) hx)
        have M2 := Lib.hid (mnTo_take (f := Prod.snd) (x := xb) hx)
        have M3 := Lib.hid (mxTo_take (f := Prod.fst) (x := xa) hx)
        have M4 := Lib.hid (mxTo_take (f := Prod.snd) (x := xb) hx)
        simp only at M1 M2 M3 M4
        obtain ⟨la, hla⟩ : ∃ x, mnTo Prod.fst xa (ps.take k) = x := ⟨_, rfl⟩
        obtain ⟨lb, hlb⟩ : ∃ x, mnTo Prod.snd xb (ps.take k) = x := ⟨_, rfl⟩
        obtain ⟨ha, hha⟩ : ∃ x, mxTo Prod.fst xa (ps.take k) = x := ⟨_, rfl⟩
        obtain ⟨hb, hhb⟩ : ∃ x, mxTo Prod.snd xb (ps.take k) = x := ⟨_, rfl⟩
        rw [hla] at l0 M1 HLOB
        rw [hlb] at l1 M2 HLOB
        rw [hha] at h0 M3 HHIB
        rw [hhb] at h1 M4 HHIB
        obtain ⟨A1, hA1⟩ : ∃ x, min la pa = x := ⟨_, rfl⟩
        obtain ⟨A2, hA2⟩ : ∃ x, min lb pb = x := ⟨_, rfl⟩
        obtain ⟨A3, hA3⟩ : ∃ x, max ha pa = x := ⟨_, rfl⟩
        obtain ⟨A4, hA4⟩ : ∃ x, max hb pb = x := ⟨_, rfl⟩
        rw [hA1] at M1
        rw [hA2] at M2
        rw [hA3] at M3
        rw [hA4] at M4
        have X1 := minforms hA1
        have X2 := minforms hA2
        have X3 := maxforms hA3
        have X4 := maxforms hA4
        obtain ⟨m11, m12, m13, m14⟩ := X1
        obtain ⟨m21, m22, m23, m24⟩ := X2
        obtain ⟨m31, m32, m33, m34⟩ := X3
        obtain ⟨m41, m42, m43, m44⟩ := X4
        have hbn1 : b ≠ w1.heap.size := by omega
        have hbn2 : b ≠ w1.heap.size + 1 := by omega
        have hnn : w1.heap.size + 1 ≠ w1.heap.size := by omega
        have W1 : Hid (∀ W : World, W.heap[w1.heap.size]? = some (.cells #[.int .i64 la, .int .i64 lb] 27 (0, 0)) → True) := fun _ _ => trivial
        obtain ⟨wA, hwA⟩ : ∃ wA, ((wr.setCell ⟨w1.heap.size, 0, none⟩ (.int .i64 A1)).setCell ⟨w1.heap.size, 1, none⟩ (.int .i64 A2)).drew = wA := ⟨_, rfl⟩
        have hblkA : ∀ i, i ≠ w1.heap.size → wA.heap[i]? = wr.heap[i]? := fun i hi => by rw [← hwA]; exact (Below.heap_setCell _ _ _ _ (by simpa using hi)).trans (Below.heap_setCell _ _ _ _ (by simpa using hi))
        have hloA : wA.heap[w1.heap.size]? = some (.cells #[.int .i64 A1, .int .i64 A2] 27 (0, 0)) := by rw [← hwA]; exact two_block (w := wr) HLOB.out
        have hhiA : wA.heap[w1.heap.size + 1]? = some (.cells #[.int .i64 ha, .int .i64 hb] 27 (0, 0)) := (hblkA _ hnn).trans HHIB.out
        have hszA : wA.heap.size = wr.heap.size := by rw [← hwA]; simp [World.setCell]
        have c0' := (World.cell?_of_block (w := wr) (hblkA b hbn1)).trans c0
        have c1' := (World.cell?_of_block (w := wr) (hblkA b hbn1)).trans c1
        have h0A := cell_of_row _ _ 0 _ _ (0, 0) hhiA
        have h1A := cell_of_row _ _ 1 _ _ (0, 0) hhiA
        have hf0A : wA.frozen? ⟨w1.heap.size + 1, 0, none⟩ = false := by simp [World.frozen?, hhiA]
        have hf1A : wA.frozen? ⟨w1.heap.size + 1, 1, none⟩ = false := by simp [World.frozen?, hhiA]
        have HBA : Hid (Below w1.heap.size w1 wA) := by
          rw [← hwA]
          exact ((HBL.out.setCell (p := ⟨w1.heap.size, 0, none⟩) (Nat.le_refl _) _).setCell (p := ⟨w1.heap.size, 1, none⟩) (Nat.le_refl _) _).drew
        have HWA := Lib.hid hwA
        have HLA := Lib.hid hloA
        have HHA := Lib.hid hhiA
        have HBK := Lib.hid hblkA
        clear hx hla hlb hha hhb hA1 hA2 hA3 hA4 hwA hloA hhiA hblkA h0 h1 hf0 hf1
        go_wp2_with fail
        refine AnyZ.region (S := (fun w' => w'.cell? ⟨w1.heap.size, 0, none⟩ = some (.int .i64 la) ∧ w'.cell? ⟨w1.heap.size, 1, none⟩ = some (.int .i64 lb) ∧ w'.cell? ⟨b, o + k * 2, none⟩ = some (.int .i64 pa) ∧ w'.cell? ⟨b, o + k * 2 + 1, none⟩ = some (.int .i64 pb))) (z := 17) (by kernel_rfl) ?_ (fun hHeld => ?_)
        · exact ⟨l0, l1, c0, c1⟩
        refine AnyZ.take (i := 0) (oi := ⟨_, _, _, _, _, _⟩) (v := ?_) rfl (by kernel_rfl) (by kernel_rfl) (by kernel_rfl) (by kernel_rfl) (fun _ _ _ h => h) (Or.inl ⟨by rfl, ?_⟩) (by assumption) ?_
        rotate_left
        · (intro w hSw; (try dsimp only at hSw); (try simp only [List.getElem_toArray, List.getElem_cons_succ, List.getElem_cons_zero]); first | (go_simp; done) | (go_simp; with_reducible rfl))
        try simp only [Act.put, List.getElem_toArray, List.getElem_cons_succ, List.getElem_cons_zero, List.setIfInBounds_toArray, List.set_cons_zero, List.set_cons_succ]
        refine AnyZ.take (i := 1) (oi := ⟨_, _, _, _, _, _⟩) (v := ?_) rfl (by kernel_rfl) (by kernel_rfl) (by kernel_rfl) (by kernel_rfl) (fun _ _ _ h => h) (Or.inl ⟨by rfl, ?_⟩) (by assumption) ?_
        rotate_left
        · (intro w hSw; (try dsimp only at hSw); (try simp only [List.getElem_toArray, List.getElem_cons_succ, List.getElem_cons_zero]); first | (go_simp; done) | (go_simp; with_reducible rfl))
        try simp only [Act.put, List.getElem_toArray, List.getElem_cons_succ, List.getElem_cons_zero, List.setIfInBounds_toArray, List.set_cons_zero, List.set_cons_succ]
        refine AnyZ.take (i := 2) (oi := ⟨_, _, _, _, _, _⟩) (v := ?_) rfl (by kernel_rfl) (by kernel_rfl) (by kernel_rfl) (by kernel_rfl) (fun _ _ _ h => h) (Or.inl ⟨by rfl, ?_⟩) (by assumption) ?_
        rotate_left
        · (intro w hSw; (try dsimp only at hSw); (try simp only [List.getElem_toArray, List.getElem_cons_succ, List.getElem_cons_zero]); first | (go_simp; done) | (go_simp; with_reducible rfl))
        try simp only [Act.put, List.getElem_toArray, List.getElem_cons_succ, List.getElem_cons_zero, List.setIfInBounds_toArray, List.set_cons_zero, List.set_cons_succ]
        refine AnyZ.take (i := 3) (oi := ⟨_, _, _, _, _, _⟩) (v := ?_) rfl (by kernel_rfl) (by kernel_rfl) (by kernel_rfl) (by kernel_rfl) (fun _ _ _ h => h) (Or.inl ⟨by rfl, ?_⟩) (by assumption) ?_
        rotate_left
        · (intro w hSw; (try dsimp only at hSw); (try simp only [List.getElem_toArray, List.getElem_cons_succ, List.getElem_cons_zero]); first | (go_simp; done) | (go_simp; with_reducible rfl))
        try simp only [Act.put, List.getElem_toArray, List.getElem_cons_succ, List.getElem_cons_zero, List.setIfInBounds_toArray, List.set_cons_zero, List.set_cons_succ]
        refine AnyZ.take (i := 4) (oi := ⟨_, _, _, _, _, _⟩) (v := ?_) rfl (by kernel_rfl) (by kernel_rfl) (by kernel_rfl) (by kernel_rfl) (fun _ _ _ h => h) (Or.inl ⟨by rfl, ?_⟩) (by assumption) ?_
        rotate_left
        · (intro w hSw; (try dsimp only at hSw); (try simp only [List.getElem_toArray, List.getElem_cons_succ, List.getElem_cons_zero]); first | (go_simp; done) | (go_simp; with_reducible rfl))
        try simp only [Act.put, List.getElem_toArray, List.getElem_cons_succ, List.getElem_cons_zero, List.setIfInBounds_toArray, List.set_cons_zero, List.set_cons_succ]
        refine AnyZ.take (i := 5) (oi := ⟨_, _, _, _, _, _⟩) (v := ?_) rfl (by kernel_rfl) (by kernel_rfl) (by kernel_rfl) (by kernel_rfl) (fun _ _ _ h => h) (Or.inl ⟨by rfl, ?_⟩) (by assumption) ?_
        rotate_left
        · (intro w hSw; (try dsimp only at hSw); (try simp only [List.getElem_toArray, List.getElem_cons_succ, List.getElem_cons_zero]); first | (go_simp; done) | (go_simp; with_reducible rfl))
        try simp only [Act.put, List.getElem_toArray, List.getElem_cons_succ, List.getElem_cons_zero, List.setIfInBounds_toArray, List.set_cons_zero, List.set_cons_succ]
        refine AnyZ.take (i := 6) (oi := ⟨_, _, _, _, _, _⟩) (v := ?_) rfl (by kernel_rfl) (by kernel_rfl) (by kernel_rfl) (by kernel_rfl) (fun _ _ _ h => h) (Or.inl ⟨by rfl, ?_⟩) (by assumption) ?_
        rotate_left
        · (intro w hSw; (try dsimp only at hSw); (try simp only [List.getElem_toArray, List.getElem_cons_succ, List.getElem_cons_zero]); first | (go_simp; done) | (go_simp; with_reducible rfl))
        try simp only [Act.put, List.getElem_toArray, List.getElem_cons_succ, List.getElem_cons_zero, List.setIfInBounds_toArray, List.set_cons_zero, List.set_cons_succ]
        refine AnyZ.take (i := 7) (oi := ⟨_, _, _, _, _, _⟩) (v := ?_) rfl (by kernel_rfl) (by kernel_rfl) (by kernel_rfl) (by kernel_rfl) (fun _ _ _ h => h) (Or.inl ⟨by rfl, ?_⟩) (by assumption) ?_
        rotate_left
        · (intro w hSw; (try dsimp only at hSw); (try simp only [List.getElem_toArray, List.getElem_cons_succ, List.getElem_cons_zero]); first | (go_simp; done) | (go_simp; with_reducible rfl))
        try simp only [Act.put, List.getElem_toArray, List.getElem_cons_succ, List.getElem_cons_zero, List.setIfInBounds_toArray, List.set_cons_zero, List.set_cons_succ]
        refine AnyZ.take (i := 8) (oi := ⟨_, _, _, _, _, _⟩) (v := ?_) rfl (by kernel_rfl) (by kernel_rfl) (by kernel_rfl) (by kernel_rfl) (fun _ _ _ h => h) (Or.inl ⟨by rfl, ?_⟩) (by assumption) ?_
        rotate_left
        · (intro w hSw; (try dsimp only at hSw); (try simp only [List.getElem_toArray, List.getElem_cons_succ, List.getElem_cons_zero]); first | (go_simp; done) | (go_simp; with_reducible rfl))
        try simp only [Act.put, List.getElem_toArray, List.getElem_cons_succ, List.getElem_cons_zero, List.setIfInBounds_toArray, List.set_cons_zero, List.set_cons_succ]
        refine AnyZ.take (i := 9) (oi := ⟨_, _, _, _, _, _⟩) (v := ?_) rfl (by kernel_rfl) (by kernel_rfl) (by kernel_rfl) (by kernel_rfl) (fun _ _ _ h => h) (Or.inl ⟨by rfl, ?_⟩) (by assumption) ?_
        rotate_left
        · (intro w hSw; (try dsimp only at hSw); (try simp only [List.getElem_toArray, List.getElem_cons_succ, List.getElem_cons_zero]); first | (go_simp; done) | (go_simp; with_reducible rfl))
        try simp only [Act.put, List.getElem_toArray, List.getElem_cons_succ, List.getElem_cons_zero, List.setIfInBounds_toArray, List.set_cons_zero, List.set_cons_succ]
        refine AnyZ.take (i := 10) (oi := ⟨_, _, _, _, _, _⟩) (v := ?_) rfl (by kernel_rfl) (by kernel_rfl) (by kernel_rfl) (by kernel_rfl) (fun _ _ _ h => h) (Or.inl ⟨by rfl, ?_⟩) (by assumption) ?_
        rotate_left
        · (intro w hSw; (try dsimp only at hSw); (try simp only [List.getElem_toArray, List.getElem_cons_succ, List.getElem_cons_zero]); first | (go_simp; done) | (go_simp; with_reducible rfl))
        try simp only [Act.put, List.getElem_toArray, List.getElem_cons_succ, List.getElem_cons_zero, List.setIfInBounds_toArray, List.set_cons_zero, List.set_cons_succ]
        refine AnyZ.take (i := 11) (oi := ⟨_, _, _, _, _, _⟩) (v := ?_) rfl (by kernel_rfl) (by kernel_rfl) (by kernel_rfl) (by kernel_rfl) (fun _ _ _ h => h) (Or.inl ⟨by rfl, ?_⟩) (by assumption) ?_
        rotate_left
        · (intro w hSw; (try dsimp only at hSw); (try simp only [List.getElem_toArray, List.getElem_cons_succ, List.getElem_cons_zero]); first | (go_simp; done) | (go_simp; with_reducible rfl))
        try simp only [Act.put, List.getElem_toArray, List.getElem_cons_succ, List.getElem_cons_zero, List.setIfInBounds_toArray, List.set_cons_zero, List.set_cons_succ]
        refine AnyZ.take (i := 12) (oi := ⟨_, _, _, _, _, _⟩) (v := ?_) rfl (by kernel_rfl) (by kernel_rfl) (by kernel_rfl) (by kernel_rfl) (fun _ _ _ h => h) (Or.inl ⟨by rfl, ?_⟩) (by assumption) ?_
        rotate_left
        · (intro w hSw; (try dsimp only at hSw); (try simp only [List.getElem_toArray, List.getElem_cons_succ, List.getElem_cons_zero]); first | (go_simp; done) | (go_simp; with_reducible rfl))
        try simp only [Act.put, List.getElem_toArray, List.getElem_cons_succ, List.getElem_cons_zero, List.setIfInBounds_toArray, List.set_cons_zero, List.set_cons_succ]
        refine AnyZ.take (i := 13) (oi := ⟨_, _, _, _, _, _⟩) (v := ?_) rfl (by kernel_rfl) (by kernel_rfl) (by kernel_rfl) (by kernel_rfl) (fun _ _ _ h => h) (Or.inl ⟨by rfl, ?_⟩) (by assumption) ?_
        rotate_left
        · (intro w hSw; (try dsimp only at hSw); (try simp only [List.getElem_toArray, List.getElem_cons_succ, List.getElem_cons_zero]); first | (go_simp; done) | (go_simp; with_reducible rfl))
        try simp only [Act.put, List.getElem_toArray, List.getElem_cons_succ, List.getElem_cons_zero, List.setIfInBounds_toArray, List.set_cons_zero, List.set_cons_succ]
        refine AnyZ.take (i := 14) (oi := ⟨_, _, _, _, _, _⟩) (v := ?_) rfl (by kernel_rfl) (by kernel_rfl) (by kernel_rfl) (by kernel_rfl) (fun _ _ _ h => h) (Or.inl ⟨by rfl, ?_⟩) (by assumption) ?_
        rotate_left
        · (intro w hSw; (try dsimp only at hSw); (try simp only [List.getElem_toArray, List.getElem_cons_succ, List.getElem_cons_zero]); first | (go_simp; done) | (go_simp; with_reducible rfl))
        try simp only [Act.put, List.getElem_toArray, List.getElem_cons_succ, List.getElem_cons_zero, List.setIfInBounds_toArray, List.set_cons_zero, List.set_cons_succ]
        refine AnyZ.take (i := 15) (oi := ⟨_, _, _, _, _, _⟩) (v := ?_) rfl (by kernel_rfl) (by kernel_rfl) (by kernel_rfl) (by kernel_rfl) (fun _ _ _ h => h) (Or.inl ⟨by rfl, ?_⟩) (by assumption) ?_
        rotate_left
        · (intro w hSw; (try dsimp only at hSw); (try simp only [List.getElem_toArray, List.getElem_cons_succ, List.getElem_cons_zero]); first | (go_simp; done) | (go_simp; with_reducible rfl))
        try simp only [Act.put, List.getElem_toArray, List.getElem_cons_succ, List.getElem_cons_zero, List.setIfInBounds_toArray, List.set_cons_zero, List.set_cons_succ]
        refine AnyZ.take (i := 16) (oi := ⟨_, _, _, _, _, _⟩) (v := ?_) rfl (by kernel_rfl) (by kernel_rfl) (by kernel_rfl) (by kernel_rfl) (fun _ _ _ h => h) (Or.inl ⟨by rfl, ?_⟩) (by assumption) ?_
        rotate_left
        · (intro w hSw; (try dsimp only at hSw); (try simp only [List.getElem_toArray, List.getElem_cons_succ, List.getElem_cons_zero]); first | (go_simp; done) | (go_simp; with_reducible rfl))
        try simp only [Act.put, List.getElem_toArray, List.getElem_cons_succ, List.getElem_cons_zero, List.setIfInBounds_toArray, List.set_cons_zero, List.set_cons_succ]
        refine AnyZ.step (i := 17) (o := ⟨_, _, _, _, _, _⟩) (by kernel_rfl) rfl (fun K hK => ?_)
        go_simp
        refine hK.out _ _ (fun h => absurd rfl h) (fun _ => ?_)
        clear hK K
        try simp only [Act.put, List.getElem_toArray, List.getElem_cons_succ, List.getElem_cons_zero, List.setIfInBounds_toArray, List.set_cons_zero, List.set_cons_succ]
        refine AnyZ.done (by kernel_rfl) ?_ _
        rw [HWA.out]
        clear c0 c1 l0 l1 lf0 lf1
        go_wp2_with fail
        refine AnyZ.region (S := (fun w' => w'.cell? ⟨w1.heap.size + 1, 0, none⟩ = some (.int .i64 ha) ∧ w'.cell? ⟨w1.heap.size + 1, 1, none⟩ = some (.int .i64 hb) ∧ w'.cell? ⟨b, o + k * 2, none⟩ = some (.int .i64 pa) ∧ w'.cell? ⟨b, o + k * 2 + 1, none⟩ = some (.int .i64 pb))) (z := 17) (by kernel_rfl) ?_ (fun hHeld => ?_)
        · exact ⟨h0A, h1A, c0', c1'⟩
        refine AnyZ.take (i := 0) (oi := ⟨_, _, _, _, _, _⟩) (v := ?_) rfl (by kernel_rfl) (by kernel_rfl) (by kernel_rfl) (by kernel_rfl) (fun _ _ _ h => h) (Or.inl ⟨by rfl, ?_⟩) (by assumption) ?_
        rotate_left
        · (intro w hSw; (try dsimp only at hSw); (try simp only [List.getElem_toArray, List.getElem_cons_succ, List.getElem_cons_zero]); first | (go_simp; done) | (go_simp; with_reducible rfl))
        try simp only [Act.put, List.getElem_toArray, List.getElem_cons_succ, List.getElem_cons_zero, List.setIfInBounds_toArray, List.set_cons_zero, List.set_cons_succ]
        refine AnyZ.take (i := 1) (oi := ⟨_, _, _, _, _, _⟩) (v := ?_) rfl (by kernel_rfl) (by kernel_rfl) (by kernel_rfl) (by kernel_rfl) (fun _ _ _ h => h) (Or.inl ⟨by rfl, ?_⟩) (by assumption) ?_
        rotate_left
        · (intro w hSw; (try dsimp only at hSw); (try simp only [List.getElem_toArray, List.getElem_cons_succ, List.getElem_cons_zero]); first | (go_simp; done) | (go_simp; with_reducible rfl))
        try simp only [Act.put, List.getElem_toArray, List.getElem_cons_succ, List.getElem_cons_zero, List.setIfInBounds_toArray, List.set_cons_zero, List.set_cons_succ]
        refine AnyZ.take (i := 2) (oi := ⟨_, _, _, _, _, _⟩) (v := ?_) rfl (by kernel_rfl) (by kernel_rfl) (by kernel_rfl) (by kernel_rfl) (fun _ _ _ h => h) (Or.inl ⟨by rfl, ?_⟩) (by assumption) ?_
        rotate_left
        · (intro w hSw; (try dsimp only at hSw); (try simp only [List.getElem_toArray, List.getElem_cons_succ, List.getElem_cons_zero]); first | (go_simp; done) | (go_simp; with_reducible rfl))
        try simp only [Act.put, List.getElem_toArray, List.getElem_cons_succ, List.getElem_cons_zero, List.setIfInBounds_toArray, List.set_cons_zero, List.set_cons_succ]
        refine AnyZ.take (i := 3) (oi := ⟨_, _, _, _, _, _⟩) (v := ?_) rfl (by kernel_rfl) (by kernel_rfl) (by kernel_rfl) (by kernel_rfl) (fun _ _ _ h => h) (Or.inl ⟨by rfl, ?_⟩) (by assumption) ?_
        rotate_left
        · (intro w hSw; (try dsimp only at hSw); (try simp only [List.getElem_toArray, List.getElem_cons_succ, List.getElem_cons_zero]); first | (go_simp; done) | (go_simp; with_reducible rfl))
        try simp only [Act.put, List.getElem_toArray, List.getElem_cons_succ, List.getElem_cons_zero, List.setIfInBounds_toArray, List.set_cons_zero, List.set_cons_succ]
        refine AnyZ.take (i := 4) (oi := ⟨_, _, _, _, _, _⟩) (v := ?_) rfl (by kernel_rfl) (by kernel_rfl) (by kernel_rfl) (by kernel_rfl) (fun _ _ _ h => h) (Or.inl ⟨by rfl, ?_⟩) (by assumption) ?_
        rotate_left
        · (intro w hSw; (try dsimp only at hSw); (try simp only [List.getElem_toArray, List.getElem_cons_succ, List.getElem_cons_zero]); first | (go_simp; done) | (go_simp; with_reducible rfl))
        try simp only [Act.put, List.getElem_toArray, List.getElem_cons_succ, List.getElem_cons_zero, List.setIfInBounds_toArray, List.set_cons_zero, List.set_cons_succ]
        refine AnyZ.take (i := 5) (oi := ⟨_, _, _, _, _, _⟩) (v := ?_) rfl (by kernel_rfl) (by kernel_rfl) (by kernel_rfl) (by kernel_rfl) (fun _ _ _ h => h) (Or.inl ⟨by rfl, ?_⟩) (by assumption) ?_
        rotate_left
        · (intro w hSw; (try dsimp only at hSw); (try simp only [List.getElem_toArray, List.getElem_cons_succ, List.getElem_cons_zero]); first | (go_simp; done) | (go_simp; with_reducible rfl))
        try simp only [Act.put, List.getElem_toArray, List.getElem_cons_succ, List.getElem_cons_zero, List.setIfInBounds_toArray, List.set_cons_zero, List.set_cons_succ]
        refine AnyZ.take (i := 6) (oi := ⟨_, _, _, _, _, _⟩) (v := ?_) rfl (by kernel_rfl) (by kernel_rfl) (by kernel_rfl) (by kernel_rfl) (fun _ _ _ h => h) (Or.inl ⟨by rfl, ?_⟩) (by assumption) ?_
        rotate_left
        · (intro w hSw; (try dsimp only at hSw); (try simp only [List.getElem_toArray, List.getElem_cons_succ, List.getElem_cons_zero]); first | (go_simp; done) | (go_simp; with_reducible rfl))
        try simp only [Act.put, List.getElem_toArray, List.getElem_cons_succ, List.getElem_cons_zero, List.setIfInBounds_toArray, List.set_cons_zero, List.set_cons_succ]
        refine AnyZ.take (i := 7) (oi := ⟨_, _, _, _, _, _⟩) (v := ?_) rfl (by kernel_rfl) (by kernel_rfl) (by kernel_rfl) (by kernel_rfl) (fun _ _ _ h => h) (Or.inl ⟨by rfl, ?_⟩) (by assumption) ?_
        rotate_left
        · (intro w hSw; (try dsimp only at hSw); (try simp only [List.getElem_toArray, List.getElem_cons_succ, List.getElem_cons_zero]); first | (go_simp; done) | (go_simp; with_reducible rfl))
        try simp only [Act.put, List.getElem_toArray, List.getElem_cons_succ, List.getElem_cons_zero, List.setIfInBounds_toArray, List.set_cons_zero, List.set_cons_succ]
        refine AnyZ.take (i := 8) (oi := ⟨_, _, _, _, _, _⟩) (v := ?_) rfl (by kernel_rfl) (by kernel_rfl) (by kernel_rfl) (by kernel_rfl) (fun _ _ _ h => h) (Or.inl ⟨by rfl, ?_⟩) (by assumption) ?_
        rotate_left
        · (intro w hSw; (try dsimp only at hSw); (try simp only [List.getElem_toArray, List.getElem_cons_succ, List.getElem_cons_zero]); first | (go_simp; done) | (go_simp; with_reducible rfl))
        try simp only [Act.put, List.getElem_toArray, List.getElem_cons_succ, List.getElem_cons_zero, List.setIfInBounds_toArray, List.set_cons_zero, List.set_cons_succ]
        refine AnyZ.take (i := 9) (oi := ⟨_, _, _, _, _, _⟩) (v := ?_) rfl (by kernel_rfl) (by kernel_rfl) (by kernel_rfl) (by kernel_rfl) (fun _ _ _ h => h) (Or.inl ⟨by rfl, ?_⟩) (by assumption) ?_
        rotate_left
        · (intro w hSw; (try dsimp only at hSw); (try simp only [List.getElem_toArray, List.getElem_cons_succ, List.getElem_cons_zero]); first | (go_simp; done) | (go_simp; with_reducible rfl))
        try simp only [Act.put, List.getElem_toArray, List.getElem_cons_succ, List.getElem_cons_zero, List.setIfInBounds_toArray, List.set_cons_zero, List.set_cons_succ]
        refine AnyZ.take (i := 10) (oi := ⟨_, _, _, _, _, _⟩) (v := ?_) rfl (by kernel_rfl) (by kernel_rfl) (by kernel_rfl) (by kernel_rfl) (fun _ _ _ h => h) (Or.inl ⟨by rfl, ?_⟩) (by assumption) ?_
        rotate_left
        · (intro w hSw; (try dsimp only at hSw); (try simp only [List.getElem_toArray, List.getElem_cons_succ, List.getElem_cons_zero]); first | (go_simp; done) | (go_simp; with_reducible rfl))
        try simp only [Act.put, List.getElem_toArray, List.getElem_cons_succ, List.getElem_cons_zero, List.setIfInBounds_toArray, List.set_cons_zero, List.set_cons_succ]
        refine AnyZ.take (i := 11) (oi := ⟨_, _, _, _, _, _⟩) (v := ?_) rfl (by kernel_rfl) (by kernel_rfl) (by kernel_rfl) (by kernel_rfl) (fun _ _ _ h => h) (Or.inl ⟨by rfl, ?_⟩) (by assumption) ?_
        rotate_left
        · (intro w hSw; (try dsimp only at hSw); (try simp only [List.getElem_toArray, List.getElem_cons_succ, List.getElem_cons_zero]); first | (go_simp; done) | (go_simp; with_reducible rfl))
        try simp only [Act.put, List.getElem_toArray, List.getElem_cons_succ, List.getElem_cons_zero, List.setIfInBounds_toArray, List.set_cons_zero, List.set_cons_succ]
        refine AnyZ.take (i := 12) (oi := ⟨_, _, _, _, _, _⟩) (v := ?_) rfl (by kernel_rfl) (by kernel_rfl) (by kernel_rfl) (by kernel_rfl) (fun _ _ _ h => h) (Or.inl ⟨by rfl, ?_⟩) (by assumption) ?_
        rotate_left
        · (intro w hSw; (try dsimp only at hSw); (try simp only [List.getElem_toArray, List.getElem_cons_succ, List.getElem_cons_zero]); first | (go_simp; done) | (go_simp; with_reducible rfl))
        try simp only [Act.put, List.getElem_toArray, List.getElem_cons_succ, List.getElem_cons_zero, List.setIfInBounds_toArray, List.set_cons_zero, List.set_cons_succ]
        refine AnyZ.take (i := 13) (oi := ⟨_, _, _, _, _, _⟩) (v := ?_) rfl (by kernel_rfl) (by kernel_rfl) (by kernel_rfl) (by kernel_rfl) (fun _ _ _ h => h) (Or.inl ⟨by rfl, ?_⟩) (by assumption) ?_
        rotate_left
        · (intro w hSw; (try dsimp only at hSw); (try simp only [List.getElem_toArray, List.getElem_cons_succ, List.getElem_cons_zero]); first | (go_simp; done) | (go_simp; with_reducible rfl))
        try simp only [Act.put, List.getElem_toArray, List.getElem_cons_succ, List.getElem_cons_zero, List.setIfInBounds_toArray, List.set_cons_zero, List.set_cons_succ]
        refine AnyZ.take (i := 14) (oi := ⟨_, _, _, _, _, _⟩) (v := ?_) rfl (by kernel_rfl) (by kernel_rfl) (by kernel_rfl) (by kernel_rfl) (fun _ _ _ h => h) (Or.inl ⟨by rfl, ?_⟩) (by assumption) ?_
        rotate_left
        · (intro w hSw; (try dsimp only at hSw); (try simp only [List.getElem_toArray, List.getElem_cons_succ, List.getElem_cons_zero]); first | (go_simp; done) | (go_simp; with_reducible rfl))
        try simp only [Act.put, List.getElem_toArray, List.getElem_cons_succ, List.getElem_cons_zero, List.setIfInBounds_toArray, List.set_cons_zero, List.set_cons_succ]
        refine AnyZ.take (i := 15) (oi := ⟨_, _, _, _, _, _⟩) (v := ?_) rfl (by kernel_rfl) (by kernel_rfl) (by kernel_rfl) (by kernel_rfl) (fun _ _ _ h => h) (Or.inl ⟨by rfl, ?_⟩) (by assumption) ?_
        rotate_left
        · (intro w hSw; (try dsimp only at hSw); (try simp only [List.getElem_toArray, List.getElem_cons_succ, List.getElem_cons_zero]); first | (go_simp; done) | (go_simp; with_reducible rfl))
        try simp only [Act.put, List.getElem_toArray, List.getElem_cons_succ, List.getElem_cons_zero, List.setIfInBounds_toArray, List.set_cons_zero, List.set_cons_succ]
        refine AnyZ.take (i := 16) (oi := ⟨_, _, _, _, _, _⟩) (v := ?_) rfl (by kernel_rfl) (by kernel_rfl) (by kernel_rfl) (by kernel_rfl) (fun _ _ _ h => h) (Or.inl ⟨by rfl, ?_⟩) (by assumption) ?_
        rotate_left
        · (intro w hSw; (try dsimp only at hSw); (try simp only [List.getElem_toArray, List.getElem_cons_succ, List.getElem_cons_zero]); first | (go_simp; done) | (go_simp; with_reducible rfl))
        try simp only [Act.put, List.getElem_toArray, List.getElem_cons_succ, List.getElem_cons_zero, List.setIfInBounds_toArray, List.set_cons_zero, List.set_cons_succ]
        refine AnyZ.step (i := 17) (o := ⟨_, _, _, _, _, _⟩) (by kernel_rfl) rfl (fun K hK => ?_)
        go_simp
        refine hK.out _ _ (fun h => absurd rfl h) (fun _ => ?_)
        clear hK K
        try simp only [Act.put, List.getElem_toArray, List.getElem_cons_succ, List.getElem_cons_zero, List.setIfInBounds_toArray, List.set_cons_zero, List.set_cons_succ]
        refine AnyZ.done (by kernel_rfl) ?_ _
        go_wp2_with fail
        go_roundw
        case rel =>
          refine ⟨k + 1, by omega, by go_num, ?_, ?_, ((HBA.out.setCell (p := ⟨w1.heap.size + 1, 0, none⟩) (Nat.le_succ _) _).setCell (p := ⟨w1.heap.size + 1, 1, none⟩) (Nat.le_succ _) _).drew⟩
          · rw [M1.out, M2.out]
            exact ((Below.heap_setCell _ _ _ _ (by simp)).trans (Below.heap_setCell _ _ _ _ (by simp))).trans HLA.out
          · rw [M3.out, M4.out]
            exact two_block (w := wA) HHA.out
        case measure => (simp [intOf]) <;> omega
      · obtain rfl : k = ps.length := by omega
        rw [List.take_length] at l0 l1 h0 h1
        have q1 : mnTo Prod.fst xa ps = Ba ∧ mnTo Prod.snd xb ps = Bc := by
          have := HLO.out
          unfold lowP at this
          rw [HX.out] at this
          simpa using this
        have q2 : mxTo Prod.fst xa ps = Bb ∧ mxTo Prod.snd xb ps = Bd := by
          have := HHI.out
          unfold highP at this
          rw [HX.out] at this
          simpa using this
        rw [q1.1] at l0
        rw [q1.2] at l1
        rw [q2.1] at h0
        rw [q2.2] at h1
        clear q1 q2
        go_wp2_with fail
        refine (l10Far_any (Ba, Bc) (Bb, Bd) hlw hhw _).mono ?_; rintro e w9 ⟨rfl, hb9⟩
        have HB9 := Lib.hid (bstep (B := w.heap.size) (W := w) (bstep HB1.out HB1.out.size HBL.out) (by have := HBL.out.size; omega) hb9)
        clear hb9
        go_wp2_with fail
        go_ret
        exact ⟨ret_int (by rw [HLO.out, HHI.out]), HB9.out⟩
theorem l10Middle_any (a b c : Int) (w : World) :
    Calls Try.prog 48 #[.int .i64 a, .int .i64 b, .int .i64 c] w fun e w' => e = .returned (.int .i64 (mid3 a b c)) ∧ w = w' := by
  go_enter Try.func48, Try.ntmps48
  go_wp2_with fail
  all_goals
    go_ret
    exact ⟨ret_int (by unfold mid3; omega), rfl⟩
set_option maxRecDepth 100000 in
set_option maxHeartbeats 4000000 in
theorem sMiddleOf_any (Ap : Option Addr) (cp : Nat) (ps : List (Int × Int)) (w : World) (hp : RC w w.heap.size Ap ps) (hpm : ps.length ≤ 1073741824) :
    Calls Try.prog 26 #[.slice Ap ps.length cp] w fun e w' => e = .returned (.tuple #[.agg #[.int .i64 (middleOf ps).1, .int .i64 (middleOf ps).2], .bool (middleOk ps)]) ∧ Below w.heap.size w w' := by
  have HP := Lib.hid hp
  clear hp
  have fin2 : ∀ (W : World) (u v : Value), W.heap[w.heap.size]? = some (.cells #[.int .i64 0, .int .i64 0] 27 (0, 0)) → ((W.setCell ⟨w.heap.size, 0, none⟩ u).setCell ⟨w.heap.size, 1, none⟩ v).cell? ⟨w.heap.size, 0, none⟩ = some u ∧ ((W.setCell ⟨w.heap.size, 0, none⟩ u).setCell ⟨w.heap.size, 1, none⟩ v).cell? ⟨w.heap.size, 1, none⟩ = some v := fun W u v h => two_cells h
  cases hok : middleOk ps
  · have hmo : middleOf ps = (0, 0) := by unfold middleOf; rw [hok]; rfl
    rw [hmo]
    simp only
    have go : ∀ (w1 : World), Below (w.heap.size + 1) (w.alloc (.cells #[.int .i64 0, .int .i64 0] 27)) w1 → w1.heap[w.heap.size]? = some (.cells #[.int .i64 0, .int .i64 0] 27 (0, 0)) := fun w1 h => (h.block w.heap.size (by omega)).trans (heap_alloc_new w _)
    cases hpo : pointsOk ps
    · have HPO := Lib.hid hpo
      clear hok hpo hmo
      go_enter Try.func26, Try.ntmps26
      go_wp2_with fail
      refine (sPointsOk_any _ _ _ _ (HP.out.later (by go_grown)) hpm).mono ?_; rintro e w1 ⟨rfl, hb1⟩; rw [HPO.out]
      have hbk := go w1 (by rw [World.size_alloc] at hb1; exact hb1)
      have HB1 := Lib.hid (bstep (B := w.heap.size) (W := w) (by go_grown) (by go_size) hb1)
      have x0 := cell_of_row _ _ 0 _ _ (0, 0) hbk
      have x1 := cell_of_row _ _ 1 _ _ (0, 0) hbk
      have x2 : w1.frozen? ⟨w.heap.size, 0, none⟩ = false := by simp [World.frozen?, hbk]
      have x3 : w1.frozen? ⟨w.heap.size, 1, none⟩ = false := by simp [World.frozen?, hbk]
      have TT := Lib.hid (fin2 w1 (.int .i64 0) (.int .i64 0) hbk)
      clear hb1 hbk
      go_wp2_with fail
      obtain ⟨t0, t1⟩ := TT.out
      refine bodyPost_ret (v := .tuple #[.agg #[.int .i64 0, .int .i64 0], .bool false]) (by simp [results, Try.results26, go_sem, t0, t1]) rfl ?_
      exact ⟨rfl, (HB1.out.setCell (p := ⟨w.heap.size, 0, none⟩) (Nat.le_refl _) _).setCell (p := ⟨w.heap.size, 1, none⟩) (Nat.le_refl _) _⟩
    · have HPO := Lib.hid hpo
      have hl3 : ps.length ≠ 3 := fun e => by unfold middleOk at hok; rw [hpo, decide_eq_true e] at hok; cases hok
      have hl3i : ((ps.length : Int) != 3) = true := by rw [bne_iff_ne]; omega
      clear hok hpo hmo
      go_enter Try.func26, Try.ntmps26
      go_wp2_with fail
      refine (sPointsOk_any _ _ _ _ (HP.out.later (by go_grown)) hpm).mono ?_; rintro e w1 ⟨rfl, hb1⟩; rw [HPO.out]
      have hbk := go w1 (by rw [World.size_alloc] at hb1; exact hb1)
      have HB1 := Lib.hid (bstep (B := w.heap.size) (W := w) (by go_grown) (by go_size) hb1)
      have x0 := cell_of_row _ _ 0 _ _ (0, 0) hbk
      have x1 := cell_of_row _ _ 1 _ _ (0, 0) hbk
      have x2 : w1.frozen? ⟨w.heap.size, 0, none⟩ = false := by simp [World.frozen?, hbk]
      have x3 : w1.frozen? ⟨w.heap.size, 1, none⟩ = false := by simp [World.frozen?, hbk]
      have TT := Lib.hid (fin2 w1 (.int .i64 0) (.int .i64 0) hbk)
      clear hb1 hbk
      go_wp2_with fail
      obtain ⟨t0, t1⟩ := TT.out
      refine bodyPost_ret (v := .tuple #[.agg #[.int .i64 0, .int .i64 0], .bool false]) (by simp [results, Try.results26, go_sem, t0, t1]) rfl ?_
      exact ⟨rfl, (HB1.out.setCell (p := ⟨w.heap.size, 0, none⟩) (Nat.le_refl _) _).setCell (p := ⟨w.heap.size, 1, none⟩) (Nat.le_refl _) _⟩
  · obtain ⟨hpo, hl3, hmo, -⟩ := middle_t hok
    have HPO := Lib.hid hpo
    have HMO : Hid (middleOf ps = (mid3 (ptAt ps 0).1 (ptAt ps 1).1 (ptAt ps 2).1, mid3 (ptAt ps 0).2 (ptAt ps 1).2 (ptAt ps 2).2)) := hmo
    obtain ⟨⟨xa, xb⟩, hX⟩ : ∃ x, ptAt ps 0 = x := ⟨_, rfl⟩
    obtain ⟨⟨ya, yb⟩, hY⟩ : ∃ x, ptAt ps 1 = x := ⟨_, rfl⟩
    obtain ⟨⟨za, zb⟩, hZ⟩ : ∃ x, ptAt ps 2 = x := ⟨_, rfl⟩
    rw [hX, hY, hZ] at HMO
    rw [HMO.out]
    simp only
    have HX := Lib.hid hX
    have HY := Lib.hid hY
    have HZ := Lib.hid hZ
    obtain ⟨L, hL⟩ : ∃ L, ps.length = L := ⟨_, rfl⟩
    have hpl : ∀ W : World, RC W W.heap.size Ap ps → Calls Try.prog 16 #[.slice Ap L cp] W fun e w' => e = .returned (.bool true) ∧ Below W.heap.size W w' := fun W h => by
      have h9 := sPointsOk_any Ap cp ps W h hpm
      rw [hL, hpo] at h9
      exact h9
    have HPL := Lib.hid hpl
    have HL3 := Lib.hid hl3
    rw [hL] at hl3 ⊢
    subst hl3
    clear hok hpo hmo hX hY hZ hpl hL
    go_enter Try.func26, Try.ntmps26
    go_wp2_with fail
    refine (HPL.out _ (HP.out.later (by go_grown))).mono ?_; rintro e w1 ⟨rfl, hb1⟩
    have hbk : w1.heap[w.heap.size]? = some (.cells #[.int .i64 0, .int .i64 0] 27 (0, 0)) := (hb1.block w.heap.size (by simp)).trans (heap_alloc_new w _)
    have HB1 := Lib.hid (bstep (B := w.heap.size) (W := w) (by go_grown) (by go_size) hb1)
    have r0 := cell_of_row _ _ 0 _ _ (0, 0) hbk
    have r1 := cell_of_row _ _ 1 _ _ (0, 0) hbk
    have r2 : w1.frozen? ⟨w.heap.size, 0, none⟩ = false := by simp [World.frozen?, hbk]
    have r3 : w1.frozen? ⟨w.heap.size, 1, none⟩ = false := by simp [World.frozen?, hbk]
    have TT := Lib.hid (fin2 w1 (.int .i64 (mid3 xa ya za)) (.int .i64 (mid3 xb yb zb)) hbk)
    obtain ⟨b, o, rfl, hbw, x0, x1⟩ := (HP.out.below HB1.out).at2 (k := 0) (by rw [HL3.out]; omega)
    obtain ⟨b', o', e9, -, y0, y1⟩ := (HP.out.below HB1.out).at2 (k := 1) (by rw [HL3.out]; omega)
    injection e9 with e9; injection e9 with e91 e92; subst e91; subst e92
    obtain ⟨b', o', e9, -, z0, z1⟩ := (HP.out.below HB1.out).at2 (k := 2) (by rw [HL3.out]; omega)
    injection e9 with e9; injection e9 with e91 e92; subst e91; subst e92
    rw [HX.out] at x0 x1
    rw [HY.out] at y0 y1
    rw [HZ.out] at z0 z1
    simp only [Nat.zero_mul, Nat.add_zero, Nat.one_mul, Nat.add_assoc, Nat.reduceMul, Nat.reduceAdd] at x0 x1 y0 y1 z0 z1
    have hst : ∀ u v : Value, (fun w' => w'.cell? ⟨b, o, none⟩ = some (.int .i64 xa) ∧ w'.cell? ⟨b, o + 1, none⟩ = some (.int .i64 xb) ∧ w'.cell? ⟨b, o + 2, none⟩ = some (.int .i64 ya) ∧ w'.cell? ⟨b, o + 3, none⟩ = some (.int .i64 yb) ∧ w'.cell? ⟨b, o + 4, none⟩ = some (.int .i64 za) ∧ w'.cell? ⟨b, o + 5, none⟩ = some (.int .i64 zb)) ((w1.drew.setCell ⟨w.heap.size, 0, none⟩ u).setCell ⟨w.heap.size, 1, none⟩ v) := fun u v => by
      have hk : ((w1.drew.setCell ⟨w.heap.size, 0, none⟩ u).setCell ⟨w.heap.size, 1, none⟩ v).heap[b]? = w1.heap[b]? := (Below.heap_setCell _ _ _ _ (by simp; omega)).trans (Below.heap_setCell _ _ _ _ (by simp; omega))
      exact ⟨(World.cell?_of_block (w := w1) hk).trans x0, (World.cell?_of_block (w := w1) hk).trans x1, (World.cell?_of_block (w := w1) hk).trans y0, (World.cell?_of_block (w := w1) hk).trans y1, (World.cell?_of_block (w := w1) hk).trans z0, (World.cell?_of_block (w := w1) hk).trans z1⟩
    clear hb1 hbk
    go_wp2_with fail
    refine wp_region_held_drew (S := (fun w' => w'.cell? ⟨b, o, none⟩ = some (.int .i64 xa) ∧ w'.cell? ⟨b, o + 1, none⟩ = some (.int .i64 xb) ∧ w'.cell? ⟨b, o + 2, none⟩ = some (.int .i64 ya) ∧ w'.cell? ⟨b, o + 3, none⟩ = some (.int .i64 yb) ∧ w'.cell? ⟨b, o + 4, none⟩ = some (.int .i64 za) ∧ w'.cell? ⟨b, o + 5, none⟩ = some (.int .i64 zb))) (by kernel_rfl) ?_ (fun hHeld => ?_)
    · exact ⟨x0, x1, y0, y1, z0, z1⟩
    refine wpAnyH_take (i := 0) (v := ?_) rfl (by kernel_rfl) (by kernel_rfl) (by kernel_rfl) (fun _ _ _ h => h) (Or.inl ⟨by rfl, ?_⟩) (by assumption) ?_
    rotate_left
    · (intro w hSw; (try dsimp only at hSw); (try simp only [List.getElem_toArray, List.getElem_cons_succ, List.getElem_cons_zero]); first | (go_simp; done) | (go_simp; with_reducible rfl))
    try simp only [Act.put, List.getElem_toArray, List.getElem_cons_succ, List.getElem_cons_zero, List.setIfInBounds_toArray, List.set_cons_zero, List.set_cons_succ]
    refine wpAnyH_take (i := 1) (v := ?_) rfl (by kernel_rfl) (by kernel_rfl) (by kernel_rfl) (fun _ _ _ h => h) (Or.inl ⟨by rfl, ?_⟩) (by assumption) ?_
    rotate_left
    · (intro w hSw; (try dsimp only at hSw); (try simp only [List.getElem_toArray, List.getElem_cons_succ, List.getElem_cons_zero]); first | (go_simp; done) | (go_simp; with_reducible rfl))
    try simp only [Act.put, List.getElem_toArray, List.getElem_cons_succ, List.getElem_cons_zero, List.setIfInBounds_toArray, List.set_cons_zero, List.set_cons_succ]
    refine wpAnyH_take (i := 2) (v := ?_) rfl (by kernel_rfl) (by kernel_rfl) (by kernel_rfl) (fun _ _ _ h => h) (Or.inl ⟨by rfl, ?_⟩) (by assumption) ?_
    rotate_left
    · (intro w hSw; (try dsimp only at hSw); (try simp only [List.getElem_toArray, List.getElem_cons_succ, List.getElem_cons_zero]); first | (go_simp; done) | (go_simp; with_reducible rfl))
    try simp only [Act.put, List.getElem_toArray, List.getElem_cons_succ, List.getElem_cons_zero, List.setIfInBounds_toArray, List.set_cons_zero, List.set_cons_succ]
    refine wpAnyH_take (i := 3) (v := ?_) rfl (by kernel_rfl) (by kernel_rfl) (by kernel_rfl) (fun _ _ _ h => h) (Or.inl ⟨by rfl, ?_⟩) (by assumption) ?_
    rotate_left
    · (intro w hSw; (try dsimp only at hSw); (try simp only [List.getElem_toArray, List.getElem_cons_succ, List.getElem_cons_zero]); first | (go_simp; done) | (go_simp; with_reducible rfl))
    try simp only [Act.put, List.getElem_toArray, List.getElem_cons_succ, List.getElem_cons_zero, List.setIfInBounds_toArray, List.set_cons_zero, List.set_cons_succ]
    refine wpAnyH_take (i := 4) (v := ?_) rfl (by kernel_rfl) (by kernel_rfl) (by kernel_rfl) (fun _ _ _ h => h) (Or.inl ⟨by rfl, ?_⟩) (by assumption) ?_
    rotate_left
    · (intro w hSw; (try dsimp only at hSw); (try simp only [List.getElem_toArray, List.getElem_cons_succ, List.getElem_cons_zero]); first | (go_simp; done) | (go_simp; with_reducible rfl))
    try simp only [Act.put, List.getElem_toArray, List.getElem_cons_succ, List.getElem_cons_zero, List.setIfInBounds_toArray, List.set_cons_zero, List.set_cons_succ]
    refine wpAnyH_take (i := 5) (v := ?_) rfl (by kernel_rfl) (by kernel_rfl) (by kernel_rfl) (fun _ _ _ h => h) (Or.inl ⟨by rfl, ?_⟩) (by assumption) ?_
    rotate_left
    · (intro w hSw; (try dsimp only at hSw); (try simp only [List.getElem_toArray, List.getElem_cons_succ, List.getElem_cons_zero]); first | (go_simp; done) | (go_simp; with_reducible rfl))
    try simp only [Act.put, List.getElem_toArray, List.getElem_cons_succ, List.getElem_cons_zero, List.setIfInBounds_toArray, List.set_cons_zero, List.set_cons_succ]
    refine wpAnyH_take (i := 6) (v := ?_) rfl (by kernel_rfl) (by kernel_rfl) (by kernel_rfl) (fun _ _ _ h => h) (Or.inl ⟨by rfl, ?_⟩) (by assumption) ?_
    rotate_left
    · (intro w hSw; (try dsimp only at hSw); (try simp only [List.getElem_toArray, List.getElem_cons_succ, List.getElem_cons_zero]); first | (go_simp; done) | (go_simp; with_reducible rfl))
    try simp only [Act.put, List.getElem_toArray, List.getElem_cons_succ, List.getElem_cons_zero, List.setIfInBounds_toArray, List.set_cons_zero, List.set_cons_succ]
    refine wpAnyH_take (i := 7) (v := ?_) rfl (by kernel_rfl) (by kernel_rfl) (by kernel_rfl) (fun _ _ _ h => h) (Or.inl ⟨by rfl, ?_⟩) (by assumption) ?_
    rotate_left
    · (intro w hSw; (try dsimp only at hSw); (try simp only [List.getElem_toArray, List.getElem_cons_succ, List.getElem_cons_zero]); first | (go_simp; done) | (go_simp; with_reducible rfl))
    try simp only [Act.put, List.getElem_toArray, List.getElem_cons_succ, List.getElem_cons_zero, List.setIfInBounds_toArray, List.set_cons_zero, List.set_cons_succ]
    refine wpAnyH_take (i := 8) (v := ?_) rfl (by kernel_rfl) (by kernel_rfl) (by kernel_rfl) (fun _ _ _ h => h) (Or.inl ⟨by rfl, ?_⟩) (by assumption) ?_
    rotate_left
    · (intro w hSw; (try dsimp only at hSw); (try simp only [List.getElem_toArray, List.getElem_cons_succ, List.getElem_cons_zero]); first | (go_simp; done) | (go_simp; with_reducible rfl))
    try simp only [Act.put, List.getElem_toArray, List.getElem_cons_succ, List.getElem_cons_zero, List.setIfInBounds_toArray, List.set_cons_zero, List.set_cons_succ]
    refine wpAnyH_take (i := 9) (v := ?_) rfl (by kernel_rfl) (by kernel_rfl) (by kernel_rfl) (fun _ _ _ h => h) (Or.inl ⟨by rfl, ?_⟩) (by assumption) ?_
    rotate_left
    · (intro w hSw; (try dsimp only at hSw); (try simp only [List.getElem_toArray, List.getElem_cons_succ, List.getElem_cons_zero]); first | (go_simp; done) | (go_simp; with_reducible rfl))
    try simp only [Act.put, List.getElem_toArray, List.getElem_cons_succ, List.getElem_cons_zero, List.setIfInBounds_toArray, List.set_cons_zero, List.set_cons_succ]
    refine wpAnyH_take (i := 10) (v := ?_) rfl (by kernel_rfl) (by kernel_rfl) (by kernel_rfl) (fun _ _ _ h => h) (Or.inl ⟨by rfl, ?_⟩) (by assumption) ?_
    rotate_left
    · (intro w hSw; (try dsimp only at hSw); (try simp only [List.getElem_toArray, List.getElem_cons_succ, List.getElem_cons_zero]); first | (go_simp; done) | (go_simp; with_reducible rfl))
    try simp only [Act.put, List.getElem_toArray, List.getElem_cons_succ, List.getElem_cons_zero, List.setIfInBounds_toArray, List.set_cons_zero, List.set_cons_succ]
    refine wpAnyH_take (i := 11) (v := ?_) rfl (by kernel_rfl) (by kernel_rfl) (by kernel_rfl) (fun _ _ _ h => h) (Or.inl ⟨by rfl, ?_⟩) (by assumption) ?_
    rotate_left
    · (intro w hSw; (try dsimp only at hSw); (try simp only [List.getElem_toArray, List.getElem_cons_succ, List.getElem_cons_zero]); first | (go_simp; done) | (go_simp; with_reducible rfl))
    try simp only [Act.put, List.getElem_toArray, List.getElem_cons_succ, List.getElem_cons_zero, List.setIfInBounds_toArray, List.set_cons_zero, List.set_cons_succ]
    refine wpAnyH_take (i := 13) (v := ?_) rfl (by kernel_rfl) (by kernel_rfl) (by kernel_rfl) (fun _ _ _ h => h) (Or.inl ⟨by rfl, ?_⟩) (by assumption) ?_
    rotate_left
    · (intro w hSw; (try dsimp only at hSw); (try simp only [List.getElem_toArray, List.getElem_cons_succ, List.getElem_cons_zero]); first | (go_simp; done) | (go_simp; with_reducible rfl))
    try simp only [Act.put, List.getElem_toArray, List.getElem_cons_succ, List.getElem_cons_zero, List.setIfInBounds_toArray, List.set_cons_zero, List.set_cons_succ]
    refine wpAnyH_take (i := 14) (v := ?_) rfl (by kernel_rfl) (by kernel_rfl) (by kernel_rfl) (fun _ _ _ h => h) (Or.inl ⟨by rfl, ?_⟩) (by assumption) ?_
    rotate_left
    · (intro w hSw; (try dsimp only at hSw); (try simp only [List.getElem_toArray, List.getElem_cons_succ, List.getElem_cons_zero]); first | (go_simp; done) | (go_simp; with_reducible rfl))
    try simp only [Act.put, List.getElem_toArray, List.getElem_cons_succ, List.getElem_cons_zero, List.setIfInBounds_toArray, List.set_cons_zero, List.set_cons_succ]
    refine wpAnyH_take (i := 15) (v := ?_) rfl (by kernel_rfl) (by kernel_rfl) (by kernel_rfl) (fun _ _ _ h => h) (Or.inl ⟨by rfl, ?_⟩) (by assumption) ?_
    rotate_left
    · (intro w hSw; (try dsimp only at hSw); (try simp only [List.getElem_toArray, List.getElem_cons_succ, List.getElem_cons_zero]); first | (go_simp; done) | (go_simp; with_reducible rfl))
    try simp only [Act.put, List.getElem_toArray, List.getElem_cons_succ, List.getElem_cons_zero, List.setIfInBounds_toArray, List.set_cons_zero, List.set_cons_succ]
    refine wpAnyH_take (i := 16) (v := ?_) rfl (by kernel_rfl) (by kernel_rfl) (by kernel_rfl) (fun _ _ _ h => h) (Or.inl ⟨by rfl, ?_⟩) (by assumption) ?_
    rotate_left
    · (intro w hSw; (try dsimp only at hSw); (try simp only [List.getElem_toArray, List.getElem_cons_succ, List.getElem_cons_zero]); first | (go_simp; done) | (go_simp; with_reducible rfl))
    try simp only [Act.put, List.getElem_toArray, List.getElem_cons_succ, List.getElem_cons_zero, List.setIfInBounds_toArray, List.set_cons_zero, List.set_cons_succ]
    refine wpAnyH_take (i := 17) (v := ?_) rfl (by kernel_rfl) (by kernel_rfl) (by kernel_rfl) (fun _ _ _ h => h) (Or.inl ⟨by rfl, ?_⟩) (by assumption) ?_
    rotate_left
    · (intro w hSw; (try dsimp only at hSw); (try simp only [List.getElem_toArray, List.getElem_cons_succ, List.getElem_cons_zero]); first | (go_simp; done) | (go_simp; with_reducible rfl))
    try simp only [Act.put, List.getElem_toArray, List.getElem_cons_succ, List.getElem_cons_zero, List.setIfInBounds_toArray, List.set_cons_zero, List.set_cons_succ]
    refine wpAnyH_take (i := 18) (v := ?_) rfl (by kernel_rfl) (by kernel_rfl) (by kernel_rfl) (fun _ _ _ h => h) (Or.inl ⟨by rfl, ?_⟩) (by assumption) ?_
    rotate_left
    · (intro w hSw; (try dsimp only at hSw); (try simp only [List.getElem_toArray, List.getElem_cons_succ, List.getElem_cons_zero]); first | (go_simp; done) | (go_simp; with_reducible rfl))
    try simp only [Act.put, List.getElem_toArray, List.getElem_cons_succ, List.getElem_cons_zero, List.setIfInBounds_toArray, List.set_cons_zero, List.set_cons_succ]
    refine wpAnyH_take (i := 19) (v := ?_) rfl (by kernel_rfl) (by kernel_rfl) (by kernel_rfl) (fun _ _ _ h => h) (Or.inl ⟨by rfl, ?_⟩) (by assumption) ?_
    rotate_left
    · (intro w hSw; (try dsimp only at hSw); (try simp only [List.getElem_toArray, List.getElem_cons_succ, List.getElem_cons_zero]); first | (go_simp; done) | (go_simp; with_reducible rfl))
    try simp only [Act.put, List.getElem_toArray, List.getElem_cons_succ, List.getElem_cons_zero, List.setIfInBounds_toArray, List.set_cons_zero, List.set_cons_succ]
    refine wpAnyH_take (i := 20) (v := ?_) rfl (by kernel_rfl) (by kernel_rfl) (by kernel_rfl) (fun _ _ _ h => h) (Or.inl ⟨by rfl, ?_⟩) (by assumption) ?_
    rotate_left
    · (intro w hSw; (try dsimp only at hSw); (try simp only [List.getElem_toArray, List.getElem_cons_succ, List.getElem_cons_zero]); first | (go_simp; done) | (go_simp; with_reducible rfl))
    try simp only [Act.put, List.getElem_toArray, List.getElem_cons_succ, List.getElem_cons_zero, List.setIfInBounds_toArray, List.set_cons_zero, List.set_cons_succ]
    refine wpAnyH_take (i := 21) (v := ?_) rfl (by kernel_rfl) (by kernel_rfl) (by kernel_rfl) (fun _ _ _ h => h) (Or.inl ⟨by rfl, ?_⟩) (by assumption) ?_
    rotate_left
    · (intro w hSw; (try dsimp only at hSw); (try simp only [List.getElem_toArray, List.getElem_cons_succ, List.getElem_cons_zero]); first | (go_simp; done) | (go_simp; with_reducible rfl))
    try simp only [Act.put, List.getElem_toArray, List.getElem_cons_succ, List.getElem_cons_zero, List.setIfInBounds_toArray, List.set_cons_zero, List.set_cons_succ]
    refine wpAnyH_take (i := 22) (v := ?_) rfl (by kernel_rfl) (by kernel_rfl) (by kernel_rfl) (fun _ _ _ h => h) (Or.inl ⟨by rfl, ?_⟩) (by assumption) ?_
    rotate_left
    · (intro w hSw; (try dsimp only at hSw); (try simp only [List.getElem_toArray, List.getElem_cons_succ, List.getElem_cons_zero]); first | (go_simp; done) | (go_simp; with_reducible rfl))
    try simp only [Act.put, List.getElem_toArray, List.getElem_cons_succ, List.getElem_cons_zero, List.setIfInBounds_toArray, List.set_cons_zero, List.set_cons_succ]
    refine wpAnyH_take (i := 23) (v := ?_) rfl (by kernel_rfl) (by kernel_rfl) (by kernel_rfl) (fun _ _ _ h => h) (Or.inl ⟨by rfl, ?_⟩) (by assumption) ?_
    rotate_left
    · (intro w hSw; (try dsimp only at hSw); (try simp only [List.getElem_toArray, List.getElem_cons_succ, List.getElem_cons_zero]); first | (go_simp; done) | (go_simp; with_reducible rfl))
    try simp only [Act.put, List.getElem_toArray, List.getElem_cons_succ, List.getElem_cons_zero, List.setIfInBounds_toArray, List.set_cons_zero, List.set_cons_succ]
    refine wpAnyH_take (i := 24) (v := ?_) rfl (by kernel_rfl) (by kernel_rfl) (by kernel_rfl) (fun _ _ _ h => h) (Or.inl ⟨by rfl, ?_⟩) (by assumption) ?_
    rotate_left
    · (intro w hSw; (try dsimp only at hSw); (try simp only [List.getElem_toArray, List.getElem_cons_succ, List.getElem_cons_zero]); first | (go_simp; done) | (go_simp; with_reducible rfl))
    try simp only [Act.put, List.getElem_toArray, List.getElem_cons_succ, List.getElem_cons_zero, List.setIfInBounds_toArray, List.set_cons_zero, List.set_cons_succ]
    refine wpAnyH_ready (rs := [12]) (by kernel_rfl) (by simp) ?_
    refine AllReadyH.cons rfl (fun K hK => ?_) AllReadyH.nil
    try simp only [List.getElem_toArray, List.getElem_cons_succ, List.getElem_cons_zero]
    go_simp
    go_at_call 48; refine (l10Middle_any _ _ _ _).mono ?_; rintro e9 w9 ⟨rfl, rfl⟩
    refine hK.out _ _ ?_ (fun hHeld => ?_)
    · exact ⟨x0, x1, y0, y1, z0, z1⟩
    clear hK K
    try simp only [Act.put, List.getElem_toArray, List.getElem_cons_succ, List.getElem_cons_zero, List.setIfInBounds_toArray, List.set_cons_zero, List.set_cons_succ]
    refine wpAnyH_ready (rs := [25]) (by kernel_rfl) (by simp) ?_
    refine AllReadyH.cons rfl (fun K hK => ?_) AllReadyH.nil
    try simp only [List.getElem_toArray, List.getElem_cons_succ, List.getElem_cons_zero]
    go_simp
    go_at_call 48; refine (l10Middle_any _ _ _ _).mono ?_; rintro e9 w9 ⟨rfl, rfl⟩
    refine hK.out _ _ ?_ (fun hHeld => ?_)
    · exact ⟨x0, x1, y0, y1, z0, z1⟩
    clear hK K
    try simp only [Act.put, List.getElem_toArray, List.getElem_cons_succ, List.getElem_cons_zero, List.setIfInBounds_toArray, List.set_cons_zero, List.set_cons_succ]
    refine wpAnyH_take (i := 26) (v := ?_) rfl (by kernel_rfl) (by kernel_rfl) (by kernel_rfl) (fun _ _ _ h => h) (Or.inl ⟨by rfl, ?_⟩) (by assumption) ?_
    rotate_left
    · (intro w hSw; (try dsimp only at hSw); (try simp only [List.getElem_toArray, List.getElem_cons_succ, List.getElem_cons_zero]); first | (go_simp; done) | (go_simp; with_reducible rfl))
    try simp only [Act.put, List.getElem_toArray, List.getElem_cons_succ, List.getElem_cons_zero, List.setIfInBounds_toArray, List.set_cons_zero, List.set_cons_succ]
    refine wpAnyH_ready (rs := [27]) (by kernel_rfl) (by simp) ?_
    refine AllReadyH.cons rfl (fun K hK => ?_) AllReadyH.nil
    try simp only [List.getElem_toArray, List.getElem_cons_succ, List.getElem_cons_zero]
    go_simp

    refine hK.out _ _ ?_ (fun hHeld => ?_)
    · exact hst _ _
    clear hK K
    try simp only [Act.put, List.getElem_toArray, List.getElem_cons_succ, List.getElem_cons_zero, List.setIfInBounds_toArray, List.set_cons_zero, List.set_cons_succ]
    refine wpAnyH_take (i := 28) (v := ?_) rfl (by kernel_rfl) (by kernel_rfl) (by kernel_rfl) (fun _ _ _ h => h) (Or.inl ⟨by rfl, ?_⟩) (by assumption) ?_
    rotate_left
    · (intro w hSw; (try dsimp only at hSw); (try simp only [List.getElem_toArray, List.getElem_cons_succ, List.getElem_cons_zero]); first | (go_simp; done) | (go_simp; with_reducible rfl))
    try simp only [Act.put, List.getElem_toArray, List.getElem_cons_succ, List.getElem_cons_zero, List.setIfInBounds_toArray, List.set_cons_zero, List.set_cons_succ]
    refine wpAnyH_done (by kernel_rfl) ?_ _
    go_wp2_with fail
    obtain ⟨t0, t1⟩ := TT.out
    refine bodyPost_ret (v := .tuple #[.agg #[.int .i64 (mid3 xa ya za), .int .i64 (mid3 xb yb zb)], .bool true]) (by simp [results, Try.results26, go_sem, t0, t1]) rfl ?_
    exact ⟨rfl, ((HB1.out.setCell (p := ⟨w.heap.size, 0, none⟩) (Nat.le_refl _) _).setCell (p := ⟨w.heap.size, 1, none⟩) (Nat.le_refl _) _).drew⟩
set_option maxRecDepth 100000 in
set_option maxHeartbeats 2000000 in
theorem sMeetCost_any (qa qb : Int) (Ap : Option Addr) (cp : Nat) (ps : List (Int × Int)) (w : World) (hp : RC w w.heap.size Ap ps) (hpm : ps.length ≤ 1073741824) :
    Calls Try.prog 29 #[.slice Ap ps.length cp, .agg #[.int .i64 qa, .int .i64 qb]] w fun e w' => e = .returned (.int .i64 (meetCost ps (qa, qb))) ∧ Below w.heap.size w w' := by
  have HP := Lib.hid hp
  clear hp
  unfold meetCost ptIn
  simp only
  cases hok : pointsOk ps
  · have HOK := Lib.hid hok
    rw [Bool.false_and, if_neg (by simp)]
    clear hok
    go_enter Try.func29, Try.ntmps29
    go_wp2_with fail
    refine (sPointsOk_any _ _ _ _ (HP.out.later (by go_grown)) hpm).mono ?_; rintro e w1 ⟨rfl, hb1⟩
    rw [HOK.out]
    obtain ⟨hc1, hf1⟩ := bcell hb1
    have hz1_0 : w.heap.size < w1.heap.size := by have hq := hb1.size; (try simp at hq); omega
    have HK1 := Lib.hid hb1
    have HB1 := Lib.hid (bstep (B := w.heap.size) (W := w) (by (try have hp := HB0.out); go_grown) (by go_size) hb1); clear hb1
    go_wp2_with fail
    go_ret
    exact ⟨rfl, HB1.out⟩
  · have HOK := Lib.hid hok
    obtain ⟨hl1, hl6, hin⟩ := pointsOk_t hok
    have HIN := Lib.hid hin
    rw [Bool.true_and]
    clear hok hin
    cases ha : inB qa 0 20
    · have HA := Lib.hid ha
      rw [Bool.false_and, if_neg (by simp)]
      clear ha
      go_enter Try.func29, Try.ntmps29
      go_wp2_with fail
      refine (sPointsOk_any _ _ _ _ (HP.out.later (by go_grown)) hpm).mono ?_; rintro e w1 ⟨rfl, hb1⟩
      rw [HOK.out]
      obtain ⟨hc1, hf1⟩ := bcell hb1
      have hz1_0 : w.heap.size < w1.heap.size := by have hq := hb1.size; (try simp at hq); omega
      have HK1 := Lib.hid hb1
      have HB1 := Lib.hid (bstep (B := w.heap.size) (W := w) (by (try have hp := HB0.out); go_grown) (by go_size) hb1); clear hb1
      go_wp2_with fail
      refine (l1In_any _ _ _ _).mono ?_; rintro e w2 ⟨rfl, rfl⟩; rw [HA.out]
      go_wp2_with fail
      go_ret
      exact ⟨rfl, HB1.out⟩
    · have HA := Lib.hid ha
      rw [Bool.true_and]
      cases hb : inB qb 0 20
      · have HBB := Lib.hid hb
        rw [if_neg (by simp)]
        clear ha hb
        go_enter Try.func29, Try.ntmps29
        go_wp2_with fail
        refine (sPointsOk_any _ _ _ _ (HP.out.later (by go_grown)) hpm).mono ?_; rintro e w1 ⟨rfl, hb1⟩
        rw [HOK.out]
        obtain ⟨hc1, hf1⟩ := bcell hb1
        have hz1_0 : w.heap.size < w1.heap.size := by have hq := hb1.size; (try simp at hq); omega
        have HK1 := Lib.hid hb1
        have HB1 := Lib.hid (bstep (B := w.heap.size) (W := w) (by (try have hp := HB0.out); go_grown) (by go_size) hb1); clear hb1
        go_wp2_with fail
        refine (l1In_any _ _ _ _).mono ?_; rintro e w2 ⟨rfl, rfl⟩; rw [HA.out]
        go_wp2_with fail
        refine (l1In_any _ _ _ _).mono ?_; rintro e w2 ⟨rfl, rfl⟩; rw [HBB.out]
        go_wp2_with fail
        go_ret
        exact ⟨rfl, HB1.out⟩
      · have HBB := Lib.hid hb
        have i1 := inB_t ha
        have i2 := inB_t hb
        have hqq : 0 ≤ qa ∧ qa ≤ 20 ∧ 0 ≤ qb ∧ qb ≤ 20 := ⟨i1.1, i1.2, i2.1, i2.2⟩
        rw [if_pos rfl]
        clear ha hb i1 i2
        go_enter Try.func29, Try.ntmps29
        go_wp2_with fail
        refine (sPointsOk_any _ _ _ _ (HP.out.later (by go_grown)) hpm).mono ?_; rintro e w1 ⟨rfl, hb1⟩
        rw [HOK.out]
        obtain ⟨hc1, hf1⟩ := bcell hb1
        have hz1_0 : w.heap.size < w1.heap.size := by have hq := hb1.size; (try simp at hq); omega
        have HK1 := Lib.hid hb1
        have HB1 := Lib.hid (bstep (B := w.heap.size) (W := w) (by (try have hp := HB0.out); go_grown) (by go_size) hb1); clear hb1
        have k10 : w1.cell? ⟨w.heap.size, 0, none⟩ = some (.int .i64 qa) ∧ w1.cell? ⟨w.heap.size, 1, none⟩ = some (.int .i64 qb) := ⟨by go_simp, by go_simp⟩
        obtain ⟨k10, k11⟩ := k10
        clear hc1 hf1
        go_wp2_with fail
        refine (l1In_any _ _ _ _).mono ?_; rintro e w2 ⟨rfl, rfl⟩; rw [HA.out]
        go_wp2_with fail
        refine (l1In_any _ _ _ _).mono ?_; rintro e w2 ⟨rfl, rfl⟩; rw [HBB.out]
        go_wp2_with fail
        go_loopw [5, 6] (fun c i wr => ∃ k : Nat, k ≤ ps.length ∧ i = .int .i64 k ∧ c = .int .i64 (sumA (qa, qb) (ps.take k)) ∧ wr.cell? ⟨w.heap.size, 0, none⟩ = some (.int .i64 qa) ∧ wr.cell? ⟨w.heap.size, 1, none⟩ = some (.int .i64 qb) ∧ Below w.heap.size w wr ∧ w.heap.size < wr.heap.size) (fun _ i _ => ps.length - (intOf i).toNat)
        case atStart => exact ⟨0, Nat.zero_le _, rfl, rfl, k10, k11, HB1.out, hz1_0⟩
        case round =>
          clear k10 k11 HB1 HK1
          obtain ⟨k, hk, rfl, rfl, b0, b1, hb, hz⟩ := hrel
          have HB0 := Lib.hid hb
          have k0 : (0 : Int) ≤ (k : Int) := by omega
          by_cases hlk : k < ps.length
          · obtain ⟨⟨pa, pb⟩, hx⟩ : ∃ x, ps[k]? = some x := ⟨_, List.getElem?_eq_getElem hlk⟩
            obtain ⟨b, o, rfl, hB, c0, c1⟩ := (HP.out.below hb) k _ hx
            simp only at c0 c1
            have k1 : (k : Int) < (ps.length : Int) := by omega
            have hbw : b < wr.heap.size := by omega
            have hpp := HIN.out (pa, pb) (List.mem_of_getElem? hx)
            have HSU := Lib.hid (sumA_take (q := (qa, qb)) hx)
            have hsb := sumA_bd (q := (qa, qb)) hqq (ps := ps.take k) (fun p hp => HIN.out p (List.mem_of_mem_take hp))
            have hlt : (ps.take k).length = k := by rw [List.length_take]; omega
            rw [hlt] at hsb
            have hab := apart_bd (q := (qa, qb)) hpp hqq
            have hnn := apart_nn (pa, pb) (qa, qb)
            obtain ⟨AA, hAA⟩ : ∃ x, apart (pa, pb) (qa, qb) = x := ⟨_, rfl⟩
            obtain ⟨SM, hSM⟩ : ∃ x, sumA (qa, qb) (ps.take k) = x := ⟨_, rfl⟩
            rw [hAA] at hab hnn HSU
            rw [hSM] at hsb HSU ⊢
            have HAP := Lib.hid hAA
            have HV1 : Hid (IntKind.i64.wrap (SM + AA) = SM + AA) := IntWalk.i64_in _ ⟨by omega, by omega⟩
            have HV2 : Hid (wrap64 (SM + AA) = SM + AA) := IntWalk.wrap64_in _ ⟨by omega, by omega⟩
            clear hx hb hsb hlt hab hnn hAA hSM
            have hv1 := HV1.out
            have hv2 := HV2.out
            go_wp2_with fail
            refine wp_region_held_drew (S := (fun w' => w'.cell? ⟨b, o + k * 2, none⟩ = some (.int .i64 pa) ∧ w'.cell? ⟨b, o + k * 2 + 1, none⟩ = some (.int .i64 pb) ∧ w'.cell? ⟨w.heap.size, 0, none⟩ = some (.int .i64 qa) ∧ w'.cell? ⟨w.heap.size, 1, none⟩ = some (.int .i64 qb))) (by kernel_rfl) ?_ (fun hHeld => ?_)
            · exact ⟨c0, c1, b0, b1⟩
            refine wpAnyH_take (i := 0) (v := ?_) rfl (by kernel_rfl) (by kernel_rfl) (by kernel_rfl) (fun _ _ _ h => h) (Or.inl ⟨by rfl, ?_⟩) (by assumption) ?_
            rotate_left
            · (intro w hSw; (try dsimp only at hSw); (try simp only [List.getElem_toArray, List.getElem_cons_succ, List.getElem_cons_zero]); first | (go_simp; done) | (go_simp; with_reducible rfl))
            try simp only [Act.put, List.getElem_toArray, List.getElem_cons_succ, List.getElem_cons_zero, List.setIfInBounds_toArray, List.set_cons_zero, List.set_cons_succ]
            refine wpAnyH_take (i := 1) (v := ?_) rfl (by kernel_rfl) (by kernel_rfl) (by kernel_rfl) (fun _ _ _ h => h) (Or.inl ⟨by rfl, ?_⟩) (by assumption) ?_
            rotate_left
            · (intro w hSw; (try dsimp only at hSw); (try simp only [List.getElem_toArray, List.getElem_cons_succ, List.getElem_cons_zero]); first | (go_simp; done) | (go_simp; with_reducible rfl))
            try simp only [Act.put, List.getElem_toArray, List.getElem_cons_succ, List.getElem_cons_zero, List.setIfInBounds_toArray, List.set_cons_zero, List.set_cons_succ]
            refine wpAnyH_take (i := 2) (v := ?_) rfl (by kernel_rfl) (by kernel_rfl) (by kernel_rfl) (fun _ _ _ h => h) (Or.inl ⟨by rfl, ?_⟩) (by assumption) ?_
            rotate_left
            · (intro w hSw; (try dsimp only at hSw); (try simp only [List.getElem_toArray, List.getElem_cons_succ, List.getElem_cons_zero]); first | (go_simp; done) | (go_simp; with_reducible rfl))
            try simp only [Act.put, List.getElem_toArray, List.getElem_cons_succ, List.getElem_cons_zero, List.setIfInBounds_toArray, List.set_cons_zero, List.set_cons_succ]
            refine wpAnyH_take (i := 3) (v := ?_) rfl (by kernel_rfl) (by kernel_rfl) (by kernel_rfl) (fun _ _ _ h => h) (Or.inl ⟨by rfl, ?_⟩) (by assumption) ?_
            rotate_left
            · (intro w hSw; (try dsimp only at hSw); (try simp only [List.getElem_toArray, List.getElem_cons_succ, List.getElem_cons_zero]); first | (go_simp; done) | (go_simp; with_reducible rfl))
            try simp only [Act.put, List.getElem_toArray, List.getElem_cons_succ, List.getElem_cons_zero, List.setIfInBounds_toArray, List.set_cons_zero, List.set_cons_succ]
            refine wpAnyH_take (i := 4) (v := ?_) rfl (by kernel_rfl) (by kernel_rfl) (by kernel_rfl) (fun _ _ _ h => h) (Or.inl ⟨by rfl, ?_⟩) (by assumption) ?_
            rotate_left
            · (intro w hSw; (try dsimp only at hSw); (try simp only [List.getElem_toArray, List.getElem_cons_succ, List.getElem_cons_zero]); first | (go_simp; done) | (go_simp; with_reducible rfl))
            try simp only [Act.put, List.getElem_toArray, List.getElem_cons_succ, List.getElem_cons_zero, List.setIfInBounds_toArray, List.set_cons_zero, List.set_cons_succ]
            refine wpAnyH_take (i := 5) (v := ?_) rfl (by kernel_rfl) (by kernel_rfl) (by kernel_rfl) (fun _ _ _ h => h) (Or.inl ⟨by rfl, ?_⟩) (by assumption) ?_
            rotate_left
            · (intro w hSw; (try dsimp only at hSw); (try simp only [List.getElem_toArray, List.getElem_cons_succ, List.getElem_cons_zero]); first | (go_simp; done) | (go_simp; with_reducible rfl))
            try simp only [Act.put, List.getElem_toArray, List.getElem_cons_succ, List.getElem_cons_zero, List.setIfInBounds_toArray, List.set_cons_zero, List.set_cons_succ]
            refine wpAnyH_ready (rs := [6]) (by kernel_rfl) (by simp) ?_
            refine AllReadyH.cons rfl (fun K hK => ?_) AllReadyH.nil
            try simp only [List.getElem_toArray, List.getElem_cons_succ, List.getElem_cons_zero]
            go_simp
            go_at_call 42; refine (l10Far_any (pa, pb) (qa, qb) hpp hqq _).mono ?_; rintro e8 w8 ⟨rfl, hb8⟩; rw [HAP.out]; have g8 : Below wr.heap.size wr w8 := und hb8; have k8 : w8.cell? ⟨b, o + k * 2, none⟩ = some (.int .i64 pa) ∧ w8.cell? ⟨b, o + k * 2 + 1, none⟩ = some (.int .i64 pb) ∧ w8.cell? ⟨w.heap.size, 0, none⟩ = some (.int .i64 qa) ∧ w8.cell? ⟨w.heap.size, 1, none⟩ = some (.int .i64 qb) := ⟨(g8.cell (p := ⟨b, o + k * 2, none⟩) hbw).trans c0, (g8.cell (p := ⟨b, o + k * 2 + 1, none⟩) hbw).trans c1, (g8.cell (p := ⟨w.heap.size, 0, none⟩) hz).trans b0, (g8.cell (p := ⟨w.heap.size, 1, none⟩) hz).trans b1⟩
            refine hK.out _ _ ?_ (fun hHeld => ?_)
            · exact k8
            clear hK K
            try simp only [Act.put, List.getElem_toArray, List.getElem_cons_succ, List.getElem_cons_zero, List.setIfInBounds_toArray, List.set_cons_zero, List.set_cons_succ]
            refine wpAnyH_take (i := 7) (v := ?_) rfl (by kernel_rfl) (by kernel_rfl) (by kernel_rfl) (fun _ _ _ h => h) (Or.inl ⟨by rfl, ?_⟩) (by assumption) ?_
            rotate_left
            · (intro w hSw; (try dsimp only at hSw); (try simp only [List.getElem_toArray, List.getElem_cons_succ, List.getElem_cons_zero]); first | (go_simp; done) | (go_simp; with_reducible rfl))
            try simp only [Act.put, List.getElem_toArray, List.getElem_cons_succ, List.getElem_cons_zero, List.setIfInBounds_toArray, List.set_cons_zero, List.set_cons_succ]
            refine wpAnyH_take (i := 8) (v := ?_) rfl (by kernel_rfl) (by kernel_rfl) (by kernel_rfl) (fun _ _ _ h => h) (Or.inl ⟨by rfl, ?_⟩) (by assumption) ?_
            rotate_left
            · (intro w hSw; (try dsimp only at hSw); (try simp only [List.getElem_toArray, List.getElem_cons_succ, List.getElem_cons_zero]); first | (go_simp; done) | (go_simp; with_reducible rfl))
            try simp only [Act.put, List.getElem_toArray, List.getElem_cons_succ, List.getElem_cons_zero, List.setIfInBounds_toArray, List.set_cons_zero, List.set_cons_succ]
            refine wpAnyH_done (by kernel_rfl) ?_ _
            clear hv1 hv2
            have HB9 := Lib.hid (bstep (B := w.heap.size) (W := w) HB0.out (Nat.le_of_lt hz) g8)
            have hz9 := Nat.lt_of_lt_of_le hz g8.size
            go_wp2_with fail
            go_roundw
            case rel => exact ⟨k + 1, by omega, by go_num, by rw [HSU.out], k8.2.2.1, k8.2.2.2, HB9.out, hz9⟩
            case measure => (simp [intOf]) <;> omega
          · obtain rfl : k = ps.length := by omega
            rw [List.take_length]
            clear hb
            go_wp2_with fail
            go_ret
            exact ⟨rfl, HB0.out⟩
end Go.Proofs.Ytgnjjiljipgbnaa
