/- The law of AllRoots: all roots join the ends at the least cost, none is within another one, they ascend, and RootOf is among them. -/
import Derived.Test.YtbbomajgmgmigaaDoorRH
import Derived.Test.YtbbomajgmgmigaaDoorRI
import Derived.Test.YtbbomajgmgmigaaDoorWX
import Derived.Test.YtbbomajgmgmigaaDoorLO
set_option linter.unusedSimpArgs false
set_option linter.unusedVariables false
attribute [local go_sem ↓] Go.wp_at_zero Go.wp_at_succ
namespace Go.Proofs.YtbbomajgmgmigaaDoor
open Go.ChangeShapes Go.WideShapes Go.ChangeAt Go.RowKit

theorem getD_left {L : List Int} {x : Int} {j : Nat} (h : j < L.length) : (L ++ [x]).getD j 0 = L.getD j 0 := by
  rw [List.getD_eq_getElem?_getD, List.getD_eq_getElem?_getD, List.getElem?_append_left h]
theorem getD_last {L : List Int} {x : Int} : (L ++ [x]).getD L.length 0 = x := by
  rw [List.getD_eq_getElem?_getD, List.getElem?_append_right (Nat.le_refl _)]; simp
theorem rtTo_spec (ws : List Wy) (e c : Int) : ∀ k, (∀ j, j < (rtTo ws e c k).length → ∃ v : Nat, v < k ∧ (rtTo ws e c k).getD j 0 = v ∧ rt ws e c v = true) ∧
    (∀ i j, i < j → j < (rtTo ws e c k).length → (rtTo ws e c k).getD i 0 < (rtTo ws e c k).getD j 0) ∧
    (∀ v : Nat, v < k → rt ws e c v = true → ∃ j, j < (rtTo ws e c k).length ∧ (rtTo ws e c k).getD j 0 = v)
  | 0 => ⟨fun j h => absurd h (by simp [rtTo]), fun i j _ h => absurd h (by simp [rtTo]), fun v h => absurd h (by omega)⟩
  | k + 1 => by
    obtain ⟨h1, h2, h3⟩ := rtTo_spec ws e c k
    cases hr : rt ws e c k
    · rw [rtTo_no hr]
      refine ⟨fun j hj => ?_, h2, fun v hv hb => ?_⟩
      · obtain ⟨v, a, b⟩ := h1 j hj
        exact ⟨v, by omega, b⟩
      · by_cases e : v = k
        · subst e; rw [hr] at hb; cases hb
        · exact h3 v (by omega) hb
    · rw [rtTo_yes hr]
      generalize rtTo ws e c k = L at h1 h2 h3
      have hlen : (L ++ [(k : Int)]).length = L.length + 1 := by simp
      rw [hlen]
      refine ⟨fun j hj => ?_, fun i j hij hj => ?_, fun v hv hb => ?_⟩
      · by_cases e : j = L.length
        · subst e
          exact ⟨k, by omega, getD_last, hr⟩
        · obtain ⟨v, a, b⟩ := h1 j (by omega)
          exact ⟨v, by omega, by rw [getD_left (by omega)]; exact b⟩
      · rw [getD_left (show i < L.length by omega)]
        by_cases e : j = L.length
        · subst e
          obtain ⟨v, a, b, _⟩ := h1 i hij
          rw [getD_last, b]; omega
        · rw [getD_left (by omega)]
          exact h2 i j hij (by omega)
      · by_cases e : v = k
        · subst e
          exact ⟨L.length, by omega, getD_last⟩
        · obtain ⟨j, a, b⟩ := h3 v (by omega) hb
          exact ⟨j, by omega, by rw [getD_left a]; exact b⟩
theorem root_within {n : Int} {ws : List Wy} (hn : NetIs n ws) {e s t : Int} (e0 : 0 ≤ e) (e1 : e < 2 ^ n.toNat) (s0 : 0 ≤ s) (t0 : 0 ≤ t) (t1 : t ≤ full ws.length) (hs : joins ws s e = true) (ht : Lean_ ws t e) (h : idiff s t = 0) : s = t := by
  rw [idiff_zero s0] at h
  refine set_ext s0 t0 fun q hq => ?_
  cases hbt : bit t q
  · cases hbs : bit s q
    · rfl
    · rw [h q hq hbs] at hbt; cases hbt
  · cases hbs : bit s q
    · exfalso
      have hl9 := hn.len
      have hql := bit_in t0 t1 hbt
      obtain ⟨k, rfl⟩ := Int.eq_ofNat_of_zero_le hq
      have hfb := full_bd ws.length hl9
      have h1 := sub_less (u := s) t0 (by omega) (show k < 9 by omega) hbt h hbs
      have h2 := joins_mono hn e0 e1 h1 hs
      rw [ht k (by omega) hbt] at h2
      cases h2
    · rfl
/-- what is told of the list -/
structure RootList (n : Int) (ws : List Wy) (e C R : Int) (m : Nat) (f : Nat → Int) : Prop where
  bd : ∀ j, j < m → 0 ≤ f j ∧ f j ≤ 512
  jo : ∀ j, j < m → joinsEnds n ws (f j) e = true
  co : ∀ j, j < m → costOf n ws (f j) = C
  in1 : ∀ i j, i < j → j < m → (idiff (f i) (f j) == 0) = false ∧ (idiff (f j) (f i) == 0) = false
  asc : ∀ i j, i < j → j < m → f i < f j
  has : ∃ j, j < m ∧ f j = R
theorem rootList {n : Int} {ws : List Wy} {e C : Int} (hC : rootCost n ws e = C) (h : ¬ C < 0) : RootList n ws e C (rootOf n ws e) (rootsOf n ws e).length (fun j => (rootsOf n ws e).getD j 0) := by
  obtain ⟨hno, hpo, hb0, hc, hro⟩ := rootCost_told (n := n) (ws := ws) (e := e) (by omega)
  have hn := netOk_t hno
  have hl9 := hn.len
  have hfb := full_bd ws.length hl9
  obtain ⟨e0, e1⟩ := plOk_t hpo
  rw [rootsOf_is hC h rfl, hro]
  obtain ⟨h1, h2, h3⟩ := rtTo_spec ws e C (2 ^ ws.length)
  have e2 : ((2 : Int) ^ ws.length) = ((2 ^ ws.length : Nat) : Int) := by simp
  have hlt : ∀ v : Nat, v < 2 ^ ws.length → (v : Int) ≤ full ws.length := fun v hv => by rw [full_lt]; omega
  refine ⟨fun j hj => ?_, fun j hj => ?_, fun j hj => ?_, fun i j hij hj => ?_, h2, ?_⟩
  · obtain ⟨v, a, b, _⟩ := h1 j hj
    have := hlt v a
    show 0 ≤ (rtTo ws e C (2 ^ ws.length)).getD j 0 ∧ _ ≤ (512 : Int)
    rw [b]; omega
  · obtain ⟨v, a, b, hr⟩ := h1 j hj
    show joinsEnds n ws ((rtTo ws e C (2 ^ ws.length)).getD j 0) e = true
    rw [b]
    unfold joinsEnds
    rw [setOk_mk hno (by omega) (hlt v a), hpo, ((rt_iff ws e C v).1 hr).2.1]; rfl
  · obtain ⟨v, a, b, hr⟩ := h1 j hj
    show costOf n ws ((rtTo ws e C (2 ^ ws.length)).getD j 0) = C
    rw [b]
    unfold costOf
    rw [if_pos (setOk_mk hno (by omega) (hlt v a))]
    exact ((rt_iff ws e C v).1 hr).1
  · obtain ⟨v, a, b, hr⟩ := h1 i (by omega)
    obtain ⟨v', a', b', hr'⟩ := h1 j hj
    have hlt2 := h2 i j hij hj
    show (idiff ((rtTo ws e C (2 ^ ws.length)).getD i 0) ((rtTo ws e C (2 ^ ws.length)).getD j 0) == 0) = false ∧ (idiff ((rtTo ws e C (2 ^ ws.length)).getD j 0) ((rtTo ws e C (2 ^ ws.length)).getD i 0) == 0) = false
    rw [b, b'] at hlt2 ⊢
    obtain ⟨_, j1, l1⟩ := (rt_iff ws e C v).1 hr
    obtain ⟨_, j2, l2⟩ := (rt_iff ws e C v').1 hr'
    refine ⟨?_, ?_⟩
    · apply Bool.eq_false_iff.2
      intro h
      have := root_within hn e0 e1 (by omega) (by omega) (hlt v' a') j1 l2 (by simpa using h)
      omega
    · apply Bool.eq_false_iff.2
      intro h
      have := root_within hn e0 e1 (by omega) (by omega) (hlt v a) j2 l1 (by simpa using h)
      omega
  · have hbf := best_full ws e
    have hbl := (full_lt ws.length _).1 hbf
    obtain ⟨j, hj, hv⟩ := h3 (best ws e).toNat (by omega) (by
      rw [Int.toNat_of_nonneg hb0, rt_iff]
      exact ⟨by omega, best_joins hb0, best_lean hn hb0⟩)
    rw [Int.toNat_of_nonneg hb0] at hv
    exact ⟨j, hj, hv⟩
theorem rootOf_neg {n : Int} {ws : List Wy} {e : Int} (h : rootCost n ws e < 0) : rootOf n ws e = -1 := by
  cases hk : netOk n ws && plOk n e
  · unfold rootOf; rw [hk]; rfl
  · have h1 := rootCost_is hk
    rw [Bool.and_eq_true] at hk
    have hn := netOk_t hk.1
    have hcb := cost_bds hn (best ws e)
    have hbb := best_bd ws e
    unfold rootOf
    rw [hk.1, hk.2]
    simp only [Bool.and_self, if_true]
    by_cases hb : best ws e < 0
    · omega
    · rw [if_neg hb] at h1; omega

set_option maxHeartbeats 2000000 in
theorem ascend_any (A : Option Addr) (cap m : Nat) (f : Nat → Int) (lo hi : Nat) (w : World) (h : RowF w lo hi A m f) (hm : m ≤ 1048576) (hf : ∀ i j, i < j → j < m → f i < f j) :
    Calls Tryd.prog 23 #[.slice A m cap] w fun e w' => e = .returned (.bool true) ∧ Below w.heap.size w w' := by
  have HF := Lib.hid h
  have HA := Lib.hid hf
  clear h hf
  go_enter Tryd.func23, Tryd.ntmps23
  go_wp2_with fail
  go_loopw [3] (fun i wr => ∃ k : Nat, 1 ≤ k ∧ (k = 1 ∨ k ≤ m) ∧ i = .int .i64 k ∧ Below w.heap.size w wr) (fun i _ => m - (intOf i).toNat)
  case atStart => exact ⟨1, Nat.le_refl _, .inl rfl, rfl, by go_grown⟩
  case round =>
    obtain ⟨k, hk1, hk2, rfl, hb⟩ := hrel
    have HB := Lib.hid hb
    have HF1 := HF.out.below hb
    clear hb
    by_cases hlt : k < m
    · obtain ⟨j, rfl⟩ : ∃ j, k = j + 1 := ⟨k - 1, by omega⟩
      obtain ⟨b, o, rfl, _, _, c0, _⟩ := HF1.at_ j (by omega)
      obtain ⟨b', o', e', _, _, c1, _⟩ := HF1.at_ (j + 1) hlt
      injection e' with e'
      injection e' with e1 e2
      subst e1; subst e2
      have hab := HA.out j (j + 1) (by omega) hlt
      obtain ⟨x, hx⟩ : ∃ x, f j = x := ⟨_, rfl⟩
      obtain ⟨y, hy⟩ : ∃ y, f (j + 1) = y := ⟨_, rfl⟩
      rw [hx] at c0 hab
      rw [hy] at c1 hab
      have hge : decide (y ≤ x) = false := by simp; omega
      have hk0 : (0 : Int) ≤ ((j + 1 : Nat) : Int) := by omega
      have hkm : ((j + 1 : Nat) : Int) < (m : Int) := by omega
      have hs1 : ((j + 1 : Nat) : Int) - 1 = (j : Int) := by omega
      have hj0 : (0 : Int) ≤ (j : Int) := by omega
      have hjm : (j : Int) < (m : Int) := by omega
      have hj1 : (j : Int) + 1 < (m : Int) := by omega
      have hj10 : (0 : Int) ≤ (j : Int) + 1 := by omega
      have htn : ((j : Int) + 1).toNat = j + 1 := by omega
      have hwj : IntKind.i64.wrap (j : Int) = j := IntWalk.i64_in _ ⟨by omega, by omega⟩
      clear HF1 hx hy
      go_wp2_with fail
      refine wp_region_held_drew (S := (fun w' => w'.cell? ⟨b, o + j, none⟩ = some (.int .i64 x) ∧ w'.cell? ⟨b, o + (j + 1), none⟩ = some (.int .i64 y))) (by kernel_rfl) ?_ (fun hHeld => ?_)
      · exact ⟨c0, c1⟩
      refine wpAnyH_take (i := 0) (v := ?_) rfl (by kernel_rfl) (by kernel_rfl) (by kernel_rfl) (fun _ _ _ h => h) (Or.inl ⟨by rfl, ?_⟩) (by assumption) ?_
      rotate_left
      · (intro w hSw; (try dsimp only at hSw); (try simp only [List.getElem_toArray, List.getElem_cons_succ, List.getElem_cons_zero]); first | (go_simp; done) | (go_simp; with_reducible rfl))
      try simp only [Act.put, List.getElem_toArray, List.getElem_cons_succ, List.getElem_cons_zero, List.setIfInBounds_toArray, List.set_cons_zero, List.set_cons_succ]
      refine wpAnyH_take (i := 1) (v := ?_) rfl (by kernel_rfl) (by kernel_rfl) (by kernel_rfl) (fun _ _ _ h => h) (Or.inl ⟨by rfl, ?_⟩) (by assumption) ?_
      rotate_left
      · (intro w hSw; (try dsimp only at hSw); (try simp only [List.getElem_toArray, List.getElem_cons_succ, List.getElem_cons_zero]); first | (go_simp; done) | (go_simp; with_reducible rfl))
      try simp only [Act.put, List.getElem_toArray, List.getElem_cons_succ, List.getElem_cons_zero, List.setIfInBounds_toArray, List.set_cons_zero, List.set_cons_succ]
      refine wpAnyH_take (i := 2) (v := ?_) rfl (by kernel_rfl) (by kernel_rfl) (by kernel_rfl) (fun _ _ _ h => h) (Or.inl ⟨by rfl, ?_⟩) (by assumption) ?_
      rotate_left
      · (intro w hSw; (try dsimp only at hSw); (try simp only [List.getElem_toArray, List.getElem_cons_succ, List.getElem_cons_zero]); first | (go_simp; done) | (go_simp; with_reducible rfl))
      try simp only [Act.put, List.getElem_toArray, List.getElem_cons_succ, List.getElem_cons_zero, List.setIfInBounds_toArray, List.set_cons_zero, List.set_cons_succ]
      refine wpAnyH_take (i := 3) (v := ?_) rfl (by kernel_rfl) (by kernel_rfl) (by kernel_rfl) (fun _ _ _ h => h) (Or.inl ⟨by rfl, ?_⟩) (by assumption) ?_
      rotate_left
      · (intro w hSw; (try dsimp only at hSw); (try simp only [List.getElem_toArray, List.getElem_cons_succ, List.getElem_cons_zero]); first | (go_simp; done) | (go_simp; with_reducible rfl))
      try simp only [Act.put, List.getElem_toArray, List.getElem_cons_succ, List.getElem_cons_zero, List.setIfInBounds_toArray, List.set_cons_zero, List.set_cons_succ]
      refine wpAnyH_take (i := 4) (v := ?_) rfl (by kernel_rfl) (by kernel_rfl) (by kernel_rfl) (fun _ _ _ h => h) (Or.inl ⟨by rfl, ?_⟩) (by assumption) ?_
      rotate_left
      · (intro w hSw; (try dsimp only at hSw); (try simp only [List.getElem_toArray, List.getElem_cons_succ, List.getElem_cons_zero]); first | (go_simp; done) | (go_simp; with_reducible rfl))
      try simp only [Act.put, List.getElem_toArray, List.getElem_cons_succ, List.getElem_cons_zero, List.setIfInBounds_toArray, List.set_cons_zero, List.set_cons_succ]
      refine wpAnyH_take (i := 5) (v := ?_) rfl (by kernel_rfl) (by kernel_rfl) (by kernel_rfl) (fun _ _ _ h => h) (Or.inl ⟨by rfl, ?_⟩) (by assumption) ?_
      rotate_left
      · (intro w hSw; (try dsimp only at hSw); (try simp only [List.getElem_toArray, List.getElem_cons_succ, List.getElem_cons_zero]); first | (go_simp; done) | (go_simp; with_reducible rfl))
      try simp only [Act.put, List.getElem_toArray, List.getElem_cons_succ, List.getElem_cons_zero, List.setIfInBounds_toArray, List.set_cons_zero, List.set_cons_succ]
      refine wpAnyH_take (i := 6) (v := ?_) rfl (by kernel_rfl) (by kernel_rfl) (by kernel_rfl) (fun _ _ _ h => h) (Or.inl ⟨by rfl, ?_⟩) (by assumption) ?_
      rotate_left
      · (intro w hSw; (try dsimp only at hSw); (try simp only [List.getElem_toArray, List.getElem_cons_succ, List.getElem_cons_zero]); first | (go_simp; done) | (go_simp; with_reducible rfl))
      try simp only [Act.put, List.getElem_toArray, List.getElem_cons_succ, List.getElem_cons_zero, List.setIfInBounds_toArray, List.set_cons_zero, List.set_cons_succ]
      refine wpAnyH_take (i := 7) (v := ?_) rfl (by kernel_rfl) (by kernel_rfl) (by kernel_rfl) (fun _ _ _ h => h) (Or.inl ⟨by rfl, ?_⟩) (by assumption) ?_
      rotate_left
      · (intro w hSw; (try dsimp only at hSw); (try simp only [List.getElem_toArray, List.getElem_cons_succ, List.getElem_cons_zero]); first | (go_simp; done) | (go_simp; with_reducible rfl))
      try simp only [Act.put, List.getElem_toArray, List.getElem_cons_succ, List.getElem_cons_zero, List.setIfInBounds_toArray, List.set_cons_zero, List.set_cons_succ]
      refine wpAnyH_take (i := 8) (v := ?_) rfl (by kernel_rfl) (by kernel_rfl) (by kernel_rfl) (fun _ _ _ h => h) (Or.inl ⟨by rfl, ?_⟩) (by assumption) ?_
      rotate_left
      · (intro w hSw; (try dsimp only at hSw); (try simp only [List.getElem_toArray, List.getElem_cons_succ, List.getElem_cons_zero]); first | (go_simp; done) | (go_simp; with_reducible rfl))
      try simp only [Act.put, List.getElem_toArray, List.getElem_cons_succ, List.getElem_cons_zero, List.setIfInBounds_toArray, List.set_cons_zero, List.set_cons_succ]
      refine wpAnyH_take (i := 9) (v := ?_) rfl (by kernel_rfl) (by kernel_rfl) (by kernel_rfl) (fun _ _ _ h => h) (Or.inl ⟨by rfl, ?_⟩) (by assumption) ?_
      rotate_left
      · (intro w hSw; (try dsimp only at hSw); (try simp only [List.getElem_toArray, List.getElem_cons_succ, List.getElem_cons_zero]); first | (go_simp; done) | (go_simp; with_reducible rfl))
      try simp only [Act.put, List.getElem_toArray, List.getElem_cons_succ, List.getElem_cons_zero, List.setIfInBounds_toArray, List.set_cons_zero, List.set_cons_succ]
      refine wpAnyH_done (by kernel_rfl) ?_ _
      clear hwj
      go_wp2_with fail
      go_roundw
      case rel => exact ⟨j + 1 + 1, by omega, by omega, by go_num, HB.out.drew⟩
      case measure => simp [intOf]; omega
    · go_wp2_with fail
      go_ret
      exact ⟨rfl, HB.out⟩
set_option maxHeartbeats 2000000 in
theorem hasInt_any (A : Option Addr) (cap m : Nat) (f : Nat → Int) (x : Int) (lo hi : Nat) (w : World) (h : RowF w lo hi A m f) (hm : m ≤ 1048576) (hx : ∃ j, j < m ∧ f j = x) :
    Calls Tryd.prog 24 #[.slice A m cap, .int .i64 x] w fun e w' => e = .returned (.bool true) ∧ Below w.heap.size w w' := by
  have HF := Lib.hid h
  have HX := Lib.hid hx
  clear h hx
  go_enter Tryd.func24, Tryd.ntmps24
  go_wp2_with fail
  go_loopw [5] (fun i wr => ∃ k : Nat, k ≤ m ∧ i = .int .i64 k ∧ (∀ j, j < k → f j ≠ x) ∧ Below w.heap.size w wr) (fun i _ => m - (intOf i).toNat)
  case atStart => exact ⟨0, Nat.zero_le _, rfl, fun j h => absurd h (by omega), by go_grown⟩
  case round =>
    obtain ⟨k, hk, rfl, hno, hb⟩ := hrel
    have HB := Lib.hid hb
    have HN := Lib.hid hno
    have HF1 := HF.out.below hb
    clear hb hno
    by_cases hlt : k < m
    · obtain ⟨b, o, rfl, _, _, c0, _⟩ := HF1.at_ k hlt
      have hk0 : (0 : Int) ≤ (k : Int) := by omega
      have hk1 : (k : Int) < (m : Int) := by omega
      obtain ⟨y, hy⟩ : ∃ y, f k = y := ⟨_, rfl⟩
      rw [hy] at c0
      have HY := Lib.hid hy
      clear HF1 hy
      by_cases hxy : y = x
      · have hd : (y == x) = true := by simpa using hxy
        clear hxy
        go_wp2_with fail
        go_ret
        exact ⟨rfl, HB.out⟩
      · have hd : (y == x) = false := by simpa using hxy
        have HXY := Lib.hid hxy
        clear hxy
        go_wp2_with fail
        go_roundw
        case rel => exact ⟨k + 1, by omega, by go_num, fun j hj => by
          by_cases e : j = k
          · subst e; rw [HY.out]; exact HXY.out
          · exact HN.out j (by omega), HB.out⟩
        case measure => simp [intOf]; omega
    · exfalso
      obtain ⟨j, hj, hfj⟩ := HX.out
      exact HN.out j (by omega) hfj

set_option maxRecDepth 100000 in
set_option maxHeartbeats 8000000 in
theorem FnAllRoots_walk (A : Option Addr) (len cap : Nat) (w : World) (hr : RB w w.heap.size A len) (hc : len ≤ cap) (hlen : len ≤ 9223372036854775807) (hT : Tab w) :
    Calls Tryd.prog 4 #[.slice A len cap] w fun e w' => e = .returned (.bool true) ∧ Below w.heap.size w w' := by
  have HR := Lib.hid hr
  have HT := Lib.hid hT
  clear hr hT
  by_cases hm : 1048576 < len
  · go_enter Tryd.func4, Tryd.ntmps4
    go_wp2_with fail
    go_ret
    exact ⟨rfl, Below.refl _ _⟩
  · go_enter Tryd.func4, Tryd.ntmps4
    go_wp2_with fail
    refine (DrawAllRoots_any A len cap _ HR.out hc (by omega)).mono ?_
    rintro e wd ⟨nn, ee, A', c', ws, rfl, hrw, hl10, hcc, hn0, hn7, hs0, hs1, hbd⟩
    have HRW := Lib.hid hrw
    have HBD := Lib.hid hbd
    have HTD := Lib.hid (HT.out.later hbd)
    have hzd : w.heap.size ≤ wd.heap.size := hbd.size
    clear hrw hbd
    have hrl : (rootsOf nn ws ee).length ≤ 512 := rootsOf_len
    have hlist : rootCost nn ws ee < 0 → (rootsOf nn ws ee).length = 0 := fun h => by rw [rootsOf_no rfl h]; rfl
    have hlist2 : ¬ rootCost nn ws ee < 0 → RootList nn ws ee (rootCost nn ws ee) (rootOf nn ws ee) (rootsOf nn ws ee).length (fun j => (rootsOf nn ws ee).getD j 0) := fun h => rootList rfl h
    have hro : ¬ rootCost nn ws ee < 0 → 0 ≤ rootOf nn ws ee := fun h => by have := rootCost_told h; rw [this.2.2.2.2]; exact this.2.2.1
    have hrn : rootCost nn ws ee < 0 → rootOf nn ws ee = -1 := rootOf_neg
    have HLI := Lib.hid hlist
    have HLI2 := Lib.hid hlist2
    have HRO2 := Lib.hid hro
    have HRN := Lib.hid hrn
    clear hlist hlist2 hro hrn
    go_wp2_with fail
    refine (AllRoots_any _ _ _ _ ws _ (HRW.out.later (by go_grown)) (HTD.out.later (by go_grown))).mono ?_; rintro e w1 ⟨A1, c1, rfl, hf1, hb1⟩
    have k1 : w1.cell? ⟨wd.heap.size, 0, none⟩ = some (.int .i64 nn) ∧ w1.cell? ⟨wd.heap.size, 1, none⟩ = some (.slice A' ws.length c') := by
      obtain ⟨hc1, hf1'⟩ := bcell hb1
      exact ⟨by go_simp, by go_simp⟩
    have hz1 : wd.heap.size < w1.heap.size := by have hq := hb1.size; (try simp at hq); omega
    have HB1 := Lib.hid (bstep (B := wd.heap.size) (W := wd) (by go_grown) (by go_size) hb1)
    have hwlo := hf1.wider (show wd.heap.size ≤ _ by (try simp))
    clear hb1
    obtain ⟨k10, k11⟩ := k1
    go_wp2_with fail
    refine (sAllRoots_any _ _ _ _ ws _ (HRW.out.later HB1.out) (by omega)).mono ?_; rintro e w2 ⟨A2, c2, rfl, hf2, hb2⟩
    obtain ⟨k20, k21⟩ := keep2 hb2 ⟨k10, k11⟩ hz1
    have hz2 : wd.heap.size < w2.heap.size := Nat.lt_of_lt_of_le hz1 hb2.size
    have HB2 := Lib.hid (bstep (B := wd.heap.size) (W := wd) HB1.out (Nat.le_of_lt hz1) hb2)
    have hf1b := hwlo.below hb2
    clear hb2 hf1 hwlo
    obtain ⟨f, hfe⟩ : ∃ f : Nat → Int, (fun j => (rootsOf nn ws ee).getD j 0) = f := ⟨_, rfl⟩
    rw [hfe] at hf1b hf2 HLI2
    obtain ⟨ln, hln⟩ : ∃ ln, (rootsOf nn ws ee).length = ln := ⟨_, rfl⟩
    rw [hln] at hf1b hf2 HLI2 hrl HLI ⊢
    obtain ⟨R, hR⟩ : ∃ R, rootOf nn ws ee = R := ⟨_, rfl⟩
    rw [hR] at HLI2 HRO2 HRN
    obtain ⟨C, hC⟩ : ∃ C, rootCost nn ws ee = C := ⟨_, rfl⟩
    rw [hC] at HLI2 HRO2 HRN HLI
    have HF2 := Lib.hid hf2
    have HF1 := Lib.hid hf1b
    have HRO := Lib.hid hR
    have HRC := Lib.hid hC
    clear hf2 hf1b hfe hln hR hC
    go_wp2_with fail
    refine (sameInts_any _ _ _ _ _ _ _ _ _ _ _ HF1.out HF2.out (by omega)).mono ?_; rintro e w3 ⟨rfl, hb3⟩
    obtain ⟨k30, k31⟩ := keep2 hb3 ⟨k20, k21⟩ hz2
    have hz3 : wd.heap.size < w3.heap.size := Nat.lt_of_lt_of_le hz2 hb3.size
    have HF3 := Lib.hid (HF1.out.below hb3)
    have HB3 := Lib.hid (bstep (B := wd.heap.size) (W := wd) HB2.out (Nat.le_of_lt hz2) hb3)
    clear hb3 HF2 HF1
    go_wp2_with fail
    refine (RootOf_any _ _ _ _ _ _ (HRW.out.later HB3.out) (HTD.out.later HB3.out)).mono ?_; rintro e w4 ⟨rfl, hb4⟩; rw [HRO.out]
    obtain ⟨k40, k41⟩ := keep2 hb4 ⟨k30, k31⟩ hz3
    have hz4 : wd.heap.size < w4.heap.size := Nat.lt_of_lt_of_le hz3 hb4.size
    have HF4 := Lib.hid (HF3.out.below hb4)
    have HB4 := Lib.hid (bstep (B := wd.heap.size) (W := wd) HB3.out (Nat.le_of_lt hz3) hb4)
    clear hb4 HF3
    by_cases hneg : C < 0
    · have hR1 := HRN.out (by omega)
      have hl0 := HLI.out (by omega)
      subst hR1
      subst hl0
      clear HLI HLI2 HRO2 HRN
      go_wp2_with fail
      refine (alive_any _).mono ?_; rintro e w9 ⟨rfl, hb9⟩
      have HB9 := Lib.hid (bstep (B := wd.heap.size) (W := wd) HB4.out (Nat.le_of_lt hz4) hb9)
      clear hb9
      go_wp2_with fail
      go_ret
      exact ⟨rfl, bstep HBD.out hzd HB9.out⟩
    · have HL := Lib.hid (HLI2.out (by omega))
      have hR0 := HRO2.out (by omega)
      have hRd : decide (R < 0) = false := by simpa using hR0
      clear HLI HLI2 HRO2 HRN
      go_wp2_with fail
      go_loopw [7] (fun c wr => ∃ k : Nat, k ≤ ln ∧ c = .int .i64 k ∧ wr.cell? ⟨wd.heap.size, 0, none⟩ = some (.int .i64 nn) ∧ wr.cell? ⟨wd.heap.size, 1, none⟩ = some (.slice A' ws.length c') ∧ Below wd.heap.size wd wr ∧ wd.heap.size < wr.heap.size ∧ RowF wr wd.heap.size w1.heap.size A1 ln f) (fun c _ => ln - (intOf c).toNat)
      case atStart => exact ⟨0, Nat.zero_le _, rfl, k40, k41, HB4.out, hz4, HF4.out⟩
      case round =>
        clear k10 k11 k20 k21 k30 k31 k40 k41 HF4
        obtain ⟨k, hk, rfl, b0, b1, hb, hz, hrf⟩ := hrel
        have HRR := Lib.hid (HRW.out.later hb)
        have HTR := Lib.hid (HTD.out.later hb)
        have HB0 := Lib.hid hb
        have HF0 := Lib.hid hrf
        clear hb hrf
        by_cases hlk : k < ln
        · have hk1 : (k : Int) < (ln : Int) := by omega
          have k0 : (0 : Int) ≤ (k : Int) := by omega
          obtain ⟨bk, ok, rfl, hlo, hhi, ck, _⟩ := HF0.out.at_ k hlk
          have hbkz : bk < wr.heap.size := Nat.lt_of_lt_of_le hhi HF0.out.top
          have hJ := HL.out.jo k hlk
          have hCO := HL.out.co k hlk
          obtain ⟨X, hX⟩ : ∃ X, f k = X := ⟨_, rfl⟩
          rw [hX] at ck hJ hCO
          have HXX := Lib.hid hX
          have HJ := Lib.hid hJ
          have HCO := Lib.hid hCO
          clear hJ hCO hX
          go_wp2_with fail
          refine wp_region_held_drew (S := (fun w' => w'.cell? ⟨wd.heap.size, 0, none⟩ = some (.int .i64 nn) ∧ w'.cell? ⟨wd.heap.size, 1, none⟩ = some (.slice A' ws.length c') ∧ w'.cell? ⟨bk, ok + k, none⟩ = some (.int .i64 X))) (by kernel_rfl) ?_ (fun hHeld => ?_)
          · exact ⟨b0, b1, ck⟩
          refine wpAnyH_take (i := 0) (v := ?_) rfl (by kernel_rfl) (by kernel_rfl) (by kernel_rfl) (fun _ _ _ h => h) (Or.inl ⟨by rfl, ?_⟩) (by assumption) ?_
          rotate_left
          · (intro w hSw; (try dsimp only at hSw); (try simp only [List.getElem_toArray, List.getElem_cons_succ, List.getElem_cons_zero]); first | (go_simp; done) | (go_simp; with_reducible rfl))
          try simp only [Act.put, List.getElem_toArray, List.getElem_cons_succ, List.getElem_cons_zero, List.setIfInBounds_toArray, List.set_cons_zero, List.set_cons_succ]
          refine wpAnyH_take (i := 1) (v := ?_) rfl (by kernel_rfl) (by kernel_rfl) (by kernel_rfl) (fun _ _ _ h => h) (Or.inl ⟨by rfl, ?_⟩) (by assumption) ?_
          rotate_left
          · (intro w hSw; (try dsimp only at hSw); (try simp only [List.getElem_toArray, List.getElem_cons_succ, List.getElem_cons_zero]); first | (go_simp; done) | (go_simp; with_reducible rfl))
          try simp only [Act.put, List.getElem_toArray, List.getElem_cons_succ, List.getElem_cons_zero, List.setIfInBounds_toArray, List.set_cons_zero, List.set_cons_succ]
          refine wpAnyH_take (i := 2) (v := ?_) rfl (by kernel_rfl) (by kernel_rfl) (by kernel_rfl) (fun _ _ _ h => h) (Or.inl ⟨by rfl, ?_⟩) (by assumption) ?_
          rotate_left
          · (intro w hSw; (try dsimp only at hSw); (try simp only [List.getElem_toArray, List.getElem_cons_succ, List.getElem_cons_zero]); first | (go_simp; done) | (go_simp; with_reducible rfl))
          try simp only [Act.put, List.getElem_toArray, List.getElem_cons_succ, List.getElem_cons_zero, List.setIfInBounds_toArray, List.set_cons_zero, List.set_cons_succ]
          refine wpAnyH_take (i := 3) (v := ?_) rfl (by kernel_rfl) (by kernel_rfl) (by kernel_rfl) (fun _ _ _ h => h) (Or.inl ⟨by rfl, ?_⟩) (by assumption) ?_
          rotate_left
          · (intro w hSw; (try dsimp only at hSw); (try simp only [List.getElem_toArray, List.getElem_cons_succ, List.getElem_cons_zero]); first | (go_simp; done) | (go_simp; with_reducible rfl))
          try simp only [Act.put, List.getElem_toArray, List.getElem_cons_succ, List.getElem_cons_zero, List.setIfInBounds_toArray, List.set_cons_zero, List.set_cons_succ]
          refine wpAnyH_take (i := 4) (v := ?_) rfl (by kernel_rfl) (by kernel_rfl) (by kernel_rfl) (fun _ _ _ h => h) (Or.inl ⟨by rfl, ?_⟩) (by assumption) ?_
          rotate_left
          · (intro w hSw; (try dsimp only at hSw); (try simp only [List.getElem_toArray, List.getElem_cons_succ, List.getElem_cons_zero]); first | (go_simp; done) | (go_simp; with_reducible rfl))
          try simp only [Act.put, List.getElem_toArray, List.getElem_cons_succ, List.getElem_cons_zero, List.setIfInBounds_toArray, List.set_cons_zero, List.set_cons_succ]
          refine wpAnyH_take (i := 5) (v := ?_) rfl (by kernel_rfl) (by kernel_rfl) (by kernel_rfl) (fun _ _ _ h => h) (Or.inl ⟨by rfl, ?_⟩) (by assumption) ?_
          rotate_left
          · (intro w hSw; (try dsimp only at hSw); (try simp only [List.getElem_toArray, List.getElem_cons_succ, List.getElem_cons_zero]); first | (go_simp; done) | (go_simp; with_reducible rfl))
          try simp only [Act.put, List.getElem_toArray, List.getElem_cons_succ, List.getElem_cons_zero, List.setIfInBounds_toArray, List.set_cons_zero, List.set_cons_succ]
          refine wpAnyH_ready (rs := [6]) (by kernel_rfl) (by simp) ?_
          refine AllReadyH.cons rfl (fun K hK => ?_) AllReadyH.nil
          try simp only [List.getElem_toArray, List.getElem_cons_succ, List.getElem_cons_zero]
          go_simp
          go_at_call 15; refine (JoinsEnds_any _ _ _ _ _ _ _ (HRR.out.drewNR _) (HTR.out.drewNR _)).mono ?_; rintro e5 w5 ⟨rfl, hb5⟩; rw [HJ.out]; have g5 : Below wr.heap.size wr w5 := und hb5; have k5 : _ ∧ _ ∧ _ := ⟨(g5.cell (p := ⟨wd.heap.size, 0, none⟩) hz).trans b0, (g5.cell (p := ⟨wd.heap.size, 1, none⟩) hz).trans b1, (g5.cell (p := ⟨bk, ok + k, none⟩) hbkz).trans ck⟩; have r5 := Lib.hid (HRR.out.later g5); have t5 := Lib.hid (HTR.out.later g5)
          refine hK.out _ _ ?_ (fun hHeld => ?_)
          · exact k5
          clear hK K
          try simp only [Act.put, List.getElem_toArray, List.getElem_cons_succ, List.getElem_cons_zero, List.setIfInBounds_toArray, List.set_cons_zero, List.set_cons_succ]
          refine wpAnyH_take (i := 7) (v := ?_) rfl (by kernel_rfl) (by kernel_rfl) (by kernel_rfl) (fun _ _ _ h => h) (Or.inl ⟨by rfl, ?_⟩) (by assumption) ?_
          rotate_left
          · (intro w hSw; (try dsimp only at hSw); (try simp only [List.getElem_toArray, List.getElem_cons_succ, List.getElem_cons_zero]); first | (go_simp; done) | (go_simp; with_reducible rfl))
          try simp only [Act.put, List.getElem_toArray, List.getElem_cons_succ, List.getElem_cons_zero, List.setIfInBounds_toArray, List.set_cons_zero, List.set_cons_succ]
          refine wpAnyH_take (i := 8) (v := ?_) rfl (by kernel_rfl) (by kernel_rfl) (by kernel_rfl) (fun _ _ _ h => h) (Or.inl ⟨by rfl, ?_⟩) (by assumption) ?_
          rotate_left
          · (intro w hSw; (try dsimp only at hSw); (try simp only [List.getElem_toArray, List.getElem_cons_succ, List.getElem_cons_zero]); first | (go_simp; done) | (go_simp; with_reducible rfl))
          try simp only [Act.put, List.getElem_toArray, List.getElem_cons_succ, List.getElem_cons_zero, List.setIfInBounds_toArray, List.set_cons_zero, List.set_cons_succ]
          refine wpAnyH_take (i := 9) (v := ?_) rfl (by kernel_rfl) (by kernel_rfl) (by kernel_rfl) (fun _ _ _ h => h) (Or.inl ⟨by rfl, ?_⟩) (by assumption) ?_
          rotate_left
          · (intro w hSw; (try dsimp only at hSw); (try simp only [List.getElem_toArray, List.getElem_cons_succ, List.getElem_cons_zero]); first | (go_simp; done) | (go_simp; with_reducible rfl))
          try simp only [Act.put, List.getElem_toArray, List.getElem_cons_succ, List.getElem_cons_zero, List.setIfInBounds_toArray, List.set_cons_zero, List.set_cons_succ]
          refine wpAnyH_take (i := 10) (v := ?_) rfl (by kernel_rfl) (by kernel_rfl) (by kernel_rfl) (fun _ _ _ h => h) (Or.inl ⟨by rfl, ?_⟩) (by assumption) ?_
          rotate_left
          · (intro w hSw; (try dsimp only at hSw); (try simp only [List.getElem_toArray, List.getElem_cons_succ, List.getElem_cons_zero]); first | (go_simp; done) | (go_simp; with_reducible rfl))
          try simp only [Act.put, List.getElem_toArray, List.getElem_cons_succ, List.getElem_cons_zero, List.setIfInBounds_toArray, List.set_cons_zero, List.set_cons_succ]
          refine wpAnyH_take (i := 11) (v := ?_) rfl (by kernel_rfl) (by kernel_rfl) (by kernel_rfl) (fun _ _ _ h => h) (Or.inl ⟨by rfl, ?_⟩) (by assumption) ?_
          rotate_left
          · (intro w hSw; (try dsimp only at hSw); (try simp only [List.getElem_toArray, List.getElem_cons_succ, List.getElem_cons_zero]); first | (go_simp; done) | (go_simp; with_reducible rfl))
          try simp only [Act.put, List.getElem_toArray, List.getElem_cons_succ, List.getElem_cons_zero, List.setIfInBounds_toArray, List.set_cons_zero, List.set_cons_succ]
          refine wpAnyH_take (i := 12) (v := ?_) rfl (by kernel_rfl) (by kernel_rfl) (by kernel_rfl) (fun _ _ _ h => h) (Or.inl ⟨by rfl, ?_⟩) (by assumption) ?_
          rotate_left
          · (intro w hSw; (try dsimp only at hSw); (try simp only [List.getElem_toArray, List.getElem_cons_succ, List.getElem_cons_zero]); first | (go_simp; done) | (go_simp; with_reducible rfl))
          try simp only [Act.put, List.getElem_toArray, List.getElem_cons_succ, List.getElem_cons_zero, List.setIfInBounds_toArray, List.set_cons_zero, List.set_cons_succ]
          refine wpAnyH_take (i := 13) (v := ?_) rfl (by kernel_rfl) (by kernel_rfl) (by kernel_rfl) (fun _ _ _ h => h) (Or.inl ⟨by rfl, ?_⟩) (by assumption) ?_
          rotate_left
          · (intro w hSw; (try dsimp only at hSw); (try simp only [List.getElem_toArray, List.getElem_cons_succ, List.getElem_cons_zero]); first | (go_simp; done) | (go_simp; with_reducible rfl))
          try simp only [Act.put, List.getElem_toArray, List.getElem_cons_succ, List.getElem_cons_zero, List.setIfInBounds_toArray, List.set_cons_zero, List.set_cons_succ]
          refine wpAnyH_take (i := 15) (v := ?_) rfl (by kernel_rfl) (by kernel_rfl) (by kernel_rfl) (fun _ _ _ h => h) (Or.inl ⟨by rfl, ?_⟩) (by assumption) ?_
          rotate_left
          · (intro w hSw; (try dsimp only at hSw); (try simp only [List.getElem_toArray, List.getElem_cons_succ, List.getElem_cons_zero]); first | (go_simp; done) | (go_simp; with_reducible rfl))
          try simp only [Act.put, List.getElem_toArray, List.getElem_cons_succ, List.getElem_cons_zero, List.setIfInBounds_toArray, List.set_cons_zero, List.set_cons_succ]
          refine wpAnyH_take (i := 16) (v := ?_) rfl (by kernel_rfl) (by kernel_rfl) (by kernel_rfl) (fun _ _ _ h => h) (Or.inl ⟨by rfl, ?_⟩) (by assumption) ?_
          rotate_left
          · (intro w hSw; (try dsimp only at hSw); (try simp only [List.getElem_toArray, List.getElem_cons_succ, List.getElem_cons_zero]); first | (go_simp; done) | (go_simp; with_reducible rfl))
          try simp only [Act.put, List.getElem_toArray, List.getElem_cons_succ, List.getElem_cons_zero, List.setIfInBounds_toArray, List.set_cons_zero, List.set_cons_succ]
          refine wpAnyH_ready (rs := [14]) (by kernel_rfl) (by simp) ?_
          refine AllReadyH.cons rfl (fun K hK => ?_) AllReadyH.nil
          try simp only [List.getElem_toArray, List.getElem_cons_succ, List.getElem_cons_zero]
          go_simp
          go_at_call 22; refine (CostOf_any _ _ _ _ _ _ r5.out).mono ?_; rintro e6 w6 ⟨rfl, hb6⟩; rw [HCO.out]; have g6 : Below wr.heap.size wr w6 := bstep g5 g5.size hb6; have k6 : _ ∧ _ ∧ _ := ⟨(g6.cell (p := ⟨wd.heap.size, 0, none⟩) hz).trans b0, (g6.cell (p := ⟨wd.heap.size, 1, none⟩) hz).trans b1, (g6.cell (p := ⟨bk, ok + k, none⟩) hbkz).trans ck⟩; have r6 := Lib.hid (HRR.out.later g6); have t6 := Lib.hid (HTR.out.later g6)
          refine hK.out _ _ ?_ (fun hHeld => ?_)
          · exact k6
          clear hK K
          try simp only [Act.put, List.getElem_toArray, List.getElem_cons_succ, List.getElem_cons_zero, List.setIfInBounds_toArray, List.set_cons_zero, List.set_cons_succ]
          refine wpAnyH_ready (rs := [17]) (by kernel_rfl) (by simp) ?_
          refine AllReadyH.cons rfl (fun K hK => ?_) AllReadyH.nil
          try simp only [List.getElem_toArray, List.getElem_cons_succ, List.getElem_cons_zero]
          go_simp
          go_at_call 10; refine (RootCost_any _ _ _ _ _ _ r6.out t6.out).mono ?_; rintro e7 w7 ⟨rfl, hb7⟩; rw [HRC.out]; have g7 : Below wr.heap.size wr w7 := bstep g6 g6.size hb7; have k7 : _ ∧ _ ∧ _ := ⟨(g7.cell (p := ⟨wd.heap.size, 0, none⟩) hz).trans b0, (g7.cell (p := ⟨wd.heap.size, 1, none⟩) hz).trans b1, (g7.cell (p := ⟨bk, ok + k, none⟩) hbkz).trans ck⟩; have r7 := Lib.hid (HRR.out.later g7); have t7 := Lib.hid (HTR.out.later g7)
          refine hK.out _ _ ?_ (fun hHeld => ?_)
          · exact k7
          clear hK K
          try simp only [Act.put, List.getElem_toArray, List.getElem_cons_succ, List.getElem_cons_zero, List.setIfInBounds_toArray, List.set_cons_zero, List.set_cons_succ]
          refine wpAnyH_take (i := 18) (v := ?_) rfl (by kernel_rfl) (by kernel_rfl) (by kernel_rfl) (fun _ _ _ h => h) (Or.inl ⟨by rfl, ?_⟩) (by assumption) ?_
          rotate_left
          · (intro w hSw; (try dsimp only at hSw); (try simp only [List.getElem_toArray, List.getElem_cons_succ, List.getElem_cons_zero]); first | (go_simp; done) | (go_simp; with_reducible rfl))
          try simp only [Act.put, List.getElem_toArray, List.getElem_cons_succ, List.getElem_cons_zero, List.setIfInBounds_toArray, List.set_cons_zero, List.set_cons_succ]
          refine wpAnyH_take (i := 19) (v := ?_) rfl (by kernel_rfl) (by kernel_rfl) (by kernel_rfl) (fun _ _ _ h => h) (Or.inl ⟨by rfl, ?_⟩) (by assumption) ?_
          rotate_left
          · (intro w hSw; (try dsimp only at hSw); (try simp only [List.getElem_toArray, List.getElem_cons_succ, List.getElem_cons_zero]); first | (go_simp; done) | (go_simp; with_reducible rfl))
          try simp only [Act.put, List.getElem_toArray, List.getElem_cons_succ, List.getElem_cons_zero, List.setIfInBounds_toArray, List.set_cons_zero, List.set_cons_succ]
          refine wpAnyH_done (by kernel_rfl) ?_ _
          have HB7 := Lib.hid (bstep (B := wd.heap.size) (W := wd) HB0.out (Nat.le_of_lt hz) g7)
          have HF7 := Lib.hid (HF0.out.below g7)
          have z7 := Nat.lt_of_lt_of_le hz g7.size
          obtain ⟨k70, k71, -⟩ := k7
          clear g5 g6 g7 hb5 hb6 hb7 k5 k6 r5 r6 r7 t5 t6 t7
          go_wp2_with fail
          go_loopw [8] (fun c wr => ∃ j : Nat, j ≤ k ∧ c = .int .i64 j ∧ wr.cell? ⟨wd.heap.size, 0, none⟩ = some (.int .i64 nn) ∧ wr.cell? ⟨wd.heap.size, 1, none⟩ = some (.slice A' ws.length c') ∧ Below wd.heap.size wd wr ∧ wd.heap.size < wr.heap.size ∧ RowF wr wd.heap.size w1.heap.size (some ⟨bk, ok, none⟩) ln f) (fun c _ => k - (intOf c).toNat)
          case atStart => exact ⟨0, Nat.zero_le _, rfl, k70, k71, HB7.out, z7, HF7.out⟩
          case round =>
            clear k70 k71 HB7 HF7 z7 b0 b1 ck HRR HTR HB0 HF0 hz hbkz
            obtain ⟨j, hj, rfl, b0, b1, hb, hz, hrf⟩ := hrel
            have HB0 := Lib.hid hb
            have HF0 := Lib.hid hrf
            clear hb hrf
            by_cases hlj : j < k
            · have hj1 : (j : Int) < (k : Int) := by omega
              have j0 : (0 : Int) ≤ (j : Int) := by omega
              have hjl : (j : Int) < (ln : Int) := by omega
              obtain ⟨bk', ok', e', _, _, ck, _⟩ := HF0.out.at_ k hlk
              injection e' with e'
              injection e' with e1 e2
              subst e1; subst e2
              obtain ⟨bj', oj', e', _, _, cj, _⟩ := HF0.out.at_ j (by omega)
              injection e' with e'
              injection e' with e1 e2
              subst e1; subst e2
              have hin := HL.out.in1 j k hlj hlk
              have hbk := HL.out.bd k hlk
              have hbj := HL.out.bd j (by omega)
              rw [HXX.out] at ck hin hbk
              obtain ⟨Y, hY⟩ : ∃ Y, f j = Y := ⟨_, rfl⟩
              rw [hY] at cj hin hbj
              have han1 : bits .andNot .i64 Y X = idiff Y X := bits_andNot _ _ hbj.1 (by omega) hbk.1 (by omega)
              have han2 : bits .andNot .i64 X Y = idiff X Y := bits_andNot _ _ hbk.1 (by omega) hbj.1 (by omega)
              have hd1 : (bits .andNot .i64 Y X == 0) = false := by rw [han1]; exact hin.1
              have hd2 : (bits .andNot .i64 X Y == 0) = false := by rw [han2]; exact hin.2
              clear hin han1 han2 hY hbk hbj
              go_wp2_with fail
              refine wp_region_held_drew (S := (fun w' => w'.cell? ⟨bk, ok + k, none⟩ = some (.int .i64 X) ∧ w'.cell? ⟨bk, ok + j, none⟩ = some (.int .i64 Y))) (by kernel_rfl) ?_ (fun hHeld => ?_)
              · exact ⟨ck, cj⟩
              refine wpAnyH_take (i := 0) (v := ?_) rfl (by kernel_rfl) (by kernel_rfl) (by kernel_rfl) (fun _ _ _ h => h) (Or.inl ⟨by rfl, ?_⟩) (by assumption) ?_
              rotate_left
              · (intro w hSw; (try dsimp only at hSw); (try simp only [List.getElem_toArray, List.getElem_cons_succ, List.getElem_cons_zero]); first | (go_simp; done) | (go_simp; with_reducible rfl))
              try simp only [Act.put, List.getElem_toArray, List.getElem_cons_succ, List.getElem_cons_zero, List.setIfInBounds_toArray, List.set_cons_zero, List.set_cons_succ]
              refine wpAnyH_take (i := 1) (v := ?_) rfl (by kernel_rfl) (by kernel_rfl) (by kernel_rfl) (fun _ _ _ h => h) (Or.inl ⟨by rfl, ?_⟩) (by assumption) ?_
              rotate_left
              · (intro w hSw; (try dsimp only at hSw); (try simp only [List.getElem_toArray, List.getElem_cons_succ, List.getElem_cons_zero]); first | (go_simp; done) | (go_simp; with_reducible rfl))
              try simp only [Act.put, List.getElem_toArray, List.getElem_cons_succ, List.getElem_cons_zero, List.setIfInBounds_toArray, List.set_cons_zero, List.set_cons_succ]
              refine wpAnyH_take (i := 2) (v := ?_) rfl (by kernel_rfl) (by kernel_rfl) (by kernel_rfl) (fun _ _ _ h => h) (Or.inl ⟨by rfl, ?_⟩) (by assumption) ?_
              rotate_left
              · (intro w hSw; (try dsimp only at hSw); (try simp only [List.getElem_toArray, List.getElem_cons_succ, List.getElem_cons_zero]); first | (go_simp; done) | (go_simp; with_reducible rfl))
              try simp only [Act.put, List.getElem_toArray, List.getElem_cons_succ, List.getElem_cons_zero, List.setIfInBounds_toArray, List.set_cons_zero, List.set_cons_succ]
              refine wpAnyH_take (i := 3) (v := ?_) rfl (by kernel_rfl) (by kernel_rfl) (by kernel_rfl) (fun _ _ _ h => h) (Or.inl ⟨by rfl, ?_⟩) (by assumption) ?_
              rotate_left
              · (intro w hSw; (try dsimp only at hSw); (try simp only [List.getElem_toArray, List.getElem_cons_succ, List.getElem_cons_zero]); first | (go_simp; done) | (go_simp; with_reducible rfl))
              try simp only [Act.put, List.getElem_toArray, List.getElem_cons_succ, List.getElem_cons_zero, List.setIfInBounds_toArray, List.set_cons_zero, List.set_cons_succ]
              refine wpAnyH_take (i := 4) (v := ?_) rfl (by kernel_rfl) (by kernel_rfl) (by kernel_rfl) (fun _ _ _ h => h) (Or.inl ⟨by rfl, ?_⟩) (by assumption) ?_
              rotate_left
              · (intro w hSw; (try dsimp only at hSw); (try simp only [List.getElem_toArray, List.getElem_cons_succ, List.getElem_cons_zero]); first | (go_simp; done) | (go_simp; with_reducible rfl))
              try simp only [Act.put, List.getElem_toArray, List.getElem_cons_succ, List.getElem_cons_zero, List.setIfInBounds_toArray, List.set_cons_zero, List.set_cons_succ]
              refine wpAnyH_take (i := 5) (v := ?_) rfl (by kernel_rfl) (by kernel_rfl) (by kernel_rfl) (fun _ _ _ h => h) (Or.inl ⟨by rfl, ?_⟩) (by assumption) ?_
              rotate_left
              · (intro w hSw; (try dsimp only at hSw); (try simp only [List.getElem_toArray, List.getElem_cons_succ, List.getElem_cons_zero]); first | (go_simp; done) | (go_simp; with_reducible rfl))
              try simp only [Act.put, List.getElem_toArray, List.getElem_cons_succ, List.getElem_cons_zero, List.setIfInBounds_toArray, List.set_cons_zero, List.set_cons_succ]
              refine wpAnyH_take (i := 6) (v := ?_) rfl (by kernel_rfl) (by kernel_rfl) (by kernel_rfl) (fun _ _ _ h => h) (Or.inl ⟨by rfl, ?_⟩) (by assumption) ?_
              rotate_left
              · (intro w hSw; (try dsimp only at hSw); (try simp only [List.getElem_toArray, List.getElem_cons_succ, List.getElem_cons_zero]); first | (go_simp; done) | (go_simp; with_reducible rfl))
              try simp only [Act.put, List.getElem_toArray, List.getElem_cons_succ, List.getElem_cons_zero, List.setIfInBounds_toArray, List.set_cons_zero, List.set_cons_succ]
              refine wpAnyH_take (i := 7) (v := ?_) rfl (by kernel_rfl) (by kernel_rfl) (by kernel_rfl) (fun _ _ _ h => h) (Or.inl ⟨by rfl, ?_⟩) (by assumption) ?_
              rotate_left
              · (intro w hSw; (try dsimp only at hSw); (try simp only [List.getElem_toArray, List.getElem_cons_succ, List.getElem_cons_zero]); first | (go_simp; done) | (go_simp; with_reducible rfl))
              try simp only [Act.put, List.getElem_toArray, List.getElem_cons_succ, List.getElem_cons_zero, List.setIfInBounds_toArray, List.set_cons_zero, List.set_cons_succ]
              refine wpAnyH_take (i := 8) (v := ?_) rfl (by kernel_rfl) (by kernel_rfl) (by kernel_rfl) (fun _ _ _ h => h) (Or.inl ⟨by rfl, ?_⟩) (by assumption) ?_
              rotate_left
              · (intro w hSw; (try dsimp only at hSw); (try simp only [List.getElem_toArray, List.getElem_cons_succ, List.getElem_cons_zero]); first | (go_simp; done) | (go_simp; with_reducible rfl))
              try simp only [Act.put, List.getElem_toArray, List.getElem_cons_succ, List.getElem_cons_zero, List.setIfInBounds_toArray, List.set_cons_zero, List.set_cons_succ]
              refine wpAnyH_take (i := 9) (v := ?_) rfl (by kernel_rfl) (by kernel_rfl) (by kernel_rfl) (fun _ _ _ h => h) (Or.inl ⟨by rfl, ?_⟩) (by assumption) ?_
              rotate_left
              · (intro w hSw; (try dsimp only at hSw); (try simp only [List.getElem_toArray, List.getElem_cons_succ, List.getElem_cons_zero]); first | (go_simp; done) | (go_simp; with_reducible rfl))
              try simp only [Act.put, List.getElem_toArray, List.getElem_cons_succ, List.getElem_cons_zero, List.setIfInBounds_toArray, List.set_cons_zero, List.set_cons_succ]
              refine wpAnyH_take (i := 10) (v := ?_) rfl (by kernel_rfl) (by kernel_rfl) (by kernel_rfl) (fun _ _ _ h => h) (Or.inl ⟨by rfl, ?_⟩) (by assumption) ?_
              rotate_left
              · (intro w hSw; (try dsimp only at hSw); (try simp only [List.getElem_toArray, List.getElem_cons_succ, List.getElem_cons_zero]); first | (go_simp; done) | (go_simp; with_reducible rfl))
              try simp only [Act.put, List.getElem_toArray, List.getElem_cons_succ, List.getElem_cons_zero, List.setIfInBounds_toArray, List.set_cons_zero, List.set_cons_succ]
              refine wpAnyH_take (i := 11) (v := ?_) rfl (by kernel_rfl) (by kernel_rfl) (by kernel_rfl) (fun _ _ _ h => h) (Or.inl ⟨by rfl, ?_⟩) (by assumption) ?_
              rotate_left
              · (intro w hSw; (try dsimp only at hSw); (try simp only [List.getElem_toArray, List.getElem_cons_succ, List.getElem_cons_zero]); first | (go_simp; done) | (go_simp; with_reducible rfl))
              try simp only [Act.put, List.getElem_toArray, List.getElem_cons_succ, List.getElem_cons_zero, List.setIfInBounds_toArray, List.set_cons_zero, List.set_cons_succ]
              refine wpAnyH_take (i := 12) (v := ?_) rfl (by kernel_rfl) (by kernel_rfl) (by kernel_rfl) (fun _ _ _ h => h) (Or.inl ⟨by rfl, ?_⟩) (by assumption) ?_
              rotate_left
              · (intro w hSw; (try dsimp only at hSw); (try simp only [List.getElem_toArray, List.getElem_cons_succ, List.getElem_cons_zero]); first | (go_simp; done) | (go_simp; with_reducible rfl))
              try simp only [Act.put, List.getElem_toArray, List.getElem_cons_succ, List.getElem_cons_zero, List.setIfInBounds_toArray, List.set_cons_zero, List.set_cons_succ]
              refine wpAnyH_take (i := 13) (v := ?_) rfl (by kernel_rfl) (by kernel_rfl) (by kernel_rfl) (fun _ _ _ h => h) (Or.inl ⟨by rfl, ?_⟩) (by assumption) ?_
              rotate_left
              · (intro w hSw; (try dsimp only at hSw); (try simp only [List.getElem_toArray, List.getElem_cons_succ, List.getElem_cons_zero]); first | (go_simp; done) | (go_simp; with_reducible rfl))
              try simp only [Act.put, List.getElem_toArray, List.getElem_cons_succ, List.getElem_cons_zero, List.setIfInBounds_toArray, List.set_cons_zero, List.set_cons_succ]
              refine wpAnyH_take (i := 14) (v := ?_) rfl (by kernel_rfl) (by kernel_rfl) (by kernel_rfl) (fun _ _ _ h => h) (Or.inl ⟨by rfl, ?_⟩) (by assumption) ?_
              rotate_left
              · (intro w hSw; (try dsimp only at hSw); (try simp only [List.getElem_toArray, List.getElem_cons_succ, List.getElem_cons_zero]); first | (go_simp; done) | (go_simp; with_reducible rfl))
              try simp only [Act.put, List.getElem_toArray, List.getElem_cons_succ, List.getElem_cons_zero, List.setIfInBounds_toArray, List.set_cons_zero, List.set_cons_succ]
              refine wpAnyH_take (i := 15) (v := ?_) rfl (by kernel_rfl) (by kernel_rfl) (by kernel_rfl) (fun _ _ _ h => h) (Or.inl ⟨by rfl, ?_⟩) (by assumption) ?_
              rotate_left
              · (intro w hSw; (try dsimp only at hSw); (try simp only [List.getElem_toArray, List.getElem_cons_succ, List.getElem_cons_zero]); first | (go_simp; done) | (go_simp; with_reducible rfl))
              try simp only [Act.put, List.getElem_toArray, List.getElem_cons_succ, List.getElem_cons_zero, List.setIfInBounds_toArray, List.set_cons_zero, List.set_cons_succ]
              refine wpAnyH_take (i := 16) (v := ?_) rfl (by kernel_rfl) (by kernel_rfl) (by kernel_rfl) (fun _ _ _ h => h) (Or.inl ⟨by rfl, ?_⟩) (by assumption) ?_
              rotate_left
              · (intro w hSw; (try dsimp only at hSw); (try simp only [List.getElem_toArray, List.getElem_cons_succ, List.getElem_cons_zero]); first | (go_simp; done) | (go_simp; with_reducible rfl))
              try simp only [Act.put, List.getElem_toArray, List.getElem_cons_succ, List.getElem_cons_zero, List.setIfInBounds_toArray, List.set_cons_zero, List.set_cons_succ]
              refine wpAnyH_take (i := 17) (v := ?_) rfl (by kernel_rfl) (by kernel_rfl) (by kernel_rfl) (fun _ _ _ h => h) (Or.inl ⟨by rfl, ?_⟩) (by assumption) ?_
              rotate_left
              · (intro w hSw; (try dsimp only at hSw); (try simp only [List.getElem_toArray, List.getElem_cons_succ, List.getElem_cons_zero]); first | (go_simp; done) | (go_simp; with_reducible rfl))
              try simp only [Act.put, List.getElem_toArray, List.getElem_cons_succ, List.getElem_cons_zero, List.setIfInBounds_toArray, List.set_cons_zero, List.set_cons_succ]
              refine wpAnyH_take (i := 18) (v := ?_) rfl (by kernel_rfl) (by kernel_rfl) (by kernel_rfl) (fun _ _ _ h => h) (Or.inl ⟨by rfl, ?_⟩) (by assumption) ?_
              rotate_left
              · (intro w hSw; (try dsimp only at hSw); (try simp only [List.getElem_toArray, List.getElem_cons_succ, List.getElem_cons_zero]); first | (go_simp; done) | (go_simp; with_reducible rfl))
              try simp only [Act.put, List.getElem_toArray, List.getElem_cons_succ, List.getElem_cons_zero, List.setIfInBounds_toArray, List.set_cons_zero, List.set_cons_succ]
              refine wpAnyH_take (i := 19) (v := ?_) rfl (by kernel_rfl) (by kernel_rfl) (by kernel_rfl) (fun _ _ _ h => h) (Or.inl ⟨by rfl, ?_⟩) (by assumption) ?_
              rotate_left
              · (intro w hSw; (try dsimp only at hSw); (try simp only [List.getElem_toArray, List.getElem_cons_succ, List.getElem_cons_zero]); first | (go_simp; done) | (go_simp; with_reducible rfl))
              try simp only [Act.put, List.getElem_toArray, List.getElem_cons_succ, List.getElem_cons_zero, List.setIfInBounds_toArray, List.set_cons_zero, List.set_cons_succ]
              refine wpAnyH_take (i := 20) (v := ?_) rfl (by kernel_rfl) (by kernel_rfl) (by kernel_rfl) (fun _ _ _ h => h) (Or.inl ⟨by rfl, ?_⟩) (by assumption) ?_
              rotate_left
              · (intro w hSw; (try dsimp only at hSw); (try simp only [List.getElem_toArray, List.getElem_cons_succ, List.getElem_cons_zero]); first | (go_simp; done) | (go_simp; with_reducible rfl))
              try simp only [Act.put, List.getElem_toArray, List.getElem_cons_succ, List.getElem_cons_zero, List.setIfInBounds_toArray, List.set_cons_zero, List.set_cons_succ]
              refine wpAnyH_take (i := 21) (v := ?_) rfl (by kernel_rfl) (by kernel_rfl) (by kernel_rfl) (fun _ _ _ h => h) (Or.inl ⟨by rfl, ?_⟩) (by assumption) ?_
              rotate_left
              · (intro w hSw; (try dsimp only at hSw); (try simp only [List.getElem_toArray, List.getElem_cons_succ, List.getElem_cons_zero]); first | (go_simp; done) | (go_simp; with_reducible rfl))
              try simp only [Act.put, List.getElem_toArray, List.getElem_cons_succ, List.getElem_cons_zero, List.setIfInBounds_toArray, List.set_cons_zero, List.set_cons_succ]
              refine wpAnyH_done (by kernel_rfl) ?_ _
              go_wp2_with fail
              go_roundw
              case rel => exact ⟨j + 1, by omega, by go_num, b0, b1, HB0.out.drew, hz, HF0.out.below (Below.refl _ _).drew⟩
              case measure => (simp [intOf]) <;> omega
            · have hj1 : ¬ (j : Int) < (k : Int) := by omega
              go_wp2_with fail
              go_roundw
              case rel => exact ⟨k + 1, by omega, by go_num, b0, b1, HB0.out, hz, HF0.out⟩
              case measure => (simp [intOf]) <;> omega
        · have hk1 : ¬ (k : Int) < (ln : Int) := by omega
          go_wp2_with fail
          refine (ascend_any _ _ _ _ _ _ _ HF0.out (by omega) HL.out.asc).mono ?_; rintro e w8 ⟨rfl, hb8⟩
          have hz8 : wd.heap.size < w8.heap.size := Nat.lt_of_lt_of_le hz hb8.size
          have HF8 := Lib.hid (HF0.out.below hb8)
          have HB8 := Lib.hid (bstep (B := wd.heap.size) (W := wd) HB0.out (Nat.le_of_lt hz) hb8)
          clear hb8
          go_wp2_with fail
          refine (hasInt_any _ _ _ _ _ _ _ _ HF8.out (by omega) HL.out.has).mono ?_; rintro e w9 ⟨rfl, hb9⟩
          have HB9 := Lib.hid (bstep (B := wd.heap.size) (W := wd) HB8.out (Nat.le_of_lt hz8) hb9)
          clear hb9
          go_wp2_with fail
          go_ret
          exact ⟨rfl, bstep HBD.out hzd HB9.out⟩
end Go.Proofs.YtbbomajgmgmigaaDoor
