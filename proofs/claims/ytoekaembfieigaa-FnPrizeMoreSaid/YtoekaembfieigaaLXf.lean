/- The law of prizes: a greater prize gains at most as much more. -/
import Derived.Test.YtoekaembfieigaaPzI
import Derived.Test.YtoekaembfieigaaPzL
import Derived.Test.YtoekaembfieigaaCuA
import Derived.Test.YtoekaembfieigaaWC
import Derived.Test.YtoekaembfieigaaMC
import Derived.Test.YtoekaembfieigaaWPy
set_option linter.unusedSimpArgs false
set_option linter.unusedVariables false
attribute [local go_sem ↓] Go.wp_at_zero Go.wp_at_succ
namespace Go.Proofs.Ytoekaembfieigaa
open Go.ChangeShapes Go.WideShapes Go.ChangeAt Go.RowKit

theorem rl_mem {w : World} {b : Nat} {L : List Int} {B : Nat} (h : RI w B (some ⟨b, 0, none⟩) L) : ∀ j u, (rlCells L)[j]? = some u → w.cell? ((⟨b, 0, none⟩ : Addr).add j) = some u := fun j u hu => by
  have hj : j < L.length := by have := (List.getElem?_eq_some_iff.1 hu).1; rwa [rlCells_len] at this
  rw [rlCells_at hj] at hu
  injection hu with hu
  obtain ⟨b', o', ha, _, hc⟩ := h.at_ hj
  injection ha with ha; injection ha with e1 e2; subst e1; subst e2
  have add0 : (⟨b, 0, none⟩ : Addr).add j = ⟨b, 0 + j, none⟩ := by unfold Addr.add; split <;> simp_all
  rw [add0, hc, hu]
theorem rl_one {L : List Int} : ∀ u ∈ rlCells L, u.oneCell' = true := fun u hu => by
  unfold rlCells at hu
  obtain ⟨x, _, rfl⟩ := List.mem_map.1 hu
  rfl
theorem RI.cellAt {w : World} {B b : Nat} {L : List Int} (h : RI w B (some ⟨b, 0, none⟩) L) {j : Nat} {x : Int} (hx : L[j]? = some x) : w.cell? ⟨b, j, none⟩ = some (.int .i64 x) := by
  obtain ⟨b', o', ha, _, hc⟩ := h j x hx
  injection ha with ha; injection ha with e1 e2; subst e1; subst e2
  simpa using hc
/-- the last prize one more -/
def morePz (pz : List Int) (l : Nat) (j : Nat) : Int := if j = l then pz.getD l 0 + 1 else pz.getD j 0
theorem more_ok {n : Int} {ws : List Wy} {pz : List Int} (h : PzIs n ws pz) {l : Nat} (hl : l < pz.length) (h20 : pz.getD l 0 ≠ 20) : PzIs n ws ((List.range pz.length).map (morePz pz l)) := by
  refine ⟨h.ok, by simpa using h.len, ?_⟩
  rw [List.all_eq_true]
  intro x hx
  obtain ⟨j, hj, rfl⟩ := List.mem_map.1 hx
  have h1 := pz_in h.ins j
  have h2 := pz_in h.ins l
  unfold morePz
  generalize pz.getD j 0 = u at *
  generalize pz.getD l 0 = v at *
  unfold prizeIn inB
  split
  · rw [Bool.and_eq_true, decide_eq_true_eq, decide_eq_true_eq]; omega
  · rw [Bool.and_eq_true, decide_eq_true_eq, decide_eq_true_eq]; omega
theorem more_no {n : Int} {ws : List Wy} {pz : List Int} {l : Nat} (hl : l < pz.length) (h20 : pz.getD l 0 = 20) : prizesOk n ws ((List.range pz.length).map (morePz pz l)) = false := by
  have : ((List.range pz.length).map (morePz pz l)).all prizeIn = false := by
    rw [List.all_eq_false]
    refine ⟨21, List.mem_map.2 ⟨l, by simpa using hl, ?_⟩, by decide⟩
    unfold morePz; rw [if_pos rfl, h20]; rfl
  unfold prizesOk
  rw [this]; simp
theorem more_at {pz : List Int} {l : Nat} (hl : l < pz.length) (j : Nat) : ((List.range pz.length).map (morePz pz l)).getD j 0 = pz.getD j 0 + if j = l then 1 else 0 := by
  rw [map_getD]
  unfold morePz
  by_cases h : j < pz.length
  · rw [if_pos h]
    by_cases e : j = l
    · subst e; rw [if_pos rfl, if_pos rfl]
    · rw [if_neg e, if_neg e, Int.add_zero]
  · rw [if_neg h, if_neg (by omega), Int.add_zero, List.getD_eq_getElem?_getD, List.getElem?_eq_none (by omega)]; rfl
theorem zeros_ok {n : Int} {ws : List Wy} {m : Nat} (h : netOk n ws = true) (hm : (m : Int) = n) : PzIs n ws (List.replicate m 0) := by
  refine ⟨h, by simpa using hm, ?_⟩
  rw [List.all_eq_true]
  intro x hx
  rw [(List.mem_replicate.1 hx).2]; decide
theorem zeros_at (m j : Nat) : (List.replicate m (0 : Int)).getD j 0 = 0 := by
  rw [List.getD_eq_getElem?_getD, List.getElem?_replicate]; split <;> rfl
theorem BestGain_zeros (m : Nat) (A : Option Addr) (cap : Nat) (ws : List Wy) (Ar : Option Addr) (cr : Nat) (w : World) (hr : RW w w.heap.size A ws) (hi : RI w w.heap.size Ar (List.replicate m 0)) :
    Calls Try.prog 21 #[.agg #[.int .i64 m, .slice A ws.length cap], .slice Ar m cr] w fun en w' => en = .returned (.int .i64 (bestGain m ws (List.replicate m 0))) ∧ Below w.heap.size w w' := by
  have h := BestGain_any (m : Int) A cap ws Ar cr (List.replicate m 0) w hr hi
  rwa [List.length_replicate] at h
theorem zeros_ri (w : World) (m : Nat) (t : TypeId) : RI (w.alloc (.cells (Array.replicate m (.int .i64 0)) t)) (w.alloc (.cells (Array.replicate m (.int .i64 0)) t)).heap.size (some ⟨w.heap.size, 0, none⟩) (List.replicate m 0) := by
  intro i x hx
  rw [List.getElem?_replicate] at hx
  split at hx
  · injection hx with hx
    subst hx
    refine ⟨w.heap.size, 0, rfl, by simp, ?_⟩
    rw [cell_of_row _ _ _ _ _ (0, 0) (heap_alloc_new w _), Nat.zero_add, Array.getElem?_replicate, if_pos (by assumption)]
  · cases hx
set_option maxRecDepth 100000 in
set_option maxHeartbeats 2000000 in
theorem FnPrizeMore_walk (A : Option Addr) (len cap : Nat) (w : World) (hr : RB w w.heap.size A len) (hc : len ≤ cap) (hlen : len ≤ 9223372036854775807) :
    Calls Try.prog 7 #[.slice A len cap] w fun e w' => e = .returned (.bool true) ∧ Below w.heap.size w w' := by
  have HR := Lib.hid hr
  clear hr
  by_cases hm : 1048576 < len
  · go_enter Try.func7, Try.ntmps7
    go_wp2_with fail
    go_ret
    exact ⟨rfl, Below.refl _ _⟩
  · go_enter Try.func7, Try.ntmps7
    go_wp2_with fail
    refine (DrawBestGain_any A len cap _ HR.out hc (by omega)).mono ?_
    rintro e wd ⟨nn, A', c', ws, bc, cc, pz, rfl, hrw, hl10, hcc, hn0, hn7, hri, hpz8, hbd⟩
    have HRW := Lib.hid hrw
    have HBD := Lib.hid hbd
    have hzd : w.heap.size ≤ wd.heap.size := hbd.size
    clear hrw hbd
    have HRI := Lib.hid hri
    clear hri
    cases hok : prizesOk nn ws pz
    · have HQ := Lib.hid (best_no hok).1
      clear hok
      go_wp2_with fail
      refine (BestGain_any _ _ _ _ _ _ _ _ (HRW.out.later (by go_grown)) (HRI.out.later (by go_grown))).mono ?_; rintro e w1 ⟨rfl, hb1⟩
      rw [HQ.out]
      obtain ⟨hc1, hf1⟩ := bcell hb1
      have hz1_0 : wd.heap.size < w1.heap.size := by have hq := hb1.size; (try simp at hq); omega
      have HK1 := Lib.hid hb1
      have HB1 := Lib.hid (bstep (B := wd.heap.size) (W := wd) (by (try have hp := HB0.out); go_grown) (by go_size) hb1); clear hb1
      go_wp2_with fail
      refine (sBestGain_any _ _ _ _ _ _ _ _ (HRW.out.later (by have := HB1.out; go_grown)) (by omega) (HRI.out.later (by have := HB1.out; go_grown)) (by omega)).mono ?_; rintro e w2 ⟨rfl, hb2⟩
      rw [HQ.out]
      obtain ⟨hc2, hf2⟩ := bcell hb2
      have hz2_0 : wd.heap.size < w2.heap.size := by have hq := hb2.size; (try simp at hq); omega
      have HK2 := Lib.hid hb2
      have HB2 := Lib.hid (bstep (B := wd.heap.size) (W := wd) (by have hp := HB1.out; go_grown) (by go_size) hb2); clear hb2
      go_wp2_with fail
      refine (alive_any _).mono ?_; rintro e w3 ⟨rfl, hb3⟩
      obtain ⟨hc3, hf3⟩ := bcell hb3
      have hz3_0 : wd.heap.size < w3.heap.size := by have hq := hb3.size; (try simp at hq); omega
      have HK3 := Lib.hid hb3
      have HB3 := Lib.hid (bstep (B := wd.heap.size) (W := wd) (by have hp := HB2.out; go_grown) (by go_size) hb3); clear hb3
      go_wp2_with fail
      go_ret
      exact ⟨rfl, bstep HBD.out hzd HB3.out⟩
    · have hpi := prizesOk_iff.1 hok
      have hni := netOk_t hpi.ok
      obtain ⟨m, rfl⟩ : ∃ m : Nat, nn = m := ⟨nn.toNat, by omega⟩
      have hm6 : m ≤ 6 := by have := hni.hi; omega
      have hm2 : 2 ≤ m := by have := hni.lo; omega
      have hlen : pz.length = m := by have := hpi.len; omega
      obtain ⟨l, hl⟩ : ∃ l, m = l + 1 := ⟨m - 1, by omega⟩
      have hll : l < pz.length := by omega
      have hq := best_is hok
      have hbb := bgTo_bd hpi (2 ^ ws.length)
      have hzq : bestGain (m : Int) ws (List.replicate m 0) = 0 := by
        rw [best_is (prizesOk_iff.2 (zeros_ok hpi.ok rfl))]
        exact bg_zeros hni (zeros_at m) _
      obtain ⟨Q, hQ⟩ : ∃ Q, bgTo ws pz (2 ^ ws.length) = Q := ⟨_, rfl⟩
      obtain ⟨P, hP⟩ : ∃ P, pz.getD l 0 = P := ⟨_, rfl⟩
      have hpb := pz_in hpi.ins l
      have hmq : (P = 20 ∧ bestGain (m : Int) ws ((List.range pz.length).map (morePz pz l)) = -1) ∨ (P ≠ 20 ∧ (bestGain (m : Int) ws ((List.range pz.length).map (morePz pz l)) = Q ∨ bestGain (m : Int) ws ((List.range pz.length).map (morePz pz l)) = Q + 1)) := by
        by_cases h20 : pz.getD l 0 = 20
        · exact .inl ⟨by omega, (best_no (more_no hll h20)).1⟩
        · refine .inr ⟨by omega, ?_⟩
          rw [best_is (prizesOk_iff.2 (more_ok hpi hll h20))]
          have h9 := bg_more (ws := ws) (pz := pz) (pz' := (List.range pz.length).map (morePz pz l)) (l := l) (by simp) (more_at hll) (2 ^ ws.length)
          rw [hQ] at h9
          omega
      obtain ⟨Y, hY⟩ : ∃ Y, bestGain (m : Int) ws ((List.range pz.length).map (morePz pz l)) = Y := ⟨_, rfl⟩
      rw [hY] at hmq
      rw [hQ] at hq hbb
      rw [hP] at hpb
      have HQ := Lib.hid hq
      have HY := Lib.hid hY
      have HZQ := Lib.hid hzq
      have HMQ := Lib.hid hmq
      have HPL : Hid (pz[l]? = some P) := by
        show _ = _
        rw [List.getElem?_eq_getElem hll, ← hP, List.getD_eq_getElem?_getD, List.getElem?_eq_getElem hll]; rfl
      have HPV := Lib.hid hP
      have HLL := Lib.hid hll
      have HLN := Lib.hid hlen
      have HML := Lib.hid hl
      have hbs := emptyInts
      have hmk := fun W => mkInts' W m hm6
      have HMK := Lib.hid hmk
      obtain ⟨i0, hi0, hz0, hz1', hz2⟩ := info_parts infoInt
      have hqn : ¬ Q < 0 := by omega
      have hln8 : pz.length ≤ 8 := hpz8
      have hn1 : IntKind.i64.wrap ((pz.length : Int) - 1) = (l : Int) := by rw [show (pz.length : Int) - 1 = (l : Int) from by omega]; exact IntWalk.i64_in _ ⟨by omega, by omega⟩
      have hn2 : wrap64 ((pz.length : Int) - 1) = (l : Int) := by rw [show (pz.length : Int) - 1 = (l : Int) from by omega]; exact IntWalk.wrap64_in _ ⟨by omega, by omega⟩
      have HIX : Hid ((pz.length : Int) - 1 = (l : Int)) := by show _ = _; omega
      have HW9 : Hid (IntKind.i64.wrap (l : Int) = (l : Int)) := IntWalk.i64_in _ ⟨by omega, by omega⟩
      have HW8 : Hid (wrap64 (l : Int) = (l : Int)) := IntWalk.wrap64_in _ ⟨by omega, by omega⟩
      have HN1 := Lib.hid hn1
      have HN2 := Lib.hid hn2
      have hp1 : IntKind.i64.wrap (P + 1) = P + 1 := IntWalk.i64_in _ ⟨by omega, by omega⟩
      have hp2 : wrap64 (P + 1) = P + 1 := IntWalk.wrap64_in _ ⟨by omega, by omega⟩
      have HP1 := Lib.hid hp1
      have HP2 := Lib.hid hp2
      have hl0 : (0 : Int) ≤ (l : Int) := by omega
      have hl1 : (l : Int) < (pz.length : Int) := by omega
      clear hok hpi hni hq hzq hQ hP hmq hY hn1 hn2 hp1 hp2 hmk hlen hl
      go_wp2_with fail
      refine (BestGain_any _ _ _ _ _ _ _ _ (HRW.out.later (by go_grown)) (HRI.out.later (by go_grown))).mono ?_; rintro e w1 ⟨rfl, hb1⟩
      rw [HQ.out]
      obtain ⟨hc1, hf1⟩ := bcell hb1
      have hz1_0 : wd.heap.size < w1.heap.size := by have hq := hb1.size; (try simp at hq); omega
      have HK1 := Lib.hid hb1
      have HB1 := Lib.hid (bstep (B := wd.heap.size) (W := wd) (by (try have hp := HB0.out); go_grown) (by go_size) hb1); clear hb1
      have k1 : w1.cell? ⟨wd.heap.size, 0, none⟩ = some (.int .i64 m) ∧ w1.cell? ⟨wd.heap.size, 1, none⟩ = some (.slice A' ws.length c') := ⟨by go_simp, by go_simp⟩
      have HRJ := Lib.hid (HRI.out.later HB1.out)
      clear hc1 hf1
      obtain ⟨k10, k11⟩ := k1
      have hown0 := World.ownsRow_made (base := w1.heap.size) (e := 3) (size := 1) w1 #[] 0 (Nat.le_refl _) (by unfold maxLen; omega) rfl
      have HO0 := Lib.hid hown0
      clear hown0
      have hix := HIX.out
      have w9 := HW9.out
      have w8 := HW8.out
      have n1 := HN1.out
      have n2 := HN2.out
      go_wp2_with (at_builtin; (clear hix w9 w8 n1 n2); refine wpList_append_copy rfl _ _ _ rfl w1.heap.size 3 i0 _ 1 8 Try.underlying26 hi0 hz0 hz1' hz2 rfl (by omega) (.slice (some ⟨w1.heap.size, 0, none⟩) 0 0) rfl HO0.out ⟨bc, 0, none⟩ pz.length cc (rlCells pz) rfl (by rw [rlCells_len]; omega) (rl_mem (HRJ.out.later ((Below.refl _ _).alloc (Nat.le_refl _) _))) rl_one (by unfold maxLen; omega) (by omega) (by simp) ?_; intro Ag cg w2 hown2 hgrow2; rw [← numCells_list] at hown2; obtain ⟨gg, rfl, hgg, r1, r2, hput⟩ := own_put hown2 HLL.out; rw [HPV.out] at r1; have hk2 : w2.heap[wd.heap.size]? = w1.heap[wd.heap.size]? := (hgrow2.block _ (by simp; omega) (by simp [Value.ownBlock]; omega)).trans (Below.heap_alloc _ _ _ hz1_0); have k20 : w2.cell? ⟨wd.heap.size, 0, none⟩ = some (.int .i64 m) := (World.cell?_of_block (w := w1) hk2).trans k10; have k21 : w2.cell? ⟨wd.heap.size, 1, none⟩ = some (.slice A' ws.length c') := (World.cell?_of_block (w := w1) hk2).trans k11; have hgw : wd.heap.size < gg := (by omega); have kP0 : (w2.setCell ⟨gg, l, none⟩ (.int .i64 (P + 1))).cell? ⟨wd.heap.size, 0, none⟩ = some (.int .i64 m) := (World.cell?_of_block (w := w2) (Below.heap_setCell _ _ _ _ (by simp; omega))).trans k20; have kP1 : (w2.setCell ⟨gg, l, none⟩ (.int .i64 (P + 1))).cell? ⟨wd.heap.size, 1, none⟩ = some (.slice A' ws.length c') := (World.cell?_of_block (w := w2) (Below.heap_setCell _ _ _ _ (by simp; omega))).trans k21; have hlln : l < pz.length := HLL.out; have hix := HIX.out; have w9 := HW9.out; have w8 := HW8.out; have n1 := HN1.out; have n2 := HN2.out; have p1 := HP1.out; have p2 := HP2.out)
      clear hix w9 w8 n1 n2 p1 p2
      have HB2 : Hid (Below wd.heap.size wd w2) := by
        have h9 := HB1.out.alloc (Nat.le_of_lt hz1_0) (.cells #[] 3)
        exact ⟨hgrow2.os.trans h9.os, hgrow2.tape.trans h9.tape, hgrow2.output.trans h9.output, Nat.le_trans h9.size hgrow2.size, fun i hi => (hgrow2.block i (by simp; omega) (by simp [Value.ownBlock]; omega)).trans (h9.block i hi)⟩
      have hz2w : wd.heap.size < w2.heap.size := by have := hgrow2.size; simp at this; omega
      have HOW := Lib.hid (hput (P + 1))
      have hgl : gg < w2.heap.size := World.block_lt_of_cell? w2 _ r1
      clear hown2 hgrow2 hput hk2 k10 k11 hbs
      have HB2P : Hid (Below wd.heap.size wd (w2.setCell ⟨gg, l, none⟩ (.int .i64 (P + 1)))) := HB2.out.setCell (p := ⟨gg, l, none⟩) (Nat.le_of_lt hgw) _
      have HGR : Hid (RI (w2.setCell ⟨gg, l, none⟩ (.int .i64 (P + 1))) (w2.setCell ⟨gg, l, none⟩ (.int .i64 (P + 1))).heap.size (some ⟨gg, 0, none⟩) ((List.range pz.length).map (morePz pz l))) := by
        have h9 := own_ri HOW.out
        have he : (fun j => if j = l then P + 1 else pz.getD j 0) = morePz pz l := by
          funext j
          unfold morePz
          rw [HPV.out]
        rw [he] at h9
        exact h9
      have hzP : wd.heap.size < (w2.setCell ⟨gg, l, none⟩ (.int .i64 (P + 1))).heap.size := by simpa [World.setCell] using hz2w
      have hlm : ((List.range pz.length).map (morePz pz l)).length = pz.length := by simp
      have hbg := BestGain_any (m : Int) A' c' ws (some ⟨gg, 0, none⟩) cg ((List.range pz.length).map (morePz pz l)) (w2.setCell ⟨gg, l, none⟩ (.int .i64 (P + 1))) (HRW.out.later HB2P.out) HGR.out
      rw [hlm] at hbg
      refine hbg.mono ?_; rintro e3 w3 ⟨rfl, hb3⟩
      rw [HY.out]
      have HB3 := Lib.hid (bstep (B := wd.heap.size) (W := wd) HB2P.out (Nat.le_of_lt hzP) hb3)
      have hz3 := Nat.lt_of_lt_of_le hzP hb3.size
      obtain ⟨k30, k31⟩ := keep2 hb3 ⟨kP0, kP1⟩ hzP
      have HZR := Lib.hid (zeros_ri w3 m 3)
      clear hb3 hbg kP0 kP1 k20 k21 r1 r2 HOW HGR hlm
      have hmk := HMK.out
      go_wp2_with fail
      refine wp_region_held_drew (S := (fun w' => w'.cell? ⟨wd.heap.size, 0, none⟩ = some (.int .i64 m) ∧ w'.cell? ⟨wd.heap.size, 1, none⟩ = some (.slice A' ws.length c'))) (by kernel_rfl) ?_ (fun hHeld => ?_)
      · exact ⟨k30, k31⟩
      refine wpAnyH_take (i := 0) (v := ?_) rfl (by kernel_rfl) (by kernel_rfl) (by kernel_rfl) (fun _ _ _ h => h) (Or.inl ⟨by rfl, ?_⟩) (by assumption) ?_
      rotate_left
      · (intro w hSw; (try dsimp only at hSw); (try simp only [List.getElem_toArray, List.getElem_cons_succ, List.getElem_cons_zero]); first | (go_simp; done) | (go_simp; with_reducible rfl))
      try simp only [Act.put, List.getElem_toArray, List.getElem_cons_succ, List.getElem_cons_zero, List.setIfInBounds_toArray, List.set_cons_zero, List.set_cons_succ]
      refine wpAnyH_take (i := 1) (v := ?_) rfl (by kernel_rfl) (by kernel_rfl) (by kernel_rfl) (fun _ _ _ h => h) (Or.inl ⟨by rfl, ?_⟩) (by assumption) ?_
      rotate_left
      · (intro w hSw; (try dsimp only at hSw); (try simp only [List.getElem_toArray, List.getElem_cons_succ, List.getElem_cons_zero]); first | (go_simp; done) | (go_simp; with_reducible rfl))
      try simp only [Act.put, List.getElem_toArray, List.getElem_cons_succ, List.getElem_cons_zero, List.setIfInBounds_toArray, List.set_cons_zero, List.set_cons_succ]
      refine wpAnyH_take (i := 2) (v := ?_) rfl (by kernel_rfl) (by kernel_rfl) (by kernel_rfl) (fun _ _ _ h => h) (Or.inl ⟨by rfl, ?_⟩) (by assumption) ?_
      rotate_left
      · (intro w hSw; (try dsimp only at hSw); (try simp only [List.getElem_toArray, List.getElem_cons_succ, List.getElem_cons_zero]); first | (go_simp; done) | (go_simp; with_reducible rfl))
      try simp only [Act.put, List.getElem_toArray, List.getElem_cons_succ, List.getElem_cons_zero, List.setIfInBounds_toArray, List.set_cons_zero, List.set_cons_succ]
      refine wpAnyH_ready (rs := [3]) (by kernel_rfl) (by simp) ?_
      refine AllReadyH.cons rfl (fun K hK => ?_) AllReadyH.nil
      try simp only [List.getElem_toArray, List.getElem_cons_succ, List.getElem_cons_zero]
      go_simp

      refine hK.out _ _ ?_ (fun hHeld => ?_)
      · exact ⟨(World.cell?_alloc_lt _ _ _ hz3).trans k30, (World.cell?_alloc_lt _ _ _ hz3).trans k31⟩
      clear hK K
      try simp only [Act.put, List.getElem_toArray, List.getElem_cons_succ, List.getElem_cons_zero, List.setIfInBounds_toArray, List.set_cons_zero, List.set_cons_succ]
      refine wpAnyH_ready (rs := [4]) (by kernel_rfl) (by simp) ?_
      refine AllReadyH.cons rfl (fun K hK => ?_) AllReadyH.nil
      try simp only [List.getElem_toArray, List.getElem_cons_succ, List.getElem_cons_zero]
      go_simp
      go_at_call 21; refine (BestGain_zeros m _ _ _ _ _ _ (HRW.out.later (HB3.out.drew.alloc (Nat.le_of_lt hz3) _)) HZR.out).mono ?_; rintro e5 w5 ⟨rfl, hb5⟩; rw [HZQ.out]; have hzA : wd.heap.size < (w3.alloc (.cells (Array.replicate m (.int .i64 0)) 3)).heap.size := by simp; omega
      have k5 := keep2 hb5 ⟨(World.cell?_alloc_lt w3 (.cells (Array.replicate m (.int .i64 0)) 3) _ hz3).trans k30, (World.cell?_alloc_lt w3 (.cells (Array.replicate m (.int .i64 0)) 3) _ hz3).trans k31⟩ hzA
      have HB5 := Lib.hid (bstep (B := wd.heap.size) (W := wd) (HB3.out.drew.alloc (Nat.le_of_lt hz3) (.cells (Array.replicate m (.int .i64 0)) 3)) (Nat.le_of_lt hzA) hb5)
      have r5 : w5.cell? ⟨bc, l, none⟩ = some (.int .i64 P) := (HRI.out.later HB5.out).cellAt HPL.out
      clear hb5
      refine hK.out _ _ ?_ (fun hHeld => ?_)
      · exact k5
      clear hK K
      try simp only [Act.put, List.getElem_toArray, List.getElem_cons_succ, List.getElem_cons_zero, List.setIfInBounds_toArray, List.set_cons_zero, List.set_cons_succ]
      refine wpAnyH_take (i := 5) (v := ?_) rfl (by kernel_rfl) (by kernel_rfl) (by kernel_rfl) (fun _ _ _ h => h) (Or.inl ⟨by rfl, ?_⟩) (by assumption) ?_
      rotate_left
      · (intro w hSw; (try dsimp only at hSw); (try simp only [List.getElem_toArray, List.getElem_cons_succ, List.getElem_cons_zero]); first | (go_simp; done) | (go_simp; with_reducible rfl))
      try simp only [Act.put, List.getElem_toArray, List.getElem_cons_succ, List.getElem_cons_zero, List.setIfInBounds_toArray, List.set_cons_zero, List.set_cons_succ]
      refine wpAnyH_done (by kernel_rfl) ?_ _
      clear hmk
      rcases HMQ.out with ⟨h1, h2⟩ | ⟨h1, h2 | h2⟩
      · subst h2
        go_wp2_with fail
        refine (alive_any _).mono ?_; rintro e6 w6 ⟨rfl, hb6⟩
        have HB6 := Lib.hid (bstep (B := wd.heap.size) (W := wd) HB5.out HB5.out.size hb6)
        have r6 : w6.cell? ⟨bc, l, none⟩ = some (.int .i64 P) := (HRI.out.later HB6.out).cellAt HPL.out
        clear hb6
        have d1 : (P == 20) = true := by simpa using h1
        go_wp2_with fail
        go_ret
        exact ⟨rfl, bstep HBD.out hzd HB6.out⟩
      · subst h2
        go_wp2_with fail
        refine (alive_any _).mono ?_; rintro e6 w6 ⟨rfl, hb6⟩
        have HB6 := Lib.hid (bstep (B := wd.heap.size) (W := wd) HB5.out HB5.out.size hb6)
        have r6 : w6.cell? ⟨bc, l, none⟩ = some (.int .i64 P) := (HRI.out.later HB6.out).cellAt HPL.out
        clear hb6
        have d1 : (P == 20) = false := by simpa using h1
        go_wp2_with fail
        go_ret
        exact ⟨rfl, bstep HBD.out hzd HB6.out⟩
      · subst h2
        go_wp2_with fail
        refine (alive_any _).mono ?_; rintro e6 w6 ⟨rfl, hb6⟩
        have HB6 := Lib.hid (bstep (B := wd.heap.size) (W := wd) HB5.out HB5.out.size hb6)
        have r6 : w6.cell? ⟨bc, l, none⟩ = some (.int .i64 P) := (HRI.out.later HB6.out).cellAt HPL.out
        clear hb6
        have d1 : (P == 20) = false := by simpa using h1
        have d2 : ((Q + 1) == Q) = false := by simp; omega
        have wk : IntKind.i64.wrap (Q + 1) = Q + 1 := IntWalk.i64_in _ ⟨by omega, by omega⟩
        have wk2 : wrap64 (Q + 1) = Q + 1 := IntWalk.wrap64_in _ ⟨by clear wk; omega, by clear wk; omega⟩
        go_wp2_with fail
        go_ret
        exact ⟨rfl, bstep HBD.out hzd HB6.out⟩
end Go.Proofs.Ytoekaembfieigaa
