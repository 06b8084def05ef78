/- What the model draws where often a tree is wanted: some net, some set. -/
import Derived.Test.YtnbihejoglgdhaaDoorWT
import Derived.Test.YtnbihejoglgdhaaDoorWJ
set_option linter.unusedSimpArgs false
set_option linter.unusedVariables false
attribute [local go_sem ↓] Go.wp_at_zero Go.wp_at_succ
namespace Go.Proofs.YtnbihejoglgdhaaDoor
open Go.ChangeShapes Go.WideShapes Go.ChangeAt Go.RowKit

theorem or64 {a b : Int} (a0 : 0 ≤ a) (a1 : a < 64) (b0 : 0 ≤ b) (b1 : b < 64) : 0 ≤ bits .or .i64 a b ∧ bits .or .i64 a b ≤ 1048576 := by
  rw [bits_or _ _ a0 (by omega) b0 (by omega)]
  have := ior_bd a b 6 (by omega) (by omega)
  omega
theorem RdrE.drewR {w : World} {t : TypeId} {g : Nat} {A : Option Addr} {n cap : Nat} {m : Int} (h : RdrE w t g A n cap m) : RdrE w.drew t g A n cap m := h.keep fun _ _ => rfl
/-- what is kept from the set's draw on: the ways, the reader, the result's cells; nothing but the reader has changed -/
def Kept (w w' : World) (t tn : TypeId) (g : Nat) (A : Option Addr) (len cap : Nat) (m : Int) (A' : Option Addr) (ws : List Wy) : Prop :=
  RW w' w'.heap.size A' ws ∧ RdrE w' t g A len cap m ∧ w'.heap[w.heap.size]? = some (.cells #[.int .i64 0, .slice none 0 0] tn (0, 0)) ∧ w.grownBy w' (some g) ∧ w.heap.size < w'.heap.size
section
variable {w w1 w2 w3 w4 w5 w6 : World} {t tn : TypeId} {g : Nat} {A : Option Addr} {len cap : Nat} {m : Int} {A' : Option Addr} {ws : List Wy} {o : Obj}
theorem Kept.below (h : Kept w w1 t tn g A len cap m A' ws) (hb : Below w1.heap.size w1 w2) (hg : g < w.heap.size) : Kept w w2 t tn g A len cap m A' ws :=
  ⟨h.1.later hb, h.2.1.below hb, (hb.block _ h.2.2.2.2).trans h.2.2.1, only_trans h.2.2.2.1 (only_below hb _), Nat.lt_of_lt_of_le h.2.2.2.2 hb.size⟩
theorem Kept.pick {m' : Int} (h : Kept w w1 t tn g A len cap m A' ws) (hr : RdrE w2 t g A len cap m') (hg2 : w1.grownBy w2 (some g)) (hg : g < w.heap.size) (hA : ∀ ad, A' = some ad → w.heap.size ≤ ad.block) : Kept w w2 t tn g A len cap m' A' ws := by
  refine ⟨?_, hr, ?_, only_trans h.2.2.2.1 hg2, Nat.lt_of_lt_of_le h.2.2.2.2 hg2.size⟩
  · intro i x hx
    obtain ⟨b, o, ha, hB, g0, g1, g2⟩ := h.1 i x hx
    have hbb := hA _ ha
    simp at hbb
    have hk : w2.heap[b]? = w1.heap[b]? := hg2.block _ hB (by intro e; injection e; omega)
    exact ⟨b, o, ha, Nat.lt_of_lt_of_le hB hg2.size, (World.cell?_of_block (w := w1) hk).trans g0, (World.cell?_of_block (w := w1) hk).trans g1, (World.cell?_of_block (w := w1) hk).trans g2⟩
  · rw [hg2.block _ h.2.2.2.2 (by intro e; injection e; omega)]; exact h.2.2.1
theorem Kept.drew (h : Kept w w1 t tn g A len cap m A' ws) : Kept w w1.drew t tn g A len cap m A' ws := ⟨h.1, h.2.1.drewR, h.2.2.1, only_drew h.2.2.2.1, h.2.2.2.2⟩
end

set_option maxHeartbeats 4000000 in
theorem l20Tree_any (g : Nat) (A : Option Addr) (len cap : Nat) (m n : Int) (w : World) (hr : RdrE w 63 g A len cap m) (hm : m ≤ 700000) (h1 : 1 ≤ n) (hn : n ≤ 1048576) :
    Calls Tryd.prog 57 #[.pointer (some ⟨g, 0, none⟩), .int .i64 n] w (SetPost w 63 g A len cap (m + 3)) := by
  have hgw := hr.lt
  have HR := Lib.hid hr
  have hm1 : m + 50 ≤ 1000000 := by omega
  have hm2 : m + 50 + 1 ≤ 1000000 := by omega
  have hm3 : m + 50 + 1 + 1 ≤ 1000000 := by omega
  clear hr
  go_enter Tryd.func57, Tryd.ntmps57
  go_wp2_with fail
  refine (l20Set_any g A len cap m n _ (HR.out.below (by go_grown)) (by omega) h1 hn).mono ?_
  rintro e w1 ⟨nn, s, A', c', ws, rfl, hrw, hA0, hl10, hcc, hn0, hn7, hs0, hs1, hr1, hg1⟩
  have hsz1 : w.heap.size < w1.heap.size := by have := hg1.size; simp at this; omega
  have hgl : g < w1.heap.size := by omega
  have hz1 : w1.heap.size ≠ w.heap.size := by omega
  have hA' : ∀ ad, A' = some ad → w.heap.size ≤ ad.block := fun ad h => by have := hA0 ad h; simp at this; omega
  have hres : w1.heap[w.heap.size]? = some (.cells #[.int .i64 0, .slice none 0 0] 25 (0, 0)) := by
    rw [hg1.block _ (by simp) (by intro e; injection e; omega)]
    exact heap_alloc_new w _
  have K1 : Hid (Kept w w1 63 25 g A len cap (m + 50) A' ws) := ⟨hrw, hr1, hres, only_trans (only_below ((Below.refl w.heap.size w).alloc (Nat.le_refl _) (.cells #[.int .i64 0, .slice none 0 0] 25)) (some g)) hg1, hsz1⟩
  have HRW := Lib.hid hrw
  clear hg1 hr1 hres hrw
  cases hno : netOk nn ws
  · have HNO := Lib.hid hno
    clear hno
    go_wp2_with fail
    refine (sNetOk_any nn A' c' ws _ (HRW.out.later (by go_grown)) (by omega)).mono ?_; rintro e w2 ⟨rfl, hb2⟩; rw [HNO.out]
    have k2 := keep2 hb2 ⟨cell_of_row _ _ 0 _ _ (0, 0) (heap_alloc_new w1 _), cell_of_row _ _ 1 _ _ (0, 0) (heap_alloc_new w1 _)⟩ (by simp)
    have K2 := Lib.hid (K1.out.below (bstep (B := w1.heap.size) (W := w1) (by go_grown) (by go_size) hb2) hgw)
    have T := Lib.hid (two_cells (v0 := .int .i64 nn) (v1 := .slice A' ws.length c') K2.out.2.2.1)
    have zz0 : w2.cell? ⟨w.heap.size, 0, none⟩ = some (.int .i64 0) := cell_of_row _ _ 0 _ _ (0, 0) K2.out.2.2.1
    have zz1 : w2.cell? ⟨w.heap.size, 1, none⟩ = some (.slice none 0 0) := cell_of_row _ _ 1 _ _ (0, 0) K2.out.2.2.1
    have zz2 := set_f 0 K2.out.2.2.1
    have zz3 := set_f 1 K2.out.2.2.1
    have zz4 := K2.out.2.2.2.2
    obtain ⟨kk0, kk1⟩ := k2
    clear hb2
    go_wp2_with fail
    obtain ⟨t0, t1⟩ := T.out
    have hfin := K2.out
    refine bodyPost_ret (v := .tuple #[.agg #[.int .i64 nn, .slice A' ws.length c'], .int .i64 s]) (by simp [results, Tryd.results57, go_sem, t0, t1]) rfl
      ⟨nn, s, A', c', ws, rfl, ?_, (fun ad h => hA' ad h), hl10, hcc, hn0, hn7, hs0, hs1, ?_, only_setCell (only_setCell hfin.2.2.2.1 (.inr (by simp)) _) (.inr (by simp)) _⟩
    · intro i x hx
      obtain ⟨b, o, ha, hB, g0, g1, g2⟩ := hfin.1 i x hx
      have hbb := hA0 _ ha
      simp at hbb
      have hk : ((w2.setCell ⟨w.heap.size, 0, none⟩ (.int .i64 nn)).setCell ⟨w.heap.size, 1, none⟩ (.slice A' ws.length c')).heap[b]? = w2.heap[b]? := (Below.heap_setCell _ _ _ _ (by simp; omega)).trans (Below.heap_setCell _ _ _ _ (by simp; omega))
      exact ⟨b, o, ha, by simpa [World.setCell] using hB, (World.cell?_of_block (w := w2) hk).trans g0, (World.cell?_of_block (w := w2) hk).trans g1, (World.cell?_of_block (w := w2) hk).trans g2⟩
    · exact (hfin.2.1.keep fun k hk => (Below.heap_setCell _ _ _ _ (by simp; omega)).trans (Below.heap_setCell _ _ _ _ (by simp; omega))).more (by omega)
  · have HNO := Lib.hid hno
    have hni := netOk_t hno
    have HNI := Lib.hid hni
    have hn6 := hni.hi
    have hl9 := hni.len
    clear hno hni
    go_wp2_with fail
    refine (sNetOk_any nn A' c' ws _ (HRW.out.later (by go_grown)) (by omega)).mono ?_; rintro e w2 ⟨rfl, hb2⟩; rw [HNO.out]
    have k2 := keep2 hb2 ⟨cell_of_row _ _ 0 _ _ (0, 0) (heap_alloc_new w1 _), cell_of_row _ _ 1 _ _ (0, 0) (heap_alloc_new w1 _)⟩ (by simp)
    have z2 : w1.heap.size < w2.heap.size := by have := hb2.size; simp at this; omega
    have K2 := Lib.hid (K1.out.below (bstep (B := w1.heap.size) (W := w1) (by go_grown) (by go_size) hb2) hgw)
    clear hb2
    go_wp2_with fail
    refine (pickE g A len cap (m + 50) 3 _ K2.out.2.1 hm1 (by decide)).mono ?_; rintro e w3 ⟨q3, rfl, hq30, hq31, hr3, hg3, hs3⟩
    have hk3 := set_b k2 hg3 hgl
    have z3 : w1.heap.size < w3.heap.size := by rw [hs3]; exact z2
    have K3 := Lib.hid (K2.out.pick hr3 hg3 hgw hA')
    clear hr3 hg3 hs3 hq31 k2
    by_cases hq : 0 < q3
    · have k3 := hk3
      have hd3 := K3.out.drew.2.1
      have hpn := pow_bd nn 6 (by omega)
      have hpp : 1 ≤ (2 : Int) ^ nn.toNat := hpn.1
      have hpb : (2 : Int) ^ nn.toNat ≤ 1048576 := by omega
      have hp64 : (2 : Int) ^ nn.toNat ≤ 64 := by omega
      have HW1 : Hid (IntKind.i64.wrap (2 ^ nn.toNat) = 2 ^ nn.toNat) := IntWalk.i64_in _ ⟨by omega, by omega⟩
      have HW2 : Hid (wrap64 (2 ^ nn.toNat) = 2 ^ nn.toNat) := IntWalk.wrap64_in _ ⟨by omega, by omega⟩
      have hpp2 := hpp
      clear hpn
      obtain ⟨kk0, kk1⟩ := hk3
      go_wp2_with fail
      have hw1 := HW1.out
      have hw2 := HW2.out
      focus
        refine wp_region_held_drew (S := (fun w' => w'.cell? ⟨w1.heap.size, 0, none⟩ = some (.int .i64 nn) ∧ w'.cell? ⟨w1.heap.size, 1, none⟩ = some (.slice A' ws.length c'))) (by kernel_rfl) ?_ (fun hHeld => ?_)
        · exact k3
        refine wpAnyH_take (i := 0) (v := ?_) rfl (by kernel_rfl) (by kernel_rfl) (by kernel_rfl) (fun _ _ _ h => h) (Or.inl ⟨by rfl, ?_⟩) (by assumption) ?_
        rotate_left
        · (intro w hSw; (try dsimp only at hSw); (try simp only [List.getElem_toArray, List.getElem_cons_succ, List.getElem_cons_zero]); first | (go_simp; done) | (go_simp; with_reducible rfl))
        try simp only [Act.put, List.getElem_toArray, List.getElem_cons_succ, List.getElem_cons_zero, List.setIfInBounds_toArray, List.set_cons_zero, List.set_cons_succ]
        refine wpAnyH_take (i := 1) (v := ?_) rfl (by kernel_rfl) (by kernel_rfl) (by kernel_rfl) (fun _ _ _ h => h) (Or.inl ⟨by rfl, ?_⟩) (by assumption) ?_
        rotate_left
        · (intro w hSw; (try dsimp only at hSw); (try simp only [List.getElem_toArray, List.getElem_cons_succ, List.getElem_cons_zero]); first | (go_simp; done) | (go_simp; with_reducible rfl))
        try simp only [Act.put, List.getElem_toArray, List.getElem_cons_succ, List.getElem_cons_zero, List.setIfInBounds_toArray, List.set_cons_zero, List.set_cons_succ]
        refine wpAnyH_take (i := 2) (v := ?_) rfl (by kernel_rfl) (by kernel_rfl) (by kernel_rfl) (fun _ _ _ h => h) (Or.inl ⟨by rfl, ?_⟩) (by assumption) ?_
        rotate_left
        · (intro w hSw; (try dsimp only at hSw); (try simp only [List.getElem_toArray, List.getElem_cons_succ, List.getElem_cons_zero]); first | (go_simp; done) | (go_simp; with_reducible rfl))
        try simp only [Act.put, List.getElem_toArray, List.getElem_cons_succ, List.getElem_cons_zero, List.setIfInBounds_toArray, List.set_cons_zero, List.set_cons_succ]
        refine wpAnyH_take (i := 3) (v := ?_) rfl (by kernel_rfl) (by kernel_rfl) (by kernel_rfl) (fun _ _ _ h => h) (Or.inl ⟨by rfl, ?_⟩) (by assumption) ?_
        rotate_left
        · (intro w hSw; (try dsimp only at hSw); (try simp only [List.getElem_toArray, List.getElem_cons_succ, List.getElem_cons_zero]); first | (go_simp; done) | (go_simp; with_reducible rfl))
        try simp only [Act.put, List.getElem_toArray, List.getElem_cons_succ, List.getElem_cons_zero, List.setIfInBounds_toArray, List.set_cons_zero, List.set_cons_succ]
        refine wpAnyH_take (i := 4) (v := ?_) rfl (by kernel_rfl) (by kernel_rfl) (by kernel_rfl) (fun _ _ _ h => h) (Or.inl ⟨by rfl, ?_⟩) (by assumption) ?_
        rotate_left
        · (intro w hSw; (try dsimp only at hSw); (try simp only [List.getElem_toArray, List.getElem_cons_succ, List.getElem_cons_zero]); first | (go_simp; done) | (go_simp; with_reducible rfl))
        try simp only [Act.put, List.getElem_toArray, List.getElem_cons_succ, List.getElem_cons_zero, List.setIfInBounds_toArray, List.set_cons_zero, List.set_cons_succ]
        refine wpAnyH_take (i := 5) (v := ?_) rfl (by kernel_rfl) (by kernel_rfl) (by kernel_rfl) (fun _ _ _ h => h) (Or.inl ⟨by rfl, ?_⟩) (by assumption) ?_
        rotate_left
        · (intro w hSw; (try dsimp only at hSw); (try simp only [List.getElem_toArray, List.getElem_cons_succ, List.getElem_cons_zero]); first | (go_simp; done) | (go_simp; with_reducible rfl))
        try simp only [Act.put, List.getElem_toArray, List.getElem_cons_succ, List.getElem_cons_zero, List.setIfInBounds_toArray, List.set_cons_zero, List.set_cons_succ]
        refine wpAnyH_take (i := 7) (v := ?_) rfl (by kernel_rfl) (by kernel_rfl) (by kernel_rfl) (fun _ _ _ h => h) (Or.inl ⟨by rfl, ?_⟩) (by assumption) ?_
        rotate_left
        · (intro w hSw; (try dsimp only at hSw); (try simp only [List.getElem_toArray, List.getElem_cons_succ, List.getElem_cons_zero]); first | (go_simp; done) | (go_simp; with_reducible rfl))
        try simp only [Act.put, List.getElem_toArray, List.getElem_cons_succ, List.getElem_cons_zero, List.setIfInBounds_toArray, List.set_cons_zero, List.set_cons_succ]
        refine wpAnyH_take (i := 8) (v := ?_) rfl (by kernel_rfl) (by kernel_rfl) (by kernel_rfl) (fun _ _ _ h => h) (Or.inl ⟨by rfl, ?_⟩) (by assumption) ?_
        rotate_left
        · (intro w hSw; (try dsimp only at hSw); (try simp only [List.getElem_toArray, List.getElem_cons_succ, List.getElem_cons_zero]); first | (go_simp; done) | (go_simp; with_reducible rfl))
        try simp only [Act.put, List.getElem_toArray, List.getElem_cons_succ, List.getElem_cons_zero, List.setIfInBounds_toArray, List.set_cons_zero, List.set_cons_succ]
        refine wpAnyH_take (i := 9) (v := ?_) rfl (by kernel_rfl) (by kernel_rfl) (by kernel_rfl) (fun _ _ _ h => h) (Or.inl ⟨by rfl, ?_⟩) (by assumption) ?_
        rotate_left
        · (intro w hSw; (try dsimp only at hSw); (try simp only [List.getElem_toArray, List.getElem_cons_succ, List.getElem_cons_zero]); first | (go_simp; done) | (go_simp; with_reducible rfl))
        try simp only [Act.put, List.getElem_toArray, List.getElem_cons_succ, List.getElem_cons_zero, List.setIfInBounds_toArray, List.set_cons_zero, List.set_cons_succ]
        refine wpAnyH_take (i := 10) (v := ?_) rfl (by kernel_rfl) (by kernel_rfl) (by kernel_rfl) (fun _ _ _ h => h) (Or.inl ⟨by rfl, ?_⟩) (by assumption) ?_
        rotate_left
        · (intro w hSw; (try dsimp only at hSw); (try simp only [List.getElem_toArray, List.getElem_cons_succ, List.getElem_cons_zero]); first | (go_simp; done) | (go_simp; with_reducible rfl))
        try simp only [Act.put, List.getElem_toArray, List.getElem_cons_succ, List.getElem_cons_zero, List.setIfInBounds_toArray, List.set_cons_zero, List.set_cons_succ]
        refine wpAnyH_ready (rs := [6]) (by kernel_rfl) (by simp) ?_
        refine AllReadyH.cons rfl (fun K hK => ?_) AllReadyH.nil
        try simp only [List.getElem_toArray, List.getElem_cons_succ, List.getElem_cons_zero]
        go_simp
        go_at_call 49; (with_reducible refine (pickE g A len cap (m + 50 + 1) (2 ^ nn.toNat) w3.drew hd3 hm2 hpb).mono ?_); rintro e w4 ⟨q4, rfl, hq40, hq41, hr4, hg4, hs4⟩; have hq42 : q4 < 2 ^ nn.toNat := hq41 hpp; have hk4 := set_b (w2 := w3.drew) k3 hg4 hgl; have z4 : w1.heap.size < w4.heap.size := Nat.lt_of_lt_of_eq z3 hs4.symm; have K4 := Lib.hid (K3.out.drew.pick hr4 hg4 hgw hA'); have hd4 := K4.out.2.1; clear hq41 hs4 hr4 hg4
        refine hK.out _ _ ?_ (fun hHeld => ?_)
        · exact hk4
        clear hK K
        try simp only [Act.put, List.getElem_toArray, List.getElem_cons_succ, List.getElem_cons_zero, List.setIfInBounds_toArray, List.set_cons_zero, List.set_cons_succ]
        refine wpAnyH_ready (rs := [11]) (by kernel_rfl) (by simp) ?_
        refine AllReadyH.cons rfl (fun K hK => ?_) AllReadyH.nil
        try simp only [List.getElem_toArray, List.getElem_cons_succ, List.getElem_cons_zero]
        go_simp
        go_at_call 49; (with_reducible refine (pickE g A len cap (m + 50 + 1 + 1) (2 ^ nn.toNat) w4 hd4 hm3 hpb).mono ?_); rintro e w5 ⟨q5, rfl, hq50, hq51, hr5, hg5, hs5⟩; have hq52 : q5 < 2 ^ nn.toNat := hq51 hpp; have hk5 := set_b hk4 hg5 hgl; have z5 : w1.heap.size < w5.heap.size := Nat.lt_of_lt_of_eq z4 hs5.symm; have K5 := Lib.hid (K4.out.pick hr5 hg5 hgw hA'); have hd5 := K5.out.1; have hio := or64 hq40 (Int.lt_of_lt_of_le hq42 hp64) hq50 (Int.lt_of_lt_of_le hq52 hp64); obtain ⟨am, ham⟩ : ∃ am : Int, bits .or .i64 q4 q5 = am := ⟨_, rfl⟩; rw [ham] at hio; have hio1 := hio.1; have hio2 := hio.2; clear hio hq51 hs5 hr5 hg5
        refine hK.out _ _ ?_ (fun hHeld => ?_)
        · exact hk5
        clear hK K
        try simp only [Act.put, List.getElem_toArray, List.getElem_cons_succ, List.getElem_cons_zero, List.setIfInBounds_toArray, List.set_cons_zero, List.set_cons_succ]
        refine wpAnyH_take (i := 12) (v := ?_) rfl (by kernel_rfl) (by kernel_rfl) (by kernel_rfl) (fun _ _ _ h => h) (Or.inl ⟨by rfl, ?_⟩) (by assumption) ?_
        rotate_left
        · (intro w hSw; (try dsimp only at hSw); (try simp only [List.getElem_toArray, List.getElem_cons_succ, List.getElem_cons_zero]); first | (go_simp; done) | (go_simp; with_reducible rfl))
        try simp only [Act.put, List.getElem_toArray, List.getElem_cons_succ, List.getElem_cons_zero, List.setIfInBounds_toArray, List.set_cons_zero, List.set_cons_succ]
        refine wpAnyH_ready (rs := [13]) (by kernel_rfl) (by simp) ?_
        refine AllReadyH.cons rfl (fun K hK => ?_) AllReadyH.nil
        try simp only [List.getElem_toArray, List.getElem_cons_succ, List.getElem_cons_zero]
        go_simp
        go_at_call 43; refine (l2Span_any nn am A' c' ws w5 hd5 HNI.out hio1 hio2).mono ?_; rintro e w6 ⟨rr, rfl, hrr0, hrrF, hb6⟩; have hk6 := keep2 hb6 hk5 z5; have K6 := Lib.hid (K5.out.below hb6 hgw); have T := Lib.hid (two_cells (v0 := .int .i64 nn) (v1 := .slice A' ws.length c') K6.out.2.2.1); have zz0 : w6.cell? ⟨w.heap.size, 0, none⟩ = some (.int .i64 0) := cell_of_row _ _ 0 _ _ (0, 0) K6.out.2.2.1; have zz1 : w6.cell? ⟨w.heap.size, 1, none⟩ = some (.slice none 0 0) := cell_of_row _ _ 1 _ _ (0, 0) K6.out.2.2.1; have zz2 := set_f 0 K6.out.2.2.1; have zz3 := set_f 1 K6.out.2.2.1; have zz4 := K6.out.2.2.2.2; have hk7 := set_d (.int .i64 nn) (.slice A' ws.length c') hk6 hz1; clear hb6
        refine hK.out _ _ ?_ (fun hHeld => ?_)
        · exact hk6
        clear hK K
        try simp only [Act.put, List.getElem_toArray, List.getElem_cons_succ, List.getElem_cons_zero, List.setIfInBounds_toArray, List.set_cons_zero, List.set_cons_succ]
        refine wpAnyH_ready (rs := [14]) (by kernel_rfl) (by simp) ?_
        refine AllReadyH.cons rfl (fun K hK => ?_) AllReadyH.nil
        try simp only [List.getElem_toArray, List.getElem_cons_succ, List.getElem_cons_zero]
        go_simp
        
        refine hK.out _ _ ?_ (fun hHeld => ?_)
        · exact hk7
        clear hK K
        try simp only [Act.put, List.getElem_toArray, List.getElem_cons_succ, List.getElem_cons_zero, List.setIfInBounds_toArray, List.set_cons_zero, List.set_cons_succ]
        refine wpAnyH_take (i := 15) (v := ?_) rfl (by kernel_rfl) (by kernel_rfl) (by kernel_rfl) (fun _ _ _ h => h) (Or.inl ⟨by rfl, ?_⟩) (by assumption) ?_
        rotate_left
        · (intro w hSw; (try dsimp only at hSw); (try simp only [List.getElem_toArray, List.getElem_cons_succ, List.getElem_cons_zero]); first | (go_simp; done) | (go_simp; with_reducible rfl))
        try simp only [Act.put, List.getElem_toArray, List.getElem_cons_succ, List.getElem_cons_zero, List.setIfInBounds_toArray, List.set_cons_zero, List.set_cons_succ]
        refine wpAnyH_done (by kernel_rfl) ?_ _
        clear hw1 hw2
        go_wp2_with fail
        obtain ⟨t0, t1⟩ := T.out
        have hF := full_bd ws.length hl9
        have hfin := K6.out
        refine bodyPost_ret (v := .tuple #[.agg #[.int .i64 nn, .slice A' ws.length c'], .int .i64 rr]) (by simp [results, Tryd.results57, go_sem, t0, t1]) rfl
          ⟨nn, rr, A', c', ws, rfl, ?_, (fun ad h => hA' ad h), hl10, hcc, hn0, hn7, hrr0, (by omega), ?_, only_setCell (only_setCell hfin.2.2.2.1 (.inr (by simp)) _) (.inr (by simp)) _⟩
        · intro i x hx
          obtain ⟨b, o, ha, hB, g0, g1, g2⟩ := hfin.1 i x hx
          have hbb := hA0 _ ha
          simp at hbb
          have hk : ((w6.setCell ⟨w.heap.size, 0, none⟩ (.int .i64 nn)).setCell ⟨w.heap.size, 1, none⟩ (.slice A' ws.length c')).heap[b]? = w6.heap[b]? := (Below.heap_setCell _ _ _ _ (by simp; omega)).trans (Below.heap_setCell _ _ _ _ (by simp; omega))
          exact ⟨b, o, ha, by simpa [World.setCell] using hB, (World.cell?_of_block (w := w6) hk).trans g0, (World.cell?_of_block (w := w6) hk).trans g1, (World.cell?_of_block (w := w6) hk).trans g2⟩
        · exact (hfin.2.1.keep fun k hk => (Below.heap_setCell _ _ _ _ (by simp; omega)).trans (Below.heap_setCell _ _ _ _ (by simp; omega))).more (by omega)
    · have T := Lib.hid (two_cells (v0 := .int .i64 nn) (v1 := .slice A' ws.length c') K3.out.2.2.1)
      have zz0 : w3.cell? ⟨w.heap.size, 0, none⟩ = some (.int .i64 0) := cell_of_row _ _ 0 _ _ (0, 0) K3.out.2.2.1
      have zz1 : w3.cell? ⟨w.heap.size, 1, none⟩ = some (.slice none 0 0) := cell_of_row _ _ 1 _ _ (0, 0) K3.out.2.2.1
      have zz2 := set_f 0 K3.out.2.2.1
      have zz3 := set_f 1 K3.out.2.2.1
      have zz4 := K3.out.2.2.2.2
      obtain ⟨kk0, kk1⟩ := hk3
      go_wp2_with fail
      obtain ⟨t0, t1⟩ := T.out
      have hfin := K3.out
      refine bodyPost_ret (v := .tuple #[.agg #[.int .i64 nn, .slice A' ws.length c'], .int .i64 s]) (by simp [results, Tryd.results57, go_sem, t0, t1]) rfl
        ⟨nn, s, A', c', ws, rfl, ?_, (fun ad h => hA' ad h), hl10, hcc, hn0, hn7, hs0, hs1, ?_, only_setCell (only_setCell hfin.2.2.2.1 (.inr (by simp)) _) (.inr (by simp)) _⟩
      · intro i x hx
        obtain ⟨b, o, ha, hB, g0, g1, g2⟩ := hfin.1 i x hx
        have hbb := hA0 _ ha
        simp at hbb
        have hk : ((w3.setCell ⟨w.heap.size, 0, none⟩ (.int .i64 nn)).setCell ⟨w.heap.size, 1, none⟩ (.slice A' ws.length c')).heap[b]? = w3.heap[b]? := (Below.heap_setCell _ _ _ _ (by simp; omega)).trans (Below.heap_setCell _ _ _ _ (by simp; omega))
        exact ⟨b, o, ha, by simpa [World.setCell] using hB, (World.cell?_of_block (w := w3) hk).trans g0, (World.cell?_of_block (w := w3) hk).trans g1, (World.cell?_of_block (w := w3) hk).trans g2⟩
      · exact (hfin.2.1.keep fun k hk => (Below.heap_setCell _ _ _ _ (by simp; omega)).trans (Below.heap_setCell _ _ _ _ (by simp; omega))).more (by omega)
end Go.Proofs.YtnbihejoglgdhaaDoor
