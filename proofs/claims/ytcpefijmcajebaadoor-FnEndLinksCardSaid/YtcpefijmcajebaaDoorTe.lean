/- Tables compared, marked and read again. -/
import Derived.Test.YtcpefijmcajebaaDoorTc
import Derived.Test.YtcpefijmcajebaaDoorMH
set_option linter.unusedSimpArgs false
set_option linter.unusedVariables false
attribute [local go_sem ↓] Go.wp_at_zero Go.wp_at_succ
namespace Go.Proofs.YtcpefijmcajebaaDoor
open Go.ChangeShapes Go.WideShapes Go.ChangeAt Go.RowKit

theorem TabM.rowF {w : World} {lo hi T m : Nat} {R C : Nat → Nat} {f : Nat → Nat → Int} (h : TabM w lo hi T m R C f) {a : Nat} (ha : a < m) : RowF w (R a) (R a + 1) (some ⟨R a, 0, none⟩) m (f a) :=
  ⟨fun j hj => ⟨R a, 0, rfl, Nat.le_refl _, Nat.lt_succ_self _, by rw [Nat.zero_add]; exact (h.row a j ha hj).1, by rw [Nat.zero_add]; exact (h.row a j ha hj).2⟩, by have := (h.rlo a ha).2; have := h.his; omega⟩
theorem TabM.mark {w w' : World} {lo hi T m : Nat} {R C : Nat → Nat} {f : Nat → Nat → Int} (h : TabM w lo hi T m R C f) {k : Nat} {g : Nat → Int} (hk : k < m) (hr : RowF w' (R k) (R k + 1) (some ⟨R k, 0, none⟩) m g) (ho : Only (R k) (R k + 1) w w') :
    TabM w' lo hi T m R C (fun i j => if i = k then g j else f i j) := by
  have hblk : ∀ b, b < w.heap.size → b ≠ R k → w'.heap[b]? = w.heap[b]? := fun b hb hne => ho.block b hb (by omega)
  have hT : T < w.heap.size := Nat.lt_of_lt_of_le h.los.2 h.his
  have hR : ∀ a, a < m → R a < w.heap.size := fun a ha => Nat.lt_of_lt_of_le (h.rlo a ha).2 h.his
  refine ⟨fun a ha => (World.cell?_of_block (w := w) (hblk T hT (fun e => h.neT k hk e.symm))).trans (h.top a ha), fun a b ha hb => ?_, h.inj, h.neT, h.los, h.rlo, Nat.le_trans h.his ho.size⟩
  by_cases e : a = k
  · subst e
    rw [if_pos rfl]
    obtain ⟨b', o', e1, _, _, c1, f1⟩ := hr.at_ b hb
    injection e1 with e1
    injection e1 with e1 e2
    subst e1
    subst e2
    rw [Nat.zero_add] at c1 f1
    exact ⟨c1, f1⟩
  · rw [if_neg e]
    have hb2 := hblk (R a) (hR a ha) (fun e2 => e (h.inj a k ha hk e2))
    exact ⟨(World.cell?_of_block (w := w) hb2).trans (h.row a b ha hb).1, (World.frozen?_of_block (w := w) hb2).trans (h.row a b ha hb).2⟩
theorem Only.wider {lo hi lo' hi' : Nat} {w w' : World} (h : Only lo hi w w') (h1 : lo' ≤ lo) (h2 : hi ≤ hi') : Only lo' hi' w w' := ⟨h.os, h.tape, h.output, h.size, fun k hk hd => h.block k hk (by omega)⟩

set_option maxHeartbeats 1000000 in
theorem sameRows_0 (A A' : Option Addr) (cap cap' : Nat) (w : World) :
    Calls Tryd.prog 11 #[.slice A 0 cap, .slice A' 0 cap'] w fun e w' => e = .returned (.bool true) ∧ Below w.heap.size w w' := by
  go_enter Tryd.func11, Tryd.ntmps11
  go_wp2_with fail
  go_loopw [5] (fun i wr => i = .int .i64 0 ∧ w = wr) (fun _ _ => 0)
  case atStart => exact ⟨rfl, rfl⟩
  case round =>
    obtain ⟨rfl, rfl⟩ := hrel
    go_wp2_with fail
    go_ret
    exact ⟨rfl, Below.refl _ _⟩
set_option maxHeartbeats 1000000 in
theorem sameRows_any {w : World} {lo hi lo' hi' T T' m cT cT' : Nat} {R C R' C' : Nat → Nat} {f : Nat → Nat → Int} (h : TabM w lo hi T m R C f) (h' : TabM w lo' hi' T' m R' C' f) (hm : m ≤ 6) :
    Calls Tryd.prog 11 #[.slice (some ⟨T, 0, none⟩) m cT, .slice (some ⟨T', 0, none⟩) m cT'] w fun e w' => e = .returned (.bool true) ∧ Below w.heap.size w w' := by
  have HF := Lib.hid h
  have HG := Lib.hid h'
  clear h h'
  go_enter Tryd.func11, Tryd.ntmps11
  go_wp2_with fail
  go_loopw [5] (fun i wr => ∃ k : Nat, k ≤ m ∧ i = .int .i64 k ∧ Below w.heap.size w wr) (fun i _ => m - (intOf i).toNat)
  case atStart => exact ⟨0, Nat.zero_le _, rfl, by go_grown⟩
  case round =>
    obtain ⟨k, hk, rfl, hb⟩ := hrel
    have HB := Lib.hid hb
    have HF1 := Lib.hid (HF.out.below hb)
    have HG1 := Lib.hid (HG.out.below hb)
    have hszw := hb.size
    clear hb
    have hk0 : (0 : Int) ≤ (k : Int) := by omega
    by_cases hlt : k < m
    · have t1 := HF1.out.top k hlt
      have t2 := HG1.out.top k hlt
      have r1 := Lib.hid (HF1.out.rowF hlt)
      have r2 := Lib.hid (HG1.out.rowF hlt)
      have hk1 : (k : Int) < (m : Int) := by omega
      have hT1 : T < wr.heap.size := Nat.lt_of_lt_of_le HF1.out.los.2 HF1.out.his
      have hT2 : T' < wr.heap.size := Nat.lt_of_lt_of_le HG1.out.los.2 HG1.out.his
      go_wp2_with fail
      refine wp_region_held_drew (S := (fun w' => w'.cell? ⟨T, k, none⟩ = some (.slice (some ⟨R k, 0, none⟩) m (C k)) ∧ w'.cell? ⟨T', k, none⟩ = some (.slice (some ⟨R' k, 0, none⟩) m (C' k)))) (by kernel_rfl) ?_ (fun hHeld => ?_)
      · exact ⟨t1, t2⟩
      refine wpAnyH_take (i := 0) (v := ?_) rfl (by kernel_rfl) (by kernel_rfl) (by kernel_rfl) (fun _ _ _ h => h) (Or.inl ⟨by rfl, ?_⟩) (by assumption) ?_
      rotate_left
      · (intro w hSw; (try dsimp only at hSw); (try simp only [List.getElem_toArray, List.getElem_cons_succ, List.getElem_cons_zero]); first | (go_simp; done) | (go_simp; with_reducible rfl))
      try simp only [Act.put, List.getElem_toArray, List.getElem_cons_succ, List.getElem_cons_zero, List.setIfInBounds_toArray, List.set_cons_zero, List.set_cons_succ]
      refine wpAnyH_take (i := 1) (v := ?_) rfl (by kernel_rfl) (by kernel_rfl) (by kernel_rfl) (fun _ _ _ h => h) (Or.inl ⟨by rfl, ?_⟩) (by assumption) ?_
      rotate_left
      · (intro w hSw; (try dsimp only at hSw); (try simp only [List.getElem_toArray, List.getElem_cons_succ, List.getElem_cons_zero]); first | (go_simp; done) | (go_simp; with_reducible rfl))
      try simp only [Act.put, List.getElem_toArray, List.getElem_cons_succ, List.getElem_cons_zero, List.setIfInBounds_toArray, List.set_cons_zero, List.set_cons_succ]
      refine wpAnyH_take (i := 2) (v := ?_) rfl (by kernel_rfl) (by kernel_rfl) (by kernel_rfl) (fun _ _ _ h => h) (Or.inl ⟨by rfl, ?_⟩) (by assumption) ?_
      rotate_left
      · (intro w hSw; (try dsimp only at hSw); (try simp only [List.getElem_toArray, List.getElem_cons_succ, List.getElem_cons_zero]); first | (go_simp; done) | (go_simp; with_reducible rfl))
      try simp only [Act.put, List.getElem_toArray, List.getElem_cons_succ, List.getElem_cons_zero, List.setIfInBounds_toArray, List.set_cons_zero, List.set_cons_succ]
      refine wpAnyH_take (i := 3) (v := ?_) rfl (by kernel_rfl) (by kernel_rfl) (by kernel_rfl) (fun _ _ _ h => h) (Or.inl ⟨by rfl, ?_⟩) (by assumption) ?_
      rotate_left
      · (intro w hSw; (try dsimp only at hSw); (try simp only [List.getElem_toArray, List.getElem_cons_succ, List.getElem_cons_zero]); first | (go_simp; done) | (go_simp; with_reducible rfl))
      try simp only [Act.put, List.getElem_toArray, List.getElem_cons_succ, List.getElem_cons_zero, List.setIfInBounds_toArray, List.set_cons_zero, List.set_cons_succ]
      refine wpAnyH_take (i := 4) (v := ?_) rfl (by kernel_rfl) (by kernel_rfl) (by kernel_rfl) (fun _ _ _ h => h) (Or.inl ⟨by rfl, ?_⟩) (by assumption) ?_
      rotate_left
      · (intro w hSw; (try dsimp only at hSw); (try simp only [List.getElem_toArray, List.getElem_cons_succ, List.getElem_cons_zero]); first | (go_simp; done) | (go_simp; with_reducible rfl))
      try simp only [Act.put, List.getElem_toArray, List.getElem_cons_succ, List.getElem_cons_zero, List.setIfInBounds_toArray, List.set_cons_zero, List.set_cons_succ]
      refine wpAnyH_take (i := 5) (v := ?_) rfl (by kernel_rfl) (by kernel_rfl) (by kernel_rfl) (fun _ _ _ h => h) (Or.inl ⟨by rfl, ?_⟩) (by assumption) ?_
      rotate_left
      · (intro w hSw; (try dsimp only at hSw); (try simp only [List.getElem_toArray, List.getElem_cons_succ, List.getElem_cons_zero]); first | (go_simp; done) | (go_simp; with_reducible rfl))
      try simp only [Act.put, List.getElem_toArray, List.getElem_cons_succ, List.getElem_cons_zero, List.setIfInBounds_toArray, List.set_cons_zero, List.set_cons_succ]
      refine wpAnyH_take (i := 6) (v := ?_) rfl (by kernel_rfl) (by kernel_rfl) (by kernel_rfl) (fun _ _ _ h => h) (Or.inl ⟨by rfl, ?_⟩) (by assumption) ?_
      rotate_left
      · (intro w hSw; (try dsimp only at hSw); (try simp only [List.getElem_toArray, List.getElem_cons_succ, List.getElem_cons_zero]); first | (go_simp; done) | (go_simp; with_reducible rfl))
      try simp only [Act.put, List.getElem_toArray, List.getElem_cons_succ, List.getElem_cons_zero, List.setIfInBounds_toArray, List.set_cons_zero, List.set_cons_succ]
      refine wpAnyH_take (i := 7) (v := ?_) rfl (by kernel_rfl) (by kernel_rfl) (by kernel_rfl) (fun _ _ _ h => h) (Or.inl ⟨by rfl, ?_⟩) (by assumption) ?_
      rotate_left
      · (intro w hSw; (try dsimp only at hSw); (try simp only [List.getElem_toArray, List.getElem_cons_succ, List.getElem_cons_zero]); first | (go_simp; done) | (go_simp; with_reducible rfl))
      try simp only [Act.put, List.getElem_toArray, List.getElem_cons_succ, List.getElem_cons_zero, List.setIfInBounds_toArray, List.set_cons_zero, List.set_cons_succ]
      refine wpAnyH_ready (rs := [8]) (by kernel_rfl) (by simp) ?_
      refine AllReadyH.cons rfl (fun K hK => ?_) AllReadyH.nil
      try simp only [List.getElem_toArray, List.getElem_cons_succ, List.getElem_cons_zero]
      go_simp
      go_at_call 37; refine (sameInts_any _ _ _ _ m _ _ _ _ _ _ (r1.out.below (Below.refl _ _).drew) (r2.out.below (Below.refl _ _).drew) (by omega)).mono ?_; rintro e3 w3 ⟨rfl, hb3⟩; have g3 : Below wr.heap.size wr w3 := und hb3; have k3 : _ ∧ _ := ⟨(g3.cell (p := ⟨T, k, none⟩) hT1).trans t1, (g3.cell (p := ⟨T', k, none⟩) hT2).trans t2⟩
      refine hK.out _ _ ?_ (fun hHeld => ?_)
      · exact k3
      clear hK K
      try simp only [Act.put, List.getElem_toArray, List.getElem_cons_succ, List.getElem_cons_zero, List.setIfInBounds_toArray, List.set_cons_zero, List.set_cons_succ]
      refine wpAnyH_take (i := 9) (v := ?_) rfl (by kernel_rfl) (by kernel_rfl) (by kernel_rfl) (fun _ _ _ h => h) (Or.inl ⟨by rfl, ?_⟩) (by assumption) ?_
      rotate_left
      · (intro w hSw; (try dsimp only at hSw); (try simp only [List.getElem_toArray, List.getElem_cons_succ, List.getElem_cons_zero]); first | (go_simp; done) | (go_simp; with_reducible rfl))
      try simp only [Act.put, List.getElem_toArray, List.getElem_cons_succ, List.getElem_cons_zero, List.setIfInBounds_toArray, List.set_cons_zero, List.set_cons_succ]
      refine wpAnyH_done (by kernel_rfl) ?_ _
      have HB3 := Lib.hid (bstep (B := w.heap.size) (W := w) HB.out hszw g3)
      clear g3 hb3
      go_wp2_with fail
      go_roundw
      case rel => exact ⟨k + 1, by omega, by go_num, ⟨HB3.out.os, HB3.out.tape, HB3.out.output, HB3.out.size, HB3.out.block⟩⟩
      case measure => simp [intOf]; omega
    · go_wp2_with fail
      go_ret
      exact ⟨rfl, HB.out⟩
end Go.Proofs.YtcpefijmcajebaaDoor
