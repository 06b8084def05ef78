/- PartsOf of the program and of its model. -/
import Derived.Test.YtkjheobeogkhlaaDoorRo
import Derived.Test.YtkjheobeogkhlaaDoorDA
import Derived.Test.YtkjheobeogkhlaaDoorLO
import Derived.Deep.DrawnRows
set_option linter.unusedSimpArgs false
set_option linter.unusedVariables false
attribute [local go_sem ↓] Go.wp_at_zero Go.wp_at_succ
namespace Go.Proofs.YtkjheobeogkhlaaDoor
open Go.ChangeShapes Go.WideShapes Go.ChangeAt Go.RowKit

/-! ### a net's ways are written over -/
theorem Row3.set0 {w : World} {b : Nat} {t : TypeId} {ws : List Wy} (h : Row3 w b t ws 0) (j : Nat) (u : Value) : Row3 (w.setCell ⟨b, j, none⟩ u) b t ws 0 := by
  obtain ⟨cs, h1, h2, _⟩ := h.blk
  exact ⟨cs.setIfInBounds j u, by simp [World.setCell, Array.getElem?_modify, h1], by simpa using h2, fun i x hi => by omega⟩
theorem Row3.zero {w : World} {b : Nat} {t : TypeId} {ws : List Wy} {k : Nat} (h : Row3 w b t ws k) : Row3 w b t ws 0 := by
  obtain ⟨cs, h1, h2, _⟩ := h.blk
  exact ⟨cs, h1, h2, fun i x hi => by omega⟩
set_option maxHeartbeats 1000000 in
theorem markWayS_any (b cap : Nat) (ws : List Wy) (q : Int) (w : World) (h : Row3 w b 45 ws 0) (hm : ws.length ≤ 1048576) (hq0 : 0 ≤ q) (hq1 : q ≤ 1048576) :
    Calls Tryd.prog 83 #[.slice (some ⟨b, 0, none⟩) ws.length cap, .int .i64 q] w fun e w' => e = .returned (.int .i64 (q + ws.length * 3)) ∧ Only b (b + 1) w w' := by
  have HF := Lib.hid h
  clear h
  go_enter Tryd.func83, Tryd.ntmps83
  go_wp2_with fail
  go_loopw [1, 5] (fun u i wr => ∃ k : Nat, k ≤ ws.length ∧ u = .int .i64 (q + k * 3) ∧ i = .int .i64 k ∧ Only b (b + 1) w wr ∧ Row3 wr b 45 ws 0) (fun _ i _ => ws.length - (intOf i).toNat)
  case atStart => exact ⟨0, Nat.zero_le _, by simp, rfl, Only.refl _ _ _, HF.out⟩
  case round =>
    obtain ⟨k, hk, rfl, rfl, ho, hf⟩ := hrel
    have HO := Lib.hid ho
    have HG := Lib.hid hf
    clear ho hf
    by_cases hlt : k < ws.length
    · have hk0 : (0 : Int) ≤ (k : Int) := by omega
      have hk1 : (k : Int) < (ws.length : Int) := by omega
      obtain ⟨⟨u0, d0⟩, e0⟩ := HG.out.cell (k * 3) (by omega)
      obtain ⟨⟨u1, d1⟩, e1⟩ := (HG.out.set0 (k * 3) (.int .i64 (q + k * 3))).cell (k * 3 + 1) (by omega)
      obtain ⟨⟨u2, d2⟩, e2⟩ := ((HG.out.set0 (k * 3) (.int .i64 (q + k * 3))).set0 (k * 3 + 1) (.int .i64 (q + k * 3 + 1))).cell (k * 3 + 2) (by omega)
      go_wp2_with fail
      go_roundw
      case rel => exact ⟨k + 1, by omega, by go_num, by go_num, ((HO.out.setCell ⟨Nat.le_refl _, Nat.lt_succ_self _⟩ _).setCell ⟨Nat.le_refl _, Nat.lt_succ_self _⟩ _).setCell ⟨Nat.le_refl _, Nat.lt_succ_self _⟩ _, ((HG.out.set0 _ _).set0 _ _).set0 _ _⟩
      case measure => simp [intOf]; omega
    · have hkm : k = ws.length := by omega
      subst hkm
      go_wp2_with fail
      go_ret
      exact ⟨rfl, HO.out⟩
set_option maxHeartbeats 1000000 in
theorem markNet_any (n : Int) (b cap : Nat) (ws : List Wy) (q : Int) (w : World) (h : Row3 w b 45 ws 0) (hm : ws.length ≤ 1048576) (hq0 : 0 ≤ q) (hq1 : q ≤ 1048576) :
    Calls Tryd.prog 43 #[.agg #[.int .i64 n, .slice (some ⟨b, 0, none⟩) ws.length cap], .int .i64 q] w fun e w' => e = .returned (.int .i64 (q + ws.length * 3)) ∧ Only b (b + 1) w w' := by
  have HF := Lib.hid h
  have hbl := h.lt
  clear h
  go_enter Tryd.func43, Tryd.ntmps43
  go_wp2_with fail
  refine (markWayS_any b cap ws q _ (HF.out.below ((Below.refl _ _).alloc (Nat.le_refl _) _)) hm hq0 hq1).mono ?_; rintro e w1 ⟨rfl, h1⟩
  go_wp2_with fail
  go_ret
  exact ⟨rfl, (Only.of ((Below.refl _ _).alloc (Nat.le_refl _) _)).trans h1⟩

/-! ### the parts -/
noncomputable def partAt (ws : List Wy) (p : Nat) : Int := low (reach ws (full ws.length) p)
def partsLen (n : Int) (ws : List Wy) : Nat := if netOk n ws = true then n.toNat else 0
/-- a new row of parts -/
def NewParts (n : Int) (ws : List Wy) (w : World) (e : Ending) (w' : World) : Prop :=
  ∃ A1 c1, e = .returned (.slice A1 (partsLen n ws) c1) ∧ RowF w' w.heap.size w'.heap.size A1 (partsLen n ws) (partAt ws) ∧ Below w.heap.size w w'
theorem mkInts' (W : World) (m : Nat) (hm : m ≤ 6) : (Instr.makeSlice 46 (.int .i64 (m : Int)) (.int .i64 (m : Int))).run Tryd.prog W = .ok (.slice (some ⟨W.heap.size, 0, none⟩) m m) (W.alloc (.cells (Array.replicate m (.int .i64 0)) 3)) := by
  have k0 : ∀ W, (Instr.makeSlice 46 (.int .i64 ((0 : Nat) : Int)) (.int .i64 ((0 : Nat) : Int))).run Tryd.prog W = .ok (.slice (some ⟨W.heap.size, 0, none⟩) 0 0) (W.alloc (.cells (Array.replicate 0 (.int .i64 0)) 3)) := fun W => by kernel_rfl
  have k1 : ∀ W, (Instr.makeSlice 46 (.int .i64 ((1 : Nat) : Int)) (.int .i64 ((1 : Nat) : Int))).run Tryd.prog W = .ok (.slice (some ⟨W.heap.size, 0, none⟩) 1 1) (W.alloc (.cells (Array.replicate 1 (.int .i64 0)) 3)) := fun W => by kernel_rfl
  have k2 : ∀ W, (Instr.makeSlice 46 (.int .i64 ((2 : Nat) : Int)) (.int .i64 ((2 : Nat) : Int))).run Tryd.prog W = .ok (.slice (some ⟨W.heap.size, 0, none⟩) 2 2) (W.alloc (.cells (Array.replicate 2 (.int .i64 0)) 3)) := fun W => by kernel_rfl
  have k3 : ∀ W, (Instr.makeSlice 46 (.int .i64 ((3 : Nat) : Int)) (.int .i64 ((3 : Nat) : Int))).run Tryd.prog W = .ok (.slice (some ⟨W.heap.size, 0, none⟩) 3 3) (W.alloc (.cells (Array.replicate 3 (.int .i64 0)) 3)) := fun W => by kernel_rfl
  have k4 : ∀ W, (Instr.makeSlice 46 (.int .i64 ((4 : Nat) : Int)) (.int .i64 ((4 : Nat) : Int))).run Tryd.prog W = .ok (.slice (some ⟨W.heap.size, 0, none⟩) 4 4) (W.alloc (.cells (Array.replicate 4 (.int .i64 0)) 3)) := fun W => by kernel_rfl
  have k5 : ∀ W, (Instr.makeSlice 46 (.int .i64 ((5 : Nat) : Int)) (.int .i64 ((5 : Nat) : Int))).run Tryd.prog W = .ok (.slice (some ⟨W.heap.size, 0, none⟩) 5 5) (W.alloc (.cells (Array.replicate 5 (.int .i64 0)) 3)) := fun W => by kernel_rfl
  have k6 : ∀ W, (Instr.makeSlice 46 (.int .i64 ((6 : Nat) : Int)) (.int .i64 ((6 : Nat) : Int))).run Tryd.prog W = .ok (.slice (some ⟨W.heap.size, 0, none⟩) 6 6) (W.alloc (.cells (Array.replicate 6 (.int .i64 0)) 3)) := fun W => by kernel_rfl
  have h7 : m = 0 ∨ m = 1 ∨ m = 2 ∨ m = 3 ∨ m = 4 ∨ m = 5 ∨ m = 6 := by omega
  rcases h7 with h | h | h | h | h | h | h <;> subst h
  · exact k0 W
  · exact k1 W
  · exact k2 W
  · exact k3 W
  · exact k4 W
  · exact k5 W
  · exact k6 W
theorem new_rowF (w : World) (m : Nat) (t : TypeId) : RowF (w.alloc (.cells (Array.replicate m (.int .i64 0)) t)) w.heap.size (w.heap.size + 1) (some ⟨w.heap.size, 0, none⟩) m (fun _ => 0) :=
  ⟨fun j hj => by
    have h := heap_alloc_new w (.cells (Array.replicate m (.int .i64 0)) t)
    refine ⟨w.heap.size, 0, rfl, Nat.le_refl _, Nat.lt_succ_self _, ?_, ?_⟩
    · unfold World.cell?
      simp only [h]
      simp [hj]
    · unfold World.frozen?
      simp only [h]
      simp, by simp⟩

theorem RowF.fill0 {w : World} {lo hi b m k : Nat} {f : Nat → Int} (h : RowF w lo hi (some ⟨b, 0, Option.none⟩) m (fun j => if j < k then f j else 0)) (hk : k < m) :
    RowF (w.setCell ⟨b, k, Option.none⟩ (.int .i64 (f k))) lo hi (some ⟨b, 0, Option.none⟩) m (fun j => if j < k + 1 then f j else 0) := by
  have h8 := (h.put hk (f k)).congr (g := fun j => if j < k + 1 then f j else 0) (fun j _ => by
    (try dsimp only)
    by_cases e : j = k
    · subst e; simp
    · rw [if_neg e]
      by_cases e2 : j < k
      · rw [if_pos e2, if_pos (by omega)]
      · rw [if_neg e2, if_neg (by omega)])
  rw [Nat.zero_add] at h8
  exact h8
set_option maxHeartbeats 2000000 in
theorem PartsOf_any (n : Int) (A : Option Addr) (cap : Nat) (ws : List Wy) (w : World) (hr : RW w w.heap.size A ws) (hT : Tab w) :
    Calls Tryd.prog 41 #[.agg #[.int .i64 n, .slice A ws.length cap]] w (NewParts n ws w) := by
  have HR := Lib.hid hr
  have HT := Lib.hid hT
  clear hr hT
  cases hn : netOk n ws
  · have HN := Lib.hid hn
    have hl : partsLen n ws = 0 := by unfold partsLen; rw [hn]; rfl
    unfold NewParts
    rw [hl]
    clear hn hl
    go_enter Tryd.func41, Tryd.ntmps41
    go_wp2_with fail
    refine (NetOk_any _ _ _ _ _ (HR.out.later (by go_grown))).mono ?_; rintro e w1 ⟨rfl, hb1⟩
    rw [HN.out]
    obtain ⟨hc1, hf1⟩ := bcell hb1
    have hz1_0 : w.heap.size < w1.heap.size := by have hq := hb1.size; (try simp at hq); omega
    have HK1 := Lib.hid hb1
    have HB1 := Lib.hid (bstep (B := w.heap.size) (W := w) (by (try have hp := HB0.out); go_grown) (by go_size) hb1); clear hb1
    go_wp2_with fail
    go_ret
    exact ⟨none, 0, rfl, RowF.none _ _ _ _ _ (Nat.le_refl _), HB1.out⟩
  · have HN := Lib.hid hn
    have hni := netOk_t hn
    have HS := Lib.hid hni
    have hl9 := hni.len
    have hn2 := hni.lo
    have hn6 := hni.hi
    obtain ⟨m, rfl⟩ := Int.eq_ofNat_of_zero_le (show 0 ≤ n by omega)
    have hl : partsLen (m : Int) ws = m := by unfold partsLen; rw [hn]; simp
    have hfb := full_bd ws.length hl9
    have hf0 := hfb.1
    have hf1 : full ws.length ≤ 1048576 := by omega
    have hmk := fun W => mkInts' W m (by omega)
    unfold NewParts
    rw [hl]
    clear hn hni hl hfb
    go_enter Tryd.func41, Tryd.ntmps41
    go_wp2_with fail
    refine (NetOk_any _ _ _ _ _ (HR.out.later (by go_grown))).mono ?_; rintro e w1 ⟨rfl, hb1⟩
    rw [HN.out]
    obtain ⟨hc1, hf1⟩ := bcell hb1
    have hz1_0 : w.heap.size < w1.heap.size := by have hq := hb1.size; (try simp at hq); omega
    have HK1 := Lib.hid hb1
    have HB1 := Lib.hid (bstep (B := w.heap.size) (W := w) (by (try have hp := HB0.out); go_grown) (by go_size) hb1); clear hb1
    have k1 : w1.cell? ⟨w.heap.size, 0, none⟩ = some (.int .i64 m) ∧ w1.cell? ⟨w.heap.size, 1, none⟩ = some (.slice A ws.length cap) := ⟨by go_simp, by go_simp⟩
    clear hc1 hf1
    go_wp2_with fail
    clear hmk
    go_loopw [13] (fun i wr => ∃ k : Nat, k ≤ m ∧ i = .int .i64 k ∧ wr.cell? ⟨w.heap.size, 0, none⟩ = some (.int .i64 m) ∧ wr.cell? ⟨w.heap.size, 1, none⟩ = some (.slice A ws.length cap) ∧ Below w.heap.size w wr ∧ RowF wr w1.heap.size (w1.heap.size + 1) (some ⟨w1.heap.size, 0, none⟩) m (fun j => if j < k then partAt ws j else 0)) (fun i _ => m - (intOf i).toNat)
    case atStart => exact ⟨0, Nat.zero_le _, rfl, (World.cell?_alloc_lt _ _ _ hz1_0).trans k1.1, (World.cell?_alloc_lt _ _ _ hz1_0).trans k1.2, HB1.out.alloc (Nat.le_of_lt hz1_0) _, (new_rowF w1 m _).congr (fun j _ => by simp)⟩
    case round =>
      clear k1
      obtain ⟨k, hk, rfl, b0, b1, hb, hrow⟩ := hrel
      have htop := hrow.top
      have hz : w.heap.size < wr.heap.size := by omega
      by_cases hlt : k < m
      · have hk0 : (0 : Int) ≤ (k : Int) := by omega
        have hk1 : (k : Int) < (m : Int) := by omega
        have HRR := Lib.hid (HR.out.later hb)
        have HTT := Lib.hid (HT.out.later hb)
        have HB0 := Lib.hid hb
        have HROW := Lib.hid hrow
        have hri := reach_is (s := full ws.length) HS.out hk0 (show (k : Int) < (m : Int) by omega)
        have hr0 : 0 < reach ws (full ws.length) k := by
          have h0 := hri.lo
          have hne : reach ws (full ws.length) k ≠ 0 := fun e => by have h9 := hri.has; rw [e, bit_zero_] at h9; cases h9
          omega
        have hr1 : reach ws (full ws.length) k < 1073741824 := by have := hri.hi; omega
        have HP : Hid (low (reach ws (full ws.length) k) = partAt ws k) := rfl
        have hwr : IntKind.u64.wrap (reach ws (full ws.length) k) = reach ws (full ws.length) k := by rw [IntKind.wrap_u64]; omega
        clear hb hrow hri
        go_wp2_with fail
        refine wp_region_held_drew (S := (fun w' => w'.cell? ⟨w.heap.size, 0, none⟩ = some (.int .i64 m) ∧ w'.cell? ⟨w.heap.size, 1, none⟩ = some (.slice A ws.length cap))) (by kernel_rfl) ?_ (fun hHeld => ?_)
        · exact ⟨b0, b1⟩
        refine wpAnyH_take (i := 0) (v := ?_) rfl (by kernel_rfl) (by kernel_rfl) (by kernel_rfl) (fun _ _ _ h => h) (Or.inl ⟨by rfl, ?_⟩) (by assumption) ?_
        rotate_left
        · (intro w hSw; (try dsimp only at hSw); (try simp only [List.getElem_toArray, List.getElem_cons_succ, List.getElem_cons_zero]); first | (go_simp; done) | (go_simp; with_reducible rfl))
        try simp only [Act.put, List.getElem_toArray, List.getElem_cons_succ, List.getElem_cons_zero, List.setIfInBounds_toArray, List.set_cons_zero, List.set_cons_succ]
        refine wpAnyH_take (i := 1) (v := ?_) rfl (by kernel_rfl) (by kernel_rfl) (by kernel_rfl) (fun _ _ _ h => h) (Or.inl ⟨by rfl, ?_⟩) (by assumption) ?_
        rotate_left
        · (intro w hSw; (try dsimp only at hSw); (try simp only [List.getElem_toArray, List.getElem_cons_succ, List.getElem_cons_zero]); first | (go_simp; done) | (go_simp; with_reducible rfl))
        try simp only [Act.put, List.getElem_toArray, List.getElem_cons_succ, List.getElem_cons_zero, List.setIfInBounds_toArray, List.set_cons_zero, List.set_cons_succ]
        refine wpAnyH_take (i := 2) (v := ?_) rfl (by kernel_rfl) (by kernel_rfl) (by kernel_rfl) (fun _ _ _ h => h) (Or.inl ⟨by rfl, ?_⟩) (by assumption) ?_
        rotate_left
        · (intro w hSw; (try dsimp only at hSw); (try simp only [List.getElem_toArray, List.getElem_cons_succ, List.getElem_cons_zero]); first | (go_simp; done) | (go_simp; with_reducible rfl))
        try simp only [Act.put, List.getElem_toArray, List.getElem_cons_succ, List.getElem_cons_zero, List.setIfInBounds_toArray, List.set_cons_zero, List.set_cons_succ]
        refine wpAnyH_take (i := 3) (v := ?_) rfl (by kernel_rfl) (by kernel_rfl) (by kernel_rfl) (fun _ _ _ h => h) (Or.inl ⟨by rfl, ?_⟩) (by assumption) ?_
        rotate_left
        · (intro w hSw; (try dsimp only at hSw); (try simp only [List.getElem_toArray, List.getElem_cons_succ, List.getElem_cons_zero]); first | (go_simp; done) | (go_simp; with_reducible rfl))
        try simp only [Act.put, List.getElem_toArray, List.getElem_cons_succ, List.getElem_cons_zero, List.setIfInBounds_toArray, List.set_cons_zero, List.set_cons_succ]
        refine wpAnyH_take (i := 5) (v := ?_) rfl (by kernel_rfl) (by kernel_rfl) (by kernel_rfl) (fun _ _ _ h => h) (Or.inl ⟨by rfl, ?_⟩) (by assumption) ?_
        rotate_left
        · (intro w hSw; (try dsimp only at hSw); (try simp only [List.getElem_toArray, List.getElem_cons_succ, List.getElem_cons_zero]); first | (go_simp; done) | (go_simp; with_reducible rfl))
        try simp only [Act.put, List.getElem_toArray, List.getElem_cons_succ, List.getElem_cons_zero, List.setIfInBounds_toArray, List.set_cons_zero, List.set_cons_succ]
        refine wpAnyH_ready (rs := [4]) (by kernel_rfl) (by simp) ?_
        refine AllReadyH.cons rfl (fun K hK => ?_) AllReadyH.nil
        try simp only [List.getElem_toArray, List.getElem_cons_succ, List.getElem_cons_zero]
        go_simp
        go_at_call 77; refine (allWays_any m A ws.length cap (by omega) _).mono ?_; rintro e3 w3 ⟨rfl, hb3⟩; have g3 : Below wr.heap.size wr w3 := und hb3; have k3 := keep2 g3 ⟨b0, b1⟩ hz; have r3 := Lib.hid (HRR.out.later g3); have t3 := Lib.hid (HTT.out.later g3); have z3 := Nat.lt_of_lt_of_le hz g3.size
        refine hK.out _ _ ?_ (fun hHeld => ?_)
        · exact k3
        clear hK K
        try simp only [Act.put, List.getElem_toArray, List.getElem_cons_succ, List.getElem_cons_zero, List.setIfInBounds_toArray, List.set_cons_zero, List.set_cons_succ]
        refine wpAnyH_ready (rs := [6]) (by kernel_rfl) (by simp) ?_
        refine AllReadyH.cons rfl (fun K hK => ?_) AllReadyH.nil
        try simp only [List.getElem_toArray, List.getElem_cons_succ, List.getElem_cons_zero]
        go_simp
        go_at_call 82; refine (setReach_any m (full ws.length) k A cap ws w3 r3.out HS.out hf0 hf1 hk0 hk1).mono ?_; rintro e4 w4 ⟨rfl, hb4⟩; have k4 := keep2 hb4 k3 z3; have t4 := Lib.hid (t3.out.later hb4); have z4 := Nat.lt_of_lt_of_le z3 hb4.size
        refine hK.out _ _ ?_ (fun hHeld => ?_)
        · exact k4
        clear hK K
        try simp only [Act.put, List.getElem_toArray, List.getElem_cons_succ, List.getElem_cons_zero, List.setIfInBounds_toArray, List.set_cons_zero, List.set_cons_succ]
        refine wpAnyH_take (i := 7) (v := ?_) rfl (by kernel_rfl) (by kernel_rfl) (by kernel_rfl) (fun _ _ _ h => h) (Or.inl ⟨by rfl, ?_⟩) (by assumption) ?_
        rotate_left
        · (intro w hSw; (try dsimp only at hSw); (try simp only [List.getElem_toArray, List.getElem_cons_succ, List.getElem_cons_zero]); first | (go_simp; done) | (go_simp; with_reducible rfl))
        try simp only [Act.put, List.getElem_toArray, List.getElem_cons_succ, List.getElem_cons_zero, List.setIfInBounds_toArray, List.set_cons_zero, List.set_cons_succ]
        refine wpAnyH_ready (rs := [8]) (by kernel_rfl) (by simp) ?_
        refine AllReadyH.cons rfl (fun K hK => ?_) AllReadyH.nil
        try simp only [List.getElem_toArray, List.getElem_cons_succ, List.getElem_cons_zero]
        go_simp
        go_at_call 81; refine (TZ_any (reach ws (full ws.length) k) hr0 hr1 _ t4.out).mono ?_; rintro e5 w5 ⟨rfl, rfl⟩; rw [HP.out]; obtain ⟨bq, oq, hq, _, _, x0, x1⟩ := ((HROW.out.below g3).below hb4).at_ k hlt; injection hq with hq; injection hq with hq1 hq2; subst hq1; subst hq2; rw [Nat.zero_add] at x0 x1
        refine hK.out _ _ ?_ (fun hHeld => ?_)
        · exact k4
        clear hK K
        try simp only [Act.put, List.getElem_toArray, List.getElem_cons_succ, List.getElem_cons_zero, List.setIfInBounds_toArray, List.set_cons_zero, List.set_cons_succ]
        refine wpAnyH_take (i := 9) (v := ?_) rfl (by kernel_rfl) (by kernel_rfl) (by kernel_rfl) (fun _ _ _ h => h) (Or.inl ⟨by rfl, ?_⟩) (by assumption) ?_
        rotate_left
        · (intro w hSw; (try dsimp only at hSw); (try simp only [List.getElem_toArray, List.getElem_cons_succ, List.getElem_cons_zero]); first | (go_simp; done) | (go_simp; with_reducible rfl))
        try simp only [Act.put, List.getElem_toArray, List.getElem_cons_succ, List.getElem_cons_zero, List.setIfInBounds_toArray, List.set_cons_zero, List.set_cons_succ]
        refine wpAnyH_ready (rs := [10]) (by kernel_rfl) (by simp) ?_
        refine AllReadyH.cons rfl (fun K hK => ?_) AllReadyH.nil
        try simp only [List.getElem_toArray, List.getElem_cons_succ, List.getElem_cons_zero]
        go_simp
        have k5 : (w4.setCell ⟨w1.heap.size, k, none⟩ (.int .i64 (partAt ws k))).cell? ⟨w.heap.size, 0, none⟩ = some (.int .i64 m) ∧ (w4.setCell ⟨w1.heap.size, k, none⟩ (.int .i64 (partAt ws k))).cell? ⟨w.heap.size, 1, none⟩ = some (.slice A ws.length cap) := ⟨(World.cell?_setCell_other _ _ _ _ (by intro e'; simp only [Addr.mk.injEq] at e'; omega)).trans k4.1, (World.cell?_setCell_other _ _ _ _ (by intro e'; simp only [Addr.mk.injEq] at e'; omega)).trans k4.2⟩
        refine hK.out _ _ ?_ (fun hHeld => ?_)
        · exact k5
        clear hK K
        try simp only [Act.put, List.getElem_toArray, List.getElem_cons_succ, List.getElem_cons_zero, List.setIfInBounds_toArray, List.set_cons_zero, List.set_cons_succ]
        refine wpAnyH_done (by kernel_rfl) ?_ _
        have HB9 := Lib.hid (bstep (B := w.heap.size) (W := w) HB0.out (Nat.le_of_lt hz) (bstep g3 g3.size hb4))
        have HROW4 := Lib.hid ((HROW.out.below g3).below hb4)
        clear g3 hb3 hb4
        go_wp2_with fail
        go_roundw
        case rel => exact ⟨k + 1, by omega, by go_num, k5.1, k5.2, by have h9 := HB9.out; exact ⟨h9.os, h9.tape, h9.output, by have := h9.size; simpa [World.setCell] using this, fun i hi => (Below.heap_setCell _ _ _ _ (by show i ≠ w1.heap.size; omega)).trans (h9.block i hi)⟩, HROW4.out.fill0 hlt⟩
        case measure => simp [intOf]; omega
      · have hkm : k = m := by omega
        subst hkm
        have HB0 := Lib.hid hb
        have HROW := Lib.hid hrow
        clear hb hrow
        go_wp2_with fail
        go_ret
        exact ⟨_, _, rfl, ⟨fun j hj => by
          obtain ⟨b, o, ha, hl, hh, hc, hf⟩ := HROW.out.at_ j hj
          rw [if_pos hj] at hc
          exact ⟨b, o, ha, by omega, by omega, hc, hf⟩, Nat.le_refl _⟩, HB0.out⟩
end Go.Proofs.YtkjheobeogkhlaaDoor
