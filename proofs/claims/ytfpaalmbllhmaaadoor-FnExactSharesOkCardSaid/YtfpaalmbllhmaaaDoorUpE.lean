/- The model's UpWays, BirdShares and GroupCost. -/
import Derived.Test.YtfpaalmbllhmaaaDoorUpD
import Derived.Test.YtfpaalmbllhmaaaDoorChA
set_option linter.unusedSimpArgs false
set_option linter.unusedVariables false
attribute [local go_sem ↓] Go.wp_at_zero Go.wp_at_succ
namespace Go.Proofs.YtfpaalmbllhmaaaDoor
open Go.ChangeShapes Go.WideShapes Go.ChangeAt Go.RowKit

theorem newInts_later {L : List Int} {w w1 : World} {en : Ending} {w2 : World} (h : NewInts L w1 en w2) (hb : Below w.heap.size w w1) : NewInts L w en w2 := by
  obtain ⟨A2, c2, he, hr, hb2⟩ := h
  exact ⟨A2, c2, he, hr.wider hb.size, bstep hb hb.size hb2⟩
/-- a new row of numbers that owns its memory -/
def NewOwn (L : List Int) (w : World) (e : Ending) (w' : World) : Prop :=
  ∃ A1 c1, e = .returned (.slice A1 L.length c1) ∧ w'.ownsRow w.heap.size 3 1 (.slice A1 L.length c1) L.length (numCells (fun j => L.getD j 0) L.length) ∧ Below w.heap.size w w'
theorem NewOwn.ints {L : List Int} {w : World} {e : Ending} {w' : World} (h : NewOwn L w e w') : NewInts L w e w' := by
  obtain ⟨A1, c1, h1, h2, h3⟩ := h
  exact ⟨A1, c1, h1, rowF_of_own h2 (fun j hj => numCells_at _ hj), h3⟩
theorem own_base {w : World} {base base' size n : Nat} {e : TypeId} {v : Value} {xs : List Value} (h : w.ownsRow base e size v n xs) (hb : base' ≤ base) : w.ownsRow base' e size v n xs := by
  refine ⟨h.1, ?_⟩
  rcases h.2 with h2 | ⟨g, cap, cur, hv, h3, h4⟩
  · exact .inl h2
  · exact .inr ⟨g, cap, cur, hv, Nat.le_trans hb h3, h4⟩
set_option maxHeartbeats 1000000 in
theorem sUpWays_any (n : Int) (A : Option Addr) (cap : Nat) (ws : List Wy) (w : World) (hr : RW w w.heap.size A ws) (hm : ws.length ≤ 1073741824) :
    Calls Tryd.prog 15 #[.agg #[.int .i64 n, .slice A ws.length cap]] w (NewInts (upWays n ws) w) := by
  have HR := Lib.hid hr
  have hbs := emptyInts
  clear hr
  unfold upWays
  by_cases h : spanTreeOf n ws < 0
  · rw [if_pos h]
    obtain ⟨tr, htr⟩ : ∃ tr, spanTreeOf n ws = tr := ⟨_, rfl⟩
    have HT := Lib.hid htr
    rw [htr] at h
    clear htr
    go_enter Tryd.func15, Tryd.ntmps15
    go_wp2_with fail
    refine (sSpanTree_any _ _ _ _ _ (HR.out.later (by go_grown)) hm).mono ?_; rintro e w1 ⟨rfl, hb1⟩
    rw [HT.out]
    obtain ⟨hc1, hf1⟩ := bcell hb1
    have hz1_0 : w.heap.size < w1.heap.size := by have hq := hb1.size; (try simp at hq); omega
    have HK1 := Lib.hid hb1
    have HB1 := Lib.hid (bstep (B := w.heap.size) (W := w) (by (try have hp := HB0.out); go_grown) (by go_size) hb1); clear hb1
    go_wp2_with fail
    go_ret
    exact newInts_nil rfl (HB1.out.alloc HB1.out.size _)
  · rw [if_neg h]
    obtain ⟨ht, hno⟩ := treeFor (n := n) (ws := ws) (by omega)
    obtain ⟨m, rfl⟩ := Int.eq_ofNat_of_zero_le (show 0 ≤ n by have := ht.net.lo; omega)
    rw [Int.toNat_natCast]
    obtain ⟨tr, htr⟩ : ∃ tr, spanTreeOf (m : Int) ws = tr := ⟨_, rfl⟩
    have HT := Lib.hid htr
    rw [htr] at h ht ⊢
    have HTF := Lib.hid ht
    obtain ⟨L, hL⟩ : ∃ L, upRow ws tr m = L := ⟨_, rfl⟩
    have HLU := Lib.hid hL
    rw [hL]
    clear htr ht hno hbs hL
    go_enter Tryd.func15, Tryd.ntmps15
    go_wp2_with fail
    refine (sSpanTree_any _ _ _ _ _ (HR.out.later (by go_grown)) hm).mono ?_; rintro e w1 ⟨rfl, hb1⟩
    rw [HT.out]
    obtain ⟨hc1, hf1⟩ := bcell hb1
    have hz1_0 : w.heap.size < w1.heap.size := by have hq := hb1.size; (try simp at hq); omega
    have HK1 := Lib.hid hb1
    have HB1 := Lib.hid (bstep (B := w.heap.size) (W := w) (by (try have hp := HB0.out); go_grown) (by go_size) hb1); clear hb1
    go_wp2_with fail
    refine (l7Up_any m tr A cap ws _ (HR.out.later (by have := HB1.out; go_grown)) HTF.out).mono ?_; rintro e2 w2 ⟨A2, c2, rfl, hrow, hb2⟩
    rw [HLU.out] at hrow ⊢
    have HRO := Lib.hid hrow
    have HB2 := Lib.hid (bstep (B := w.heap.size) (W := w) HB1.out HB1.out.size hb2)
    have hz := HB1.out.size
    clear hrow hb2
    go_wp2_with fail
    go_ret
    exact ⟨_, _, rfl, HRO.out.wider hz, HB2.out⟩
/-- what a place pays whose way up has this number -/
def shOf (ws : List Wy) (r : Int) : Int := if 0 ≤ r then (match ws[r.toNat]? with | some x => x.c | none => 0) else 0
theorem shOf_no {ws : List Wy} {r : Int} (h : r < 0) : shOf ws r = 0 := by unfold shOf; rw [if_neg (by omega)]
theorem shOf_at {ws : List Wy} {q : Nat} {x : Wy} (hx : ws[q]? = some x) : shOf ws (q : Int) = x.c := by unfold shOf; rw [if_pos (by omega), Int.toNat_natCast, hx]
theorem birdShares_len (n : Int) (ws : List Wy) : (birdShares n ws).length = (upWays n ws).length := by
  unfold birdShares upWays
  split
  · rfl
  · rw [shRow_len, upRow_len]
theorem birdShares_at (n : Int) (ws : List Wy) (j : Nat) (h : j < (upWays n ws).length) : (birdShares n ws).getD j 0 = shOf ws ((upWays n ws).getD j 0) := by
  unfold birdShares upWays at *
  by_cases ht : spanTreeOf n ws < 0
  · rw [if_pos ht] at h; simp at h
  · rw [if_neg ht] at h ⊢
    rw [if_neg ht]
    rw [upRow_len] at h
    rw [shRow_at ws _ _ h, upRow_at ws _ _ h]
    rfl
theorem upWays_at (n : Int) (ws : List Wy) (j : Nat) (h : j < (upWays n ws).length) : (upWays n ws).getD j 0 = -1 ∨ ∃ q : Nat, q < ws.length ∧ (upWays n ws).getD j 0 = q := by
  unfold upWays at *
  by_cases ht : spanTreeOf n ws < 0
  · rw [if_pos ht] at h; simp at h
  · rw [if_neg ht] at h ⊢
    rw [upRow_len] at h
    rw [upRow_at ws _ _ h]
    rcases up_cases ws (spanTreeOf n ws) j with ⟨h1, _⟩ | ⟨q, h1, h2, _⟩
    · exact .inl h1
    · exact .inr ⟨q, h1, h2⟩
theorem upWays_len (n : Int) (ws : List Wy) : (upWays n ws).length ≤ 6 := by
  unfold upWays
  by_cases ht : spanTreeOf n ws < 0
  · rw [if_pos ht]; simp
  · rw [if_neg ht, upRow_len]
    have := (treeFor (n := n) (ws := ws) (by omega)).1.net.hi
    omega
theorem RW.wayC {w : World} {B b ob q : Nat} {ws : List Wy} {x : Wy} (h : RW w B (some ⟨b, ob, none⟩) ws) (hx : ws[q]? = some x) : w.cell? ⟨b, ob + q * 3 + 2, none⟩ = some (.int .i64 x.c) := by
  obtain ⟨b', o', e, _, _, _, c2⟩ := h q x hx
  injection e with e; injection e with e1 e2; subst e1; subst e2
  exact c2
set_option maxHeartbeats 4000000 in
theorem sBirdShares_own (n : Int) (A : Option Addr) (cap : Nat) (ws : List Wy) (w : World) (hr : RW w w.heap.size A ws) (hm : ws.length ≤ 1073741824) :
    Calls Tryd.prog 20 #[.agg #[.int .i64 n, .slice A ws.length cap]] w (NewOwn (birdShares n ws) w) := by
  have HR := Lib.hid hr
  have hbs := emptyInts
  obtain ⟨i0, hi0, hz0, hz1', hz2⟩ := info_parts infoInt
  have HAT := Lib.hid (birdShares_at n ws)
  have HUP := Lib.hid (upWays_at n ws)
  have hl6 := upWays_len n ws
  have hlk := birdShares_len n ws
  obtain ⟨L, hL⟩ : ∃ L, upWays n ws = L := ⟨_, rfl⟩
  obtain ⟨KL, hK⟩ : ∃ K, birdShares n ws = K := ⟨_, rfl⟩
  rw [hL] at HAT HUP hl6 hlk
  rw [hK] at HAT hlk ⊢
  have HLK := Lib.hid hlk
  have HL := Lib.hid hL
  clear hr hL hK hlk
  go_enter Tryd.func20, Tryd.ntmps20
  go_wp2_with fail
  refine (sUpWays_any n A cap ws _ (HR.out.later (by go_grown)) hm).mono ?_; rintro e1 w1 ⟨A1, c1, rfl, hrow, hb1⟩
  rw [HL.out] at hrow ⊢
  have k0 : w1.cell? ⟨w.heap.size, 0, none⟩ = some (.int .i64 n) := (hb1.cell (p := ⟨w.heap.size, 0, none⟩) (by simp; omega)).trans ((World.cell?_alloc_lt _ _ _ (by simp)).trans (cell_of_row _ _ 0 _ _ (0, 0) (heap_alloc_new w _)))
  have k1 : w1.cell? ⟨w.heap.size, 1, none⟩ = some (.slice A ws.length cap) := (hb1.cell (p := ⟨w.heap.size, 1, none⟩) (by simp; omega)).trans ((World.cell?_alloc_lt _ _ _ (by simp)).trans (cell_of_row _ _ 1 _ _ (0, 0) (heap_alloc_new w _)))
  have HB1 := Lib.hid (bstep (B := w.heap.size) (W := w) (by go_grown) (by go_size) hb1)
  have hz1 : w.heap.size + 2 ≤ w1.heap.size := by have := hb1.size; simp at this; omega
  have HRO : Hid (RowF w1 (w.heap.size + 2) w1.heap.size A1 L.length (fun j => L.getD j 0)) := by show RowF _ _ _ _ _ _; simpa using hrow
  have HBB := Lib.hid hb1
  clear hrow hb1
  obtain ⟨hh, hhe⟩ : ∃ h, w1.heap.size = h := ⟨_, rfl⟩
  have hlo : (w.heap.size + 2 : Nat) = ((w.alloc (.cells #[.int .i64 n, .slice A ws.length cap] 25)).alloc (.cells #[] 3)).heap.size := by simp
  have HO0 : Hid (w1.ownsRow (w.heap.size + 1) 3 1 (.slice (some ⟨w.heap.size + 1, 0, none⟩) 0 0) 0 (numCells (fun j => KL.getD j 0) 0)) := by
    have h7 := World.ownsRow_made (base := w.heap.size + 1) (e := 3) (size := 1) (w.alloc (.cells #[.int .i64 n, .slice A ws.length cap] 25)) #[] 0 (by simp) (by unfold maxLen; omega) rfl
    rw [World.size_alloc] at h7
    exact own_below h7 HBB.out
  rw [hhe] at HRO hz1
  have HHE : hh ≤ w1.heap.size := by omega
  have hl60 : L.length ≤ 60 := by omega
  clear hhe hlo hl6 hbs HBB
  go_wp2_with fail
  go_loopw [3, 5] (fun v i wr => ∃ k : Nat, k ≤ L.length ∧ i = .int .i64 k ∧ wr.cell? ⟨w.heap.size, 0, none⟩ = some (.int .i64 n) ∧ wr.cell? ⟨w.heap.size, 1, none⟩ = some (.slice A ws.length cap) ∧ Below w.heap.size w wr ∧ hh ≤ wr.heap.size ∧ RowF wr (w.heap.size + 2) hh A1 L.length (fun j => L.getD j 0) ∧ wr.ownsRow (w.heap.size + 1) 3 1 v k (numCells (fun j => KL.getD j 0) k) ∧ (∀ g, v.ownBlock = some g → g = w.heap.size + 1 ∨ hh ≤ g)) (fun _ i _ => L.length - (intOf i).toNat)
  case atStart => exact ⟨0, Nat.zero_le _, rfl, k0, k1, HB1.out, HHE, HRO.out, HO0.out, fun g hg => by simp [Value.ownBlock] at hg; exact .inl hg.symm⟩
  case round =>
    clear k0 k1 HB1 HHE HRO HO0
    obtain ⟨k, hk, rfl, b0, b1, hb, hz, hrow, hown, hoff⟩ := hrel
    obtain ⟨Av, cv, rfl⟩ := own_form hown
    have HB0 := Lib.hid hb
    have HRO := Lib.hid hrow
    have HOWN := Lib.hid hown
    have HOFF := Lib.hid hoff
    have hk0 : (0 : Int) ≤ (k : Int) := by omega
    have hzz : w.heap.size < wr.heap.size := by omega
    clear hb hrow hown hoff
    by_cases hlt : k < L.length
    · have hk1 : (k : Int) < (L.length : Int) := by omega
      obtain ⟨rb, ro, rfl, hr1, hr2, rk, -⟩ := HRO.out.at_ k hlt
      have hKK := HAT.out k hlt
      rcases HUP.out k hlt with hneg | ⟨q, hql, hqe⟩
      · simp only [hneg] at rk hKK
        rw [shOf_no (by omega)] at hKK
        have HKK := Lib.hid hKK
        clear hKK hneg
        go_wp2_with (at_builtin; refine wpList_append_lies _ rfl _ _ _ rfl (w.heap.size + 1) 3 i0 _ 1 8 Tryd.underlying27 hi0 hz0 hz1' hz2 rfl (by omega) _ k (numCells (fun j => KL.getD j 0) k) rfl (World.ownsRow.alloc HOWN.out _) ⟨wr.heap.size, 0, none⟩ 1 1 [.int .i64 0] rfl rfl (World.news_of_block (cs := #[.int .i64 0]) (t := 3) (fr := (0, 0)) (heap_alloc_new wr _)) (by simp [Value.oneCell']) (by omega) (by unfold maxLen; omega) (by omega) (by simp; omega) (wr.heap.size + 1) (by simp) ?_; intro gg cc w5 hown5 hgrow5 hat5 hlt5)
        have HO5 : Hid (w5.ownsRow (w.heap.size + 1) 3 1 (.slice (some ⟨gg, 0, none⟩) (k + 1) cc) (k + 1) (numCells (fun j => KL.getD j 0) (k + 1))) := by
          show World.ownsRow _ _ _ _ _ _ _
          rw [numCells_snoc, HKK.out]; exact hown5
        have hvl := HOWN.out.lt
        have HB5 : Hid (Below w.heap.size w w5) := by
          have h9 := HB0.out.alloc (Nat.le_of_lt hzz) (.cells #[.int .i64 0] 3)
          exact ⟨hgrow5.os.trans h9.os, hgrow5.tape.trans h9.tape, hgrow5.output.trans h9.output, Nat.le_trans h9.size hgrow5.size, fun i hi => (hgrow5.block i (by simp; omega) (fun e => by have := (hvl i e.symm).1; omega)).trans (h9.block i hi)⟩
        have hkeep : ∀ g, g < wr.heap.size → g ≠ w.heap.size + 1 → g < hh → w5.heap[g]? = wr.heap[g]? := fun g hg hne hgh => (hgrow5.block g (by simp; omega) (fun e => by rcases HOFF.out g e.symm with h | h <;> omega)).trans (Below.heap_alloc _ _ _ hg)
        have y0 : w5.cell? ⟨w.heap.size, 0, none⟩ = some (.int .i64 n) := (World.cell?_of_block (w := wr) (hkeep w.heap.size hzz (by omega) (by omega))).trans b0
        have y1 : w5.cell? ⟨w.heap.size, 1, none⟩ = some (.slice A ws.length cap) := (World.cell?_of_block (w := wr) (hkeep w.heap.size hzz (by omega) (by omega))).trans b1
        have hs5 : wr.heap.size + 1 ≤ w5.heap.size := by have := hgrow5.size; simpa using this
        have HRO5 := Lib.hid (rowF_keep HRO.out (w' := w5) (fun g h1 h2 => hkeep g (by omega) (by omega) h2) (by omega))
        have HOF5 : Hid (∀ g, (Value.slice (some ⟨gg, 0, none⟩) (k + 1) cc).ownBlock = some g → g = w.heap.size + 1 ∨ hh ≤ g) := fun g hg => by
          simp [Value.ownBlock] at hg
          subst hg
          rcases hat5 with h | h
          · exact HOFF.out _ h
          · (try simp at h); omega
        clear hgrow5 hat5 hlt5 hvl hkeep
        go_wp2_with fail
        go_roundw
        case rel => exact ⟨k + 1, by omega, by go_num, y0, y1, HB5.out, by omega, HRO5.out, HO5.out, HOF5.out⟩
        case measure => (simp [intOf]) <;> omega
      · simp only [hqe] at rk hKK
        obtain ⟨x, hx⟩ : ∃ x, ws[q]? = some x := ⟨_, List.getElem?_eq_getElem hql⟩
        rw [shOf_at hx] at hKK
        have HKK := Lib.hid hKK
        obtain ⟨b, ob, rfl, hB, c0, c1, c2⟩ := (HR.out.later HB0.out) q x hx
        have hq0 : (0 : Int) ≤ (q : Int) := by omega
        have hq1 : (q : Int) < (ws.length : Int) := by omega
        have hxq := hx
        clear hKK hqe hx
        go_wp2_with fail
        refine wp_region_held_drew (S := (fun w' => w'.cell? ⟨w.heap.size, 0, none⟩ = some (.int .i64 n) ∧ w'.cell? ⟨w.heap.size, 1, none⟩ = some (.slice (some ⟨b, ob, none⟩) ws.length cap) ∧ w'.cell? ⟨rb, ro + k, none⟩ = some (.int .i64 q) ∧ w'.cell? ⟨b, ob + q * 3 + 2, none⟩ = some (.int .i64 x.c))) (by kernel_rfl) ?_ (fun hHeld => ?_)
        · exact ⟨b0, b1, rk, c2⟩
        refine wpAnyH_take (i := 0) (v := ?_) rfl (by kernel_rfl) (by kernel_rfl) (by kernel_rfl) (fun _ _ _ h => h) (Or.inl ⟨by rfl, ?_⟩) (by assumption) ?_
        rotate_left
        · (intro w hSw; (try dsimp only at hSw); (try simp only [List.getElem_toArray, List.getElem_cons_succ, List.getElem_cons_zero]); first | (go_simp; done) | (go_simp; with_reducible rfl))
        try simp only [Act.put, List.getElem_toArray, List.getElem_cons_succ, List.getElem_cons_zero, List.setIfInBounds_toArray, List.set_cons_zero, List.set_cons_succ]
        refine wpAnyH_take (i := 1) (v := ?_) rfl (by kernel_rfl) (by kernel_rfl) (by kernel_rfl) (fun _ _ _ h => h) (Or.inl ⟨by rfl, ?_⟩) (by assumption) ?_
        rotate_left
        · (intro w hSw; (try dsimp only at hSw); (try simp only [List.getElem_toArray, List.getElem_cons_succ, List.getElem_cons_zero]); first | (go_simp; done) | (go_simp; with_reducible rfl))
        try simp only [Act.put, List.getElem_toArray, List.getElem_cons_succ, List.getElem_cons_zero, List.setIfInBounds_toArray, List.set_cons_zero, List.set_cons_succ]
        refine wpAnyH_take (i := 2) (v := ?_) rfl (by kernel_rfl) (by kernel_rfl) (by kernel_rfl) (fun _ _ _ h => h) (Or.inl ⟨by rfl, ?_⟩) (by assumption) ?_
        rotate_left
        · (intro w hSw; (try dsimp only at hSw); (try simp only [List.getElem_toArray, List.getElem_cons_succ, List.getElem_cons_zero]); first | (go_simp; done) | (go_simp; with_reducible rfl))
        try simp only [Act.put, List.getElem_toArray, List.getElem_cons_succ, List.getElem_cons_zero, List.setIfInBounds_toArray, List.set_cons_zero, List.set_cons_succ]
        refine wpAnyH_take (i := 3) (v := ?_) rfl (by kernel_rfl) (by kernel_rfl) (by kernel_rfl) (fun _ _ _ h => h) (Or.inl ⟨by rfl, ?_⟩) (by assumption) ?_
        rotate_left
        · (intro w hSw; (try dsimp only at hSw); (try simp only [List.getElem_toArray, List.getElem_cons_succ, List.getElem_cons_zero]); first | (go_simp; done) | (go_simp; with_reducible rfl))
        try simp only [Act.put, List.getElem_toArray, List.getElem_cons_succ, List.getElem_cons_zero, List.setIfInBounds_toArray, List.set_cons_zero, List.set_cons_succ]
        refine wpAnyH_take (i := 4) (v := ?_) rfl (by kernel_rfl) (by kernel_rfl) (by kernel_rfl) (fun _ _ _ h => h) (Or.inl ⟨by rfl, ?_⟩) (by assumption) ?_
        rotate_left
        · (intro w hSw; (try dsimp only at hSw); (try simp only [List.getElem_toArray, List.getElem_cons_succ, List.getElem_cons_zero]); first | (go_simp; done) | (go_simp; with_reducible rfl))
        try simp only [Act.put, List.getElem_toArray, List.getElem_cons_succ, List.getElem_cons_zero, List.setIfInBounds_toArray, List.set_cons_zero, List.set_cons_succ]
        refine wpAnyH_take (i := 5) (v := ?_) rfl (by kernel_rfl) (by kernel_rfl) (by kernel_rfl) (fun _ _ _ h => h) (Or.inl ⟨by rfl, ?_⟩) (by assumption) ?_
        rotate_left
        · (intro w hSw; (try dsimp only at hSw); (try simp only [List.getElem_toArray, List.getElem_cons_succ, List.getElem_cons_zero]); first | (go_simp; done) | (go_simp; with_reducible rfl))
        try simp only [Act.put, List.getElem_toArray, List.getElem_cons_succ, List.getElem_cons_zero, List.setIfInBounds_toArray, List.set_cons_zero, List.set_cons_succ]
        refine wpAnyH_take (i := 6) (v := ?_) rfl (by kernel_rfl) (by kernel_rfl) (by kernel_rfl) (fun _ _ _ h => h) (Or.inl ⟨by rfl, ?_⟩) (by assumption) ?_
        rotate_left
        · (intro w hSw; (try dsimp only at hSw); (try simp only [List.getElem_toArray, List.getElem_cons_succ, List.getElem_cons_zero]); first | (go_simp; done) | (go_simp; with_reducible rfl))
        try simp only [Act.put, List.getElem_toArray, List.getElem_cons_succ, List.getElem_cons_zero, List.setIfInBounds_toArray, List.set_cons_zero, List.set_cons_succ]
        refine wpAnyH_take (i := 7) (v := ?_) rfl (by kernel_rfl) (by kernel_rfl) (by kernel_rfl) (fun _ _ _ h => h) (Or.inl ⟨by rfl, ?_⟩) (by assumption) ?_
        rotate_left
        · (intro w hSw; (try dsimp only at hSw); (try simp only [List.getElem_toArray, List.getElem_cons_succ, List.getElem_cons_zero]); first | (go_simp; done) | (go_simp; with_reducible rfl))
        try simp only [Act.put, List.getElem_toArray, List.getElem_cons_succ, List.getElem_cons_zero, List.setIfInBounds_toArray, List.set_cons_zero, List.set_cons_succ]
        refine wpAnyH_take (i := 8) (v := ?_) rfl (by kernel_rfl) (by kernel_rfl) (by kernel_rfl) (fun _ _ _ h => h) (Or.inl ⟨by rfl, ?_⟩) (by assumption) ?_
        rotate_left
        · (intro w hSw; (try dsimp only at hSw); (try simp only [List.getElem_toArray, List.getElem_cons_succ, List.getElem_cons_zero]); first | (go_simp; done) | (go_simp; with_reducible rfl))
        try simp only [Act.put, List.getElem_toArray, List.getElem_cons_succ, List.getElem_cons_zero, List.setIfInBounds_toArray, List.set_cons_zero, List.set_cons_succ]
        refine wpAnyH_take (i := 9) (v := ?_) rfl (by kernel_rfl) (by kernel_rfl) (by kernel_rfl) (fun _ _ _ h => h) (Or.inl ⟨by rfl, ?_⟩) (by assumption) ?_
        rotate_left
        · (intro w hSw; (try dsimp only at hSw); (try simp only [List.getElem_toArray, List.getElem_cons_succ, List.getElem_cons_zero]); first | (go_simp; done) | (go_simp; with_reducible rfl))
        try simp only [Act.put, List.getElem_toArray, List.getElem_cons_succ, List.getElem_cons_zero, List.setIfInBounds_toArray, List.set_cons_zero, List.set_cons_succ]
        refine wpAnyH_ready (rs := [10]) (by kernel_rfl) (by simp) ?_
        refine AllReadyH.cons rfl (fun K hK => ?_) AllReadyH.nil
        try simp only [List.getElem_toArray, List.getElem_cons_succ, List.getElem_cons_zero]
        go_simp
        
        refine hK.out _ _ ?_ (fun hHeld => ?_)
        · exact ⟨(World.cell?_alloc_lt _ _ _ hzz).trans b0, (World.cell?_alloc_lt _ _ _ hzz).trans b1, (World.cell?_alloc_lt _ _ _ (by show rb < _; omega)).trans rk, (World.cell?_alloc_lt _ _ _ hB).trans c2⟩
        clear hK K
        try simp only [Act.put, List.getElem_toArray, List.getElem_cons_succ, List.getElem_cons_zero, List.setIfInBounds_toArray, List.set_cons_zero, List.set_cons_succ]
        refine wpAnyH_ready (rs := [11]) (by kernel_rfl) (by simp) ?_
        refine AllReadyH.cons rfl (fun K hK => ?_) AllReadyH.nil
        refine step_append_lies _ (by rfl) _ _ _ (by rfl) (w.heap.size + 1) 3 i0 _ 1 8 Tryd.underlying27 hi0 hz0 hz1' hz2 rfl (by omega) _ k (numCells (fun j => KL.getD j 0) k) (by rfl) (World.ownsRow.alloc HOWN.out _) ⟨wr.heap.size, 0, none⟩ 1 1 [.int .i64 x.c] (by rfl) (by rfl) (World.news_of_block (cs := #[.int .i64 x.c]) (t := 3) (fr := (0, 0)) (heap_alloc_new wr _)) (by simp [Value.oneCell']) (by omega) (by unfold maxLen; omega) (by omega) (by simp; omega) (wr.heap.size + 1) (World.size_alloc wr _) ?_; intro gg cc w5 hown5 hgrow5 hat5 hlt5; have HO5 : Hid (w5.ownsRow (w.heap.size + 1) 3 1 (.slice (some ⟨gg, 0, none⟩) (k + 1) cc) (k + 1) (numCells (fun j => KL.getD j 0) (k + 1))) := (by show World.ownsRow _ _ _ _ _ _ _; rw [numCells_snoc, HKK.out]; exact hown5)
        have hvl := HOWN.out.lt
        have HB5 : Hid (Below w.heap.size w w5) := by
          have h9 := HB0.out.alloc (Nat.le_of_lt hzz) (.cells #[.int .i64 x.c] 3)
          exact ⟨hgrow5.os.trans h9.os, hgrow5.tape.trans h9.tape, hgrow5.output.trans h9.output, Nat.le_trans h9.size hgrow5.size, fun i hi => (hgrow5.block i (by simp; omega) (fun e => by have := (hvl i e.symm).1; omega)).trans (h9.block i hi)⟩
        have hkeep : ∀ g, g < wr.heap.size → g ≠ w.heap.size + 1 → g < hh → w5.heap[g]? = wr.heap[g]? := fun g hg hne hgh => (hgrow5.block g (by simp; omega) (fun e => by rcases HOFF.out g e.symm with h | h <;> omega)).trans (Below.heap_alloc _ _ _ hg)
        have y0 : w5.cell? ⟨w.heap.size, 0, none⟩ = some (.int .i64 n) := (World.cell?_of_block (w := wr) (hkeep w.heap.size hzz (by omega) (by omega))).trans b0
        have y1 : w5.cell? ⟨w.heap.size, 1, none⟩ = some (.slice (some ⟨b, ob, none⟩) ws.length cap) := (World.cell?_of_block (w := wr) (hkeep w.heap.size hzz (by omega) (by omega))).trans b1
        have hs5 : wr.heap.size + 1 ≤ w5.heap.size := by have := hgrow5.size; simpa using this
        have HRO5 := Lib.hid (rowF_keep HRO.out (w' := w5) (fun g h1 h2 => hkeep g (by omega) (by omega) h2) (by omega))
        have HOF5 : Hid (∀ g, (Value.slice (some ⟨gg, 0, none⟩) (k + 1) cc).ownBlock = some g → g = w.heap.size + 1 ∨ hh ≤ g) := fun g hg => by
          simp [Value.ownBlock] at hg
          subst hg
          rcases hat5 with h | h
          · exact HOFF.out _ h
          · (try simp at h); omega
        have y2 : w5.cell? ⟨rb, ro + k, none⟩ = some (.int .i64 q) := (World.cell?_of_block (w := wr) (hkeep rb (by omega) (by omega) hr2)).trans rk
        have y3 : w5.cell? ⟨b, ob + q * 3 + 2, none⟩ = some (.int .i64 x.c) := (HR.out.later HB5.out).wayC hxq
        clear hgrow5 hat5 hlt5 hvl hkeep
        refine hK.out _ _ ?_ (fun hHeld => ?_)
        · exact ⟨y0, y1, y2, y3⟩
        clear hK K
        try simp only [Act.put, List.getElem_toArray, List.getElem_cons_succ, List.getElem_cons_zero, List.setIfInBounds_toArray, List.set_cons_zero, List.set_cons_succ]
        refine wpAnyH_take (i := 12) (v := ?_) rfl (by kernel_rfl) (by kernel_rfl) (by kernel_rfl) (fun _ _ _ h => h) (Or.inl ⟨by rfl, ?_⟩) (by assumption) ?_
        rotate_left
        · (intro w hSw; (try dsimp only at hSw); (try simp only [List.getElem_toArray, List.getElem_cons_succ, List.getElem_cons_zero]); first | (go_simp; done) | (go_simp; with_reducible rfl))
        try simp only [Act.put, List.getElem_toArray, List.getElem_cons_succ, List.getElem_cons_zero, List.setIfInBounds_toArray, List.set_cons_zero, List.set_cons_succ]
        refine wpAnyH_done (by kernel_rfl) ?_ _
        go_wp2_with fail
        go_roundw
        case rel => exact ⟨k + 1, by omega, by go_num, y0, y1, HB5.out, by omega, HRO5.out, HO5.out, HOF5.out⟩
        case measure => (simp [intOf]) <;> omega
    · obtain rfl : k = L.length := by omega
      go_wp2_with fail
      go_ret
      exact ⟨Av, cv, by rw [HLK.out] <;> rfl, by rw [HLK.out]; exact own_base HOWN.out (Nat.le_succ _), HB0.out⟩
theorem sBirdShares_any (n : Int) (A : Option Addr) (cap : Nat) (ws : List Wy) (w : World) (hr : RW w w.heap.size A ws) (hm : ws.length ≤ 1073741824) :
    Calls Tryd.prog 20 #[.agg #[.int .i64 n, .slice A ws.length cap]] w (NewInts (birdShares n ws) w) := (sBirdShares_own n A cap ws w hr hm).mono fun _ _ h => h.ints
set_option maxHeartbeats 1000000 in
theorem sGroupCost_any (n g : Int) (A : Option Addr) (cap : Nat) (ws : List Wy) (w : World) (hr : RW w w.heap.size A ws) (hm : ws.length ≤ 1073741824) :
    Calls Tryd.prog 25 #[.agg #[.int .i64 n, .slice A ws.length cap], .int .i64 g] w fun en w' => en = .returned (.int .i64 (groupCost n ws g)) ∧ Below w.heap.size w w' := by
  have HR := Lib.hid hr
  clear hr
  cases hn : netOk n ws && plOk n g
  · have HN := Lib.hid hn
    rw [groupCost_no (by rw [hn]; rfl)]
    clear hn
    go_enter Tryd.func25, Tryd.ntmps25
    go_wp2_with fail
    refine (l1EndsOk_any _ _ _ _ _ _ (HR.out.later (by go_grown)) hm).mono ?_; rintro e w1 ⟨rfl, hb1⟩
    rw [HN.out]
    obtain ⟨hc1, hf1⟩ := bcell hb1
    have hz1_0 : w.heap.size < w1.heap.size := by have hq := hb1.size; (try simp at hq); omega
    have HK1 := Lib.hid hb1
    have HB1 := Lib.hid (bstep (B := w.heap.size) (W := w) (by (try have hp := HB0.out); go_grown) (by go_size) hb1); clear hb1
    go_wp2_with fail
    go_ret
    exact ⟨rfl, HB1.out⟩
  · have HN := Lib.hid hn
    obtain ⟨hn1, hn2⟩ : netOk n ws = true ∧ plOk n g = true := by simpa using hn
    obtain ⟨g0, g1⟩ := plOk_t hn2
    have hni := netOk_t hn1
    have hg64 := plOk_lt hni.hi hn2
    cases h0 : bit g 0
    · have hm2 : g % 2 = 0 := (even_bit g0).1 h0
      have hm3 : g.tmod 2 = 0 := by rw [Int.tmod_eq_emod_of_nonneg g0]; exact hm2
      have hsb := src_bd hni g1
      have HSO : Hid (spanOn n ws (ior g 1) = so ws (ior g 1)) := by
        show _ = _
        unfold spanOn
        rw [hn1, plOk_mk hsb.1 hsb.2]; rfl
      rw [groupCost_is hn1 hn2 h0]
      have hor : bits .or .i64 g 1 = ior g 1 := bits_or _ _ g0 (by omega) (by omega) (by omega)
      have HOR := Lib.hid hor
      clear hn hn1 hn2 hni h0 hsb hor
      go_enter Tryd.func25, Tryd.ntmps25
      go_wp2_with fail
      refine (l1EndsOk_any _ _ _ _ _ _ (HR.out.later (by go_grown)) hm).mono ?_; rintro e w1 ⟨rfl, hb1⟩
      rw [HN.out]
      obtain ⟨hc1, hf1⟩ := bcell hb1
      have hz1_0 : w.heap.size < w1.heap.size := by have hq := hb1.size; (try simp at hq); omega
      have HK1 := Lib.hid hb1
      have HB1 := Lib.hid (bstep (B := w.heap.size) (W := w) (by (try have hp := HB0.out); go_grown) (by go_size) hb1); clear hb1
      have hor := HOR.out
      go_wp2_with fail
      refine (sSpanOn_any _ _ _ _ _ _ (HR.out.later (by have := HB1.out; go_grown)) hm).mono ?_; rintro e w2 ⟨rfl, hb2⟩
      rw [HSO.out]
      obtain ⟨hc2, hf2⟩ := bcell hb2
      have hz2_0 : w.heap.size < w2.heap.size := by have hq := hb2.size; (try simp at hq); omega
      have HK2 := Lib.hid hb2
      have HB2 := Lib.hid (bstep (B := w.heap.size) (W := w) (by have hp := HB1.out; go_grown) (by go_size) hb2); clear hb2
      go_wp2_with fail
      go_ret
      exact ⟨rfl, HB2.out⟩
    · have hm2 : g % 2 = 1 := by
        have h9 := even_bit g0
        by_cases e : g % 2 = 0
        · rw [h9.2 e] at h0; cases h0
        · omega
      have hm3 : g.tmod 2 = 1 := by rw [Int.tmod_eq_emod_of_nonneg g0]; exact hm2
      rw [groupCost_no (by rw [h0]; simp)]
      clear hn hn1 hn2 hni h0
      go_enter Tryd.func25, Tryd.ntmps25
      go_wp2_with fail
      refine (l1EndsOk_any _ _ _ _ _ _ (HR.out.later (by go_grown)) hm).mono ?_; rintro e w1 ⟨rfl, hb1⟩
      rw [HN.out]
      obtain ⟨hc1, hf1⟩ := bcell hb1
      have hz1_0 : w.heap.size < w1.heap.size := by have hq := hb1.size; (try simp at hq); omega
      have HK1 := Lib.hid hb1
      have HB1 := Lib.hid (bstep (B := w.heap.size) (W := w) (by (try have hp := HB0.out); go_grown) (by go_size) hb1); clear hb1
      go_wp2_with fail
      go_ret
      exact ⟨rfl, HB1.out⟩
end Go.Proofs.YtfpaalmbllhmaaaDoor
