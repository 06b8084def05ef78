/- The program's codes of trees: CodeOf. -/
import Derived.Test.YtimccjmphdkbjaaDoorPcI
set_option linter.unusedSimpArgs false
set_option linter.unusedVariables false
attribute [local go_sem ↓] Go.wp_at_zero Go.wp_at_succ
namespace Go.Proofs.YtimccjmphdkbjaaDoor
open Go.ChangeShapes Go.WideShapes Go.ChangeAt Go.RowKit

set_option maxRecDepth 100000 in
set_option maxHeartbeats 1000000 in
theorem clonePairs_any (b o cap : Nat) (L : List (Int × Int)) (w : World) (hr : RC w w.heap.size (some ⟨b, o, none⟩) L) (hm : L.length ≤ 1000) :
    Calls Tryd.prog 41 #[.slice (some ⟨b, o, none⟩) L.length cap] w fun e w' => ∃ A1 c1, e = .returned (.slice A1 L.length c1) ∧ w'.ownsRow w.heap.size 28 2 (.slice A1 L.length c1) L.length (ctCells L) ∧ Below w.heap.size w w' := by
  obtain ⟨i0, hi0, hz0, hz1', hz2⟩ := info_parts infoPr
  have hon : Hid ((w.alloc (.cells #[] 28)).ownsRow w.heap.size 28 2 (.slice (some ⟨w.heap.size, 0, none⟩) 0 0) 0 []) := ⟨rfl, .inr ⟨w.heap.size, 0, #[], rfl, Nat.le_refl _, heap_alloc_new _ _, Nat.le_refl _, Nat.zero_le _, rfl, rfl⟩⟩
  have hnw := Lib.hid (RC.news (hr.later ((Below.refl _ _).alloc (Nat.le_refl _) (.cells #[] 28))))
  have he : ∀ W : World, (binOp .eql 23 (.slice (some ⟨b, o, none⟩) L.length cap) (.slice none 0 0)).run Tryd.prog W = .ok (.bool false) W := fun _ => rfl
  clear hr
  go_enter Tryd.func41, Tryd.ntmps41
  go_wp2_with (at_builtin; refine wpList_append_copy rfl _ _ _ rfl w.heap.size 28 i0 _ 2 16 Tryd.underlying23 hi0 hz0 hz1' hz2 rfl (by decide) (.slice (some ⟨w.heap.size, 0, none⟩) 0 0) rfl hon.out ⟨b, o, none⟩ L.length cap (ctCells L) rfl (ctCells_len L) hnw.out (ctCells_one _) (by unfold maxLen; omega) (by omega) (by simp) ?_; intro A5 c5 w5 hown5 hg5; have HO5 := Lib.hid hown5; have HG5 := Lib.hid (below_grow ((Below.refl w.heap.size w).alloc (Nat.le_refl _) _) hg5 (Nat.le_refl _)); clear hown5 hg5)
  go_ret
  exact ⟨A5, c5, rfl, HO5.out, HG5.out⟩
/-! ### counts of pairs -/
set_option maxRecDepth 100000 in
set_option maxHeartbeats 2000000 in
theorem linkCounts_any (m : Nat) (h6 : m ≤ 6) (b o cp : Nat) (L : List (Int × Int)) (w : World) (hr : RC w w.heap.size (some ⟨b, o, none⟩) L) (hbw : b < w.heap.size) (hl5 : L.length ≤ 5) (hin : ∀ p, p ∈ L → InP m p) :
    Calls Tryd.prog 43 #[.int .i64 m, .slice (some ⟨b, o, none⟩) L.length cp] w fun e w' => e = .returned (.slice (some ⟨w.heap.size, 0, none⟩) m m) ∧ RowG w' w.heap.size 3 m (fun i => degL L (i : Int)) ∧ Below w.heap.size w w' := by
  have HRC := Lib.hid hr
  have HINP := Lib.hid hin
  have hmk := fun W => mkInts' W m h6
  have HROW0 : Hid (RowG (w.alloc (.cells (Array.replicate m (.int .i64 0)) 3)) w.heap.size 3 m (fun i => degL (L.take 0) (i : Int))) := RowG.made w 3 m
  clear hr hin
  go_enter Tryd.func43, Tryd.ntmps43
  go_wp2_with fail
  clear hmk
  go_loopw [12] (fun i wr => ∃ k : Nat, k ≤ L.length ∧ i = .int .i64 (k : Int) ∧ RowG wr w.heap.size 3 m (fun i => degL (L.take k) (i : Int)) ∧ Below w.heap.size w wr) (fun i _ => L.length - (intOf i).toNat)
  case atStart => exact ⟨0, Nat.zero_le _, rfl, HROW0.out, (Below.refl _ _).alloc (Nat.le_refl _) _⟩
  case round =>
    clear HROW0
    obtain ⟨k, hk, rfl, hrow, hb⟩ := hrel
    have HROW := Lib.hid hrow
    have HB := Lib.hid hb
    have hk0 : (0 : Int) ≤ (k : Int) := by omega
    by_cases hlk : k < L.length
    · have hk1 : (k : Int) < (L.length : Int) := by omega
      obtain ⟨⟨ia, ib⟩, hx⟩ : ∃ x, L[k]? = some x := ⟨_, List.getElem?_eq_getElem hlk⟩
      obtain ⟨x0, x1, x2⟩ := HINP.out _ (List.mem_of_getElem? hx)
      simp only at x0 x1 x2
      obtain ⟨pa, rfl⟩ := Int.eq_ofNat_of_zero_le x0
      obtain ⟨pb, rfl⟩ := Int.eq_ofNat_of_zero_le (show 0 ≤ ib by omega)
      have ham : pa < m := by omega
      have hbm : pb < m := by omega
      have hab : pb ≠ pa := by omega
      obtain ⟨b', o', e9, -, c0, c1⟩ := (HRC.out.below hb) k _ hx
      injection e9 with e9; injection e9 with e91 e92; subst e91; subst e92
      simp only at c0 c1
      have HSTEP : Hid (∀ v : Int, degL (L.take (k + 1)) v = degL (L.take k) v + ((if (pa : Int) = v then 1 else 0) + (if (pb : Int) = v then 1 else 0))) := fun v => degL_take hx v
      have hdb : ∀ v : Int, 0 ≤ degL (L.take k) v ∧ degL (L.take k) v ≤ 10 := fun v => by
        have := degL_bd (L.take k) v
        have h9 : (L.take k).length ≤ 5 := by rw [List.length_take]; omega
        omega
      obtain ⟨FA, hFA⟩ : ∃ F, degL (L.take k) (pa : Int) = F := ⟨_, rfl⟩
      obtain ⟨FB, hFB⟩ : ∃ F, degL (L.take k) (pb : Int) = F := ⟨_, rfl⟩
      have hda := hdb (pa : Int)
      have hdb' := hdb (pb : Int)
      rw [hFA] at hda
      rw [hFB] at hdb'
      have hbs : w.heap.size < wr.heap.size := hrow.lt
      have hvb : (wr.alloc (.cells #[.int .i64 (pa : Int), .int .i64 (pb : Int)] 28)).heap[wr.heap.size]? = some (.cells #[.int .i64 (pa : Int), .int .i64 (pb : Int)] 28 (0, 0)) := heap_alloc_new _ _
      have hrowV : RowG (wr.alloc (.cells #[.int .i64 (pa : Int), .int .i64 (pb : Int)] 28)) w.heap.size 3 m (fun i => degL (L.take k) (i : Int)) := hrow.alloc _
      have HBV : Hid (Below w.heap.size w (wr.alloc (.cells #[.int .i64 (pa : Int), .int .i64 (pb : Int)] 28))) := hb.alloc hb.size _
      obtain ⟨V, hV⟩ : ∃ V, wr.alloc (.cells #[.int .i64 (pa : Int), .int .i64 (pb : Int)] 28) = V := ⟨_, rfl⟩
      rw [hV] at hvb hrowV HBV
      have p0 : V.cell? ⟨wr.heap.size, 0, none⟩ = some (.int .i64 (pa : Int)) := cell_of_row _ _ 0 _ _ (0, 0) hvb
      have p1 : V.cell? ⟨wr.heap.size, 1, none⟩ = some (.int .i64 (pb : Int)) := cell_of_row _ _ 1 _ _ (0, 0) hvb
      have d0 := hrowV.cell ham
      have f0 := hrowV.frozen pa
      rw [hFA] at d0
      obtain ⟨V1, hV1⟩ : ∃ V1, V.setCell ⟨w.heap.size, pa, none⟩ (.int .i64 (FA + 1)) = V1 := ⟨_, rfl⟩
      have hrow1 : RowG V1 w.heap.size 3 m (fun i => if i = pa then FA + 1 else degL (L.take k) (i : Int)) := by rw [← hV1]; exact hrowV.put ham (FA + 1)
      have d1 := hrow1.cell hbm
      have f1 := hrow1.frozen pb
      rw [if_neg hab, hFB] at d1
      have q1 : V1.cell? ⟨wr.heap.size, 1, none⟩ = some (.int .i64 (pb : Int)) := by
        have hbk : V1.heap[wr.heap.size]? = V.heap[wr.heap.size]? := by rw [← hV1]; exact heap_set_other V w.heap.size pa _ (by omega)
        exact (World.cell?_of_block hbk).trans p1
      have HR2 : Hid (RowG (V1.setCell ⟨w.heap.size, pb, none⟩ (.int .i64 (FB + 1))) w.heap.size 3 m (fun i => degL (L.take (k + 1)) (i : Int))) :=
        (hrow1.put hbm (FB + 1)).congr fun i hi => by
          rw [HSTEP.out]
          by_cases e1 : i = pb
          · rw [if_pos e1, if_neg (by omega), if_pos (by omega), e1, hFB]; omega
          · rw [if_neg e1, if_neg (show ¬ (pb : Int) = (i : Int) by omega)]
            by_cases e2 : i = pa
            · rw [if_pos e2, if_pos (by omega), e2, hFA]; omega
            · rw [if_neg e2, if_neg (by omega)]; omega
      have HB2 : Hid (Below w.heap.size w (V1.setCell ⟨w.heap.size, pb, none⟩ (.int .i64 (FB + 1)))) := by
        show Below _ _ _
        rw [← hV1]; exact (HBV.out.setCell (p := ⟨w.heap.size, pa, none⟩) (Nat.le_refl _) _).setCell (p := ⟨w.heap.size, pb, none⟩) (Nat.le_refl _) _
      have hwa : IntKind.i64.wrap (FA + 1) = FA + 1 := IntWalk.i64_in _ ⟨by omega, by omega⟩
      have hwb : wrap64 (FA + 1) = FA + 1 := IntWalk.wrap64_in _ ⟨by omega, by omega⟩
      have hwc : IntKind.i64.wrap (FB + 1) = FB + 1 := IntWalk.i64_in _ ⟨by omega, by omega⟩
      have hwd : wrap64 (FB + 1) = FB + 1 := IntWalk.wrap64_in _ ⟨by omega, by omega⟩
      clear hrow hb hx hdb hFA hFB hda hdb' hvb hrowV hrow1 HROW HB
      go_wp2_with fail
      clear hwa hwb hwc hwd
      go_roundw
      case rel => exact ⟨k + 1, by omega, by go_num, HR2.out, HB2.out⟩
      case measure => (simp [intOf]) <;> omega
    · obtain rfl : k = L.length := by omega
      rw [List.take_length] at hrow
      have HRW := Lib.hid hrow
      have hnl : ¬ (L.length : Int) < (L.length : Int) := by omega
      clear hrow hb
      go_wp2_with fail
      go_ret
      exact ⟨rfl, HRW.out, HB.out⟩
/-! ### the pair of a leaf -/
set_option maxHeartbeats 1000000 in
theorem hasLeaf_any (lb : Nat) (leaf pa pb : Int) (w : World) (hc : w.cell? ⟨lb, 0, none⟩ = some (.int .i64 leaf)) (hlb : lb < w.heap.size) :
    Calls Tryd.prog 45 #[.agg #[.int .i64 pa, .int .i64 pb], .pointer (some ⟨lb, 0, none⟩)] w fun e w' => e = .returned (.bool (hasL leaf (pa, pb))) ∧ Below w.heap.size w w' := by
  have hvb : (w.alloc (.cells #[.int .i64 pa, .int .i64 pb] 28)).heap[w.heap.size]? = some (.cells #[.int .i64 pa, .int .i64 pb] 28 (0, 0)) := heap_alloc_new _ _
  have HBV : Hid (Below w.heap.size w (w.alloc (.cells #[.int .i64 pa, .int .i64 pb] 28))) := (Below.refl _ _).alloc (Nat.le_refl _) _
  have p2 : (w.alloc (.cells #[.int .i64 pa, .int .i64 pb] 28)).cell? ⟨lb, 0, none⟩ = some (.int .i64 leaf) := (World.cell?_alloc_lt _ _ _ hlb).trans hc
  obtain ⟨V, hV⟩ : ∃ V, w.alloc (.cells #[.int .i64 pa, .int .i64 pb] 28) = V := ⟨_, rfl⟩
  rw [hV] at hvb HBV p2
  have p0 : V.cell? ⟨w.heap.size, 0, none⟩ = some (.int .i64 pa) := cell_of_row _ _ 0 _ _ (0, 0) hvb
  have p1 : V.cell? ⟨w.heap.size, 1, none⟩ = some (.int .i64 pb) := cell_of_row _ _ 1 _ _ (0, 0) hvb
  unfold hasL
  simp only
  cases h1 : pa == leaf
  · rw [Bool.false_or]
    obtain ⟨r, hr⟩ : ∃ r, (pb == leaf) = r := ⟨_, rfl⟩
    have HR := Lib.hid hr
    rw [hr]
    clear hvb hc hr
    go_enter Tryd.func45, Tryd.ntmps45
    go_wp2_with fail
    go_ret
    exact ⟨ret_bool HR.out, HBV.out⟩
  · rw [Bool.true_or]
    clear hvb hc
    go_enter Tryd.func45, Tryd.ntmps45
    go_wp2_with fail
    go_ret
    exact ⟨rfl, HBV.out⟩
set_option maxRecDepth 100000 in
set_option maxHeartbeats 2000000 in
theorem indexLeaf_any (lb b o cp at_ : Nat) (leaf : Int) (L : List (Int × Int)) (p : Int × Int) (w : World) (hr : RC w w.heap.size (some ⟨b, o, none⟩) L) (hbw : b < w.heap.size) (hl5 : L.length ≤ 5) (hc : w.cell? ⟨lb, 0, none⟩ = some (.int .i64 leaf)) (hlb : lb < w.heap.size)
    (hp : L[at_]? = some p) (hh : hasL leaf p = true) (hno : ∀ (j : Nat) (q : Int × Int), j < at_ → L[j]? = some q → hasL leaf q = false) :
    Calls Tryd.prog 44 #[.slice (some ⟨b, o, none⟩) L.length cp, .func (.func 45) #[] #[.pointer (some ⟨lb, 0, none⟩)]] w fun e w' => e = .returned (.int .i64 at_) ∧ Below w.heap.size w w' := by
  have HRC := Lib.hid hr
  have HC := Lib.hid hc
  have HP := Lib.hid hp
  have HH := Lib.hid hh
  have HNO := Lib.hid hno
  have hal := (List.getElem?_eq_some_iff.1 hp).1
  have eg : ∀ args w, (callFunc 45 args).run Tryd.prog w = .ok (.enter 45 args) w := enters_of Tryd.func45 (by kernel_rfl) rfl
  clear hr hc hp hh hno
  go_enter Tryd.func44, Tryd.ntmps44
  go_wp2_with fail
  go_loopw [8] (fun i wr => ∃ k : Nat, k ≤ at_ ∧ i = .int .i64 k ∧ Below w.heap.size w wr) (fun i _ => at_ - (intOf i).toNat)
  case atStart => exact ⟨0, Nat.zero_le _, rfl, Below.refl _ _⟩
  case round =>
    obtain ⟨k, hk, rfl, hb⟩ := hrel
    have HB := Lib.hid hb
    have hk0 : (0 : Int) ≤ (k : Int) := by omega
    have hk1 : (k : Int) < (L.length : Int) := by omega
    obtain ⟨⟨pa, pb⟩, hx⟩ : ∃ x, L[k]? = some x := ⟨_, List.getElem?_eq_getElem (by omega)⟩
    obtain ⟨b', o', e9, -, c0, c1⟩ := (HRC.out.below hb) k _ hx
    injection e9 with e9; injection e9 with e91 e92; subst e91; subst e92
    simp only at c0 c1
    have hcal := hasLeaf_any lb leaf pa pb wr ((hb.cell (p := ⟨lb, 0, none⟩) hlb).trans HC.out) (Nat.lt_of_lt_of_le hlb hb.size)
    by_cases hka : k < at_
    · rw [HNO.out k _ hka hx] at hcal
      have HCAL := Lib.hid hcal
      clear hcal hx hb
      go_wp2_with (go_at_fn 45; refine HCAL.out.mono ?_; rintro e2 w2 ⟨rfl, hb2⟩)
      have HB2 := Lib.hid (bstep (B := w.heap.size) (W := w) HB.out HB.out.size hb2)
      clear hb2
      (try go_wp2_with fail)
      go_roundw
      case rel => exact ⟨k + 1, by omega, by go_num, HB2.out⟩
      case measure => (simp [intOf]) <;> omega
    · obtain rfl : k = at_ := by omega
      rw [HP.out] at hx
      injection hx with hx
      rw [← hx, HH.out] at hcal
      have HCAL := Lib.hid hcal
      clear hcal hx hb
      go_wp2_with (go_at_fn 45; refine HCAL.out.mono ?_; rintro e2 w2 ⟨rfl, hb2⟩)
      have HB2 := Lib.hid (bstep (B := w.heap.size) (W := w) HB.out HB.out.size hb2)
      clear hb2
      (try go_wp2_with fail)
      go_ret
      exact ⟨rfl, HB2.out⟩
/-! ### a pair is taken out -/
theorem heap_setCells (b : Nat) {e : TypeId} {fr : Nat × Nat} : ∀ (vs : List Value) (o : Nat) (w : World) (cur : Array Value), w.heap[b]? = some (.cells cur e fr) → o + vs.length ≤ cur.size →
    ∃ cur', (w.setCells b o vs).heap[b]? = some (.cells cur' e fr) ∧ cur'.toList = cur.toList.take o ++ vs ++ cur.toList.drop (o + vs.length)
  | [], o, w, cur, h, _ => ⟨cur, h, by simp⟩
  | v :: vs, o, w, cur, h, hl => by
    simp only [List.length_cons] at hl
    have h1 : (w.setCell ⟨b, o, none⟩ v).heap[b]? = some (.cells (cur.setIfInBounds o v) e fr) := by simp [World.setCell, Array.getElem?_modify, h]
    obtain ⟨cur', h2, h3⟩ := heap_setCells b vs (o + 1) _ _ h1 (by simp; omega)
    refine ⟨cur', h2, ?_⟩
    have hln : o < cur.toList.length := by rw [Array.length_toList]; omega
    rw [h3, Array.toList_setIfInBounds, List.length_cons]
    have e1 : (cur.toList.set o v).take (o + 1) = cur.toList.take o ++ [v] := by
      rw [List.take_add_one, List.take_set_of_le (by omega), List.getElem?_set_self hln]; rfl
    have e2 : (cur.toList.set o v).drop (o + 1 + vs.length) = cur.toList.drop (o + (vs.length + 1)) := by
      rw [List.drop_set_of_lt (by omega)]
      congr 1; omega
    rw [e1, e2]
    simp
theorem setCells_size (b : Nat) : ∀ (vs : List Value) (o : Nat) (w : World), (w.setCells b o vs).heap.size = w.heap.size
  | [], _, _ => rfl
  | v :: vs, o, w => by rw [World.setCells, setCells_size b vs]; simp [World.setCell]
theorem setCells_other (b : Nat) {k : Nat} (hk : b ≠ k) : ∀ (vs : List Value) (o : Nat) (w : World), (w.setCells b o vs).heap[k]? = w.heap[k]?
  | [], _, _ => rfl
  | v :: vs, o, w => by rw [World.setCells, setCells_other b hk vs, heap_set_other _ _ _ _ hk]
theorem ct_erase : ∀ (L : List (Int × Int)) (k : Nat), k < L.length → ctCells (L.eraseIdx k) = (ctCells L).take (k * 2) ++ (ctCells L).drop ((k + 1) * 2)
  | [], k, h => by simp at h
  | x :: L, 0, _ => by simp [ctCells]
  | x :: L, k + 1, h => by
    simp only [List.length_cons] at h
    simp only [List.eraseIdx_cons_succ, ctCells]
    rw [ct_erase L k (by omega), show (k + 1) * 2 = k * 2 + 1 + 1 from by omega, show (k + 1 + 1) * 2 = (k + 1) * 2 + 1 + 1 from by omega]
    simp only [List.take_succ_cons, List.drop_succ_cons, List.cons_append]
    rw [show k * 2 + 1 + 1 = (k + 1) * 2 by omega]
theorem clear_pair (W : World) (b o c ty : Nat) (hc : ∀ j, j < 2 → (W.cell? ⟨b, o + j, none⟩).isSome = true) (hf : ∀ j, j < 2 → W.frozen? ⟨b, o + j, none⟩ = false) :
    (Builtin.clear_ #[23] ty #[.slice (some ⟨b, o, none⟩) 1 c]).run Tryd.prog W = .ok (.tuple #[]) (W.setCells b o [.int .i64 0, .int .i64 0]) := by
  have hst := run_storeCells_cells (P := Tryd.prog) b o [.int .i64 0, .int .i64 0] 0 W (by simpa using hc) (by simpa using hf) (by intro v hv; simp at hv; subst hv; rfl)
  simp only [Nat.add_zero] at hst
  have hzc : (Builtin.zeroCells (Value.agg #[.int .i64 0, .int .i64 0]).cells 1).toList = [.int .i64 0, .int .i64 0] := by kernel_rfl
  simp [Builtin.clear_, run_underlying Tryd.underlying23, Tryd.zeroValue28, hzc, hst]
set_option maxRecDepth 100000 in
set_option maxHeartbeats 4000000 in
theorem delPair_any (B b cp k : Nat) (L : List (Int × Int)) (w : World) (ho : w.ownsRow B 28 2 (.slice (some ⟨b, 0, none⟩) L.length cp) L.length (ctCells L)) (hk : k < L.length) (hl5 : L.length ≤ 5) :
    Calls Tryd.prog 46 #[.slice (some ⟨b, 0, none⟩) L.length cp, .int .i64 k, .int .i64 ((k : Int) + 1)] w fun e w' => e = .returned (.slice (some ⟨b, 0, none⟩) (L.eraseIdx k).length cp) ∧ w'.ownsRow B 28 2 (.slice (some ⟨b, 0, none⟩) (L.eraseIdx k).length cp) (L.eraseIdx k).length (ctCells (L.eraseIdx k)) ∧ Below b w w' ∧ (∀ j, b ≠ j → w'.heap[j]? = w.heap[j]?) := by
  obtain ⟨i0, hi0, hz0, hz1', hz2⟩ := info_parts infoPr
  have hle : (L.eraseIdx k).length = L.length - 1 := List.length_eraseIdx_of_lt hk
  obtain ⟨l, hll⟩ : ∃ l, L.length = l + 1 := ⟨L.length - 1, by omega⟩
  have hlel : (L.eraseIdx k).length = l := by omega
  obtain ⟨cur, hcur, hcp, hcm, hcs, hct⟩ : ∃ cur, w.heap[b]? = some (.cells cur 28 (0, 0)) ∧ L.length ≤ cp ∧ cp ≤ maxLen ∧ cur.size = cp * 2 ∧ cur.toList.take (L.length * 2) = ctCells L := by
    rcases ho.2 with ⟨hv, h0⟩ | ⟨g, c, cur, hv, h1, h2, h3, h4, h5, h6⟩
    · cases hv
    · injection hv with e1 e2 e3
      injection e1 with e1; injection e1 with e1
      subst e1; subst e3
      exact ⟨cur, h2, h3, h4, h5, h6⟩
  have hBb : B ≤ b := (ho.lt b rfl).1
  obtain ⟨news, hnews⟩ : ∃ news, news = ctCells (L.drop (k + 1)) := ⟨_, rfl⟩
  have hnl : news.length = (L.length - (k + 1)) * 2 := by rw [hnews, ctCells_len, List.length_drop]
  have hcell : ∀ j, j < cp * 2 → (w.cell? ⟨b, j, none⟩).isSome = true ∧ w.frozen? ⟨b, j, none⟩ = false := fun j hj => by
    rw [cell_of_row _ _ j _ _ (0, 0) hcur]
    refine ⟨by rw [Array.getElem?_eq_getElem (by omega)]; rfl, by simp [World.frozen?, hcur]⟩
  obtain ⟨AS, hAS, hsrc⟩ : ∃ A : Addr, (if cp = k + 1 then some (⟨b, 0, none⟩ : Addr) else some ⟨b, (k + 1) * 2, none⟩) = some A ∧ Hid (∀ t u, news[t]? = some u → w.drew.cell? (A.add t) = some u) := by
    by_cases h : cp = k + 1
    · refine ⟨⟨b, 0, none⟩, by simp [h], fun t u hu => ?_⟩
      have h0 : news.length = 0 := by rw [hnl]; omega
      rw [List.length_eq_zero_iff.1 h0] at hu
      simp at hu
    · refine ⟨⟨b, (k + 1) * 2, none⟩, by simp [h], fun t u hu => ?_⟩
      rw [Addr.add_lit]
      show w.cell? _ = _
      rw [cell_of_row _ _ _ _ _ (0, 0) hcur, ← hu, hnews, ctCells_drop, List.getElem?_drop, ← hct, List.getElem?_take, if_pos ?_, ← Array.getElem?_toList]
      have h9 := (List.getElem?_eq_some_iff.1 hu).1
      rw [hnl] at h9
      omega
  have s1 : Hid (news.length = (L.length - (k + 1)) * 2) := hnl
  have s2 : Hid (∀ u ∈ news, u.oneCell' = true) := by intro u hu; rw [hnews] at hu; exact ctCells_one _ u hu
  have s3 : Hid (∀ j, j < news.length → (w.drew.cell? ⟨b, 0 + k * 2 + j, none⟩).isSome = true ∧ w.drew.frozen? ⟨b, 0 + k * 2 + j, none⟩ = false) := fun j hj => by
    rw [hnl] at hj
    exact hcell (0 + k * 2 + j) (by omega)
  obtain ⟨W1, hW1⟩ : ∃ W1, w.drew.setCells b (0 + k * 2) news = W1 := ⟨_, rfl⟩
  obtain ⟨cur1, h11, h12⟩ : ∃ cur', W1.heap[b]? = some (.cells cur' 28 (0, 0)) ∧ cur'.toList = cur.toList.take (k * 2) ++ news ++ cur.toList.drop (k * 2 + news.length) := by
    rw [← hW1, Nat.zero_add]
    exact heap_setCells b news (k * 2) w.drew cur hcur (by rw [hnl]; omega)
  have hs1 : cur1.size = cp * 2 := by
    have h9 := congrArg List.length h12
    simp only [Array.length_toList, List.length_append, List.length_take, List.length_drop] at h9
    rw [hnl] at h9
    omega
  have hcell1 : ∀ j, j < cp * 2 → (W1.cell? ⟨b, j, none⟩).isSome = true ∧ W1.frozen? ⟨b, j, none⟩ = false := fun j hj => by
    rw [cell_of_row _ _ j _ _ (0, 0) h11]
    refine ⟨by rw [Array.getElem?_eq_getElem (by omega)]; rfl, by simp [World.frozen?, h11]⟩
  have hcl : ∀ ty, (Builtin.clear_ #[23] ty #[.slice (some ⟨b, l * 2, none⟩) 1 (cp - l)]).run Tryd.prog W1 = .ok (.tuple #[]) (W1.setCells b (l * 2) [.int .i64 0, .int .i64 0]) := fun ty => clear_pair W1 b (l * 2) (cp - l) ty (fun j hj => (hcell1 _ (by omega)).1) (fun j hj => (hcell1 _ (by omega)).2)
  obtain ⟨cur2, h21, h22⟩ := heap_setCells b [.int .i64 0, .int .i64 0] (l * 2) W1 cur1 h11 (by simp; omega)
  obtain ⟨W2, hW2⟩ : ∃ W2, W1.setCells b (l * 2) [.int .i64 0, .int .i64 0] = W2 := ⟨_, rfl⟩
  rw [hW2] at h21
  have HO2 : Hid (W2.ownsRow B 28 2 (.slice (some ⟨b, 0, none⟩) (L.eraseIdx k).length cp) (L.eraseIdx k).length (ctCells (L.eraseIdx k))) := by
    refine ⟨ctCells_len _, .inr ⟨b, cp, cur2, rfl, hBb, h21, by omega, hcm, ?_, ?_⟩⟩
    · have h9 := congrArg List.length h22
      simp only [Array.length_toList, List.length_append, List.length_take, List.length_drop, List.length_cons, List.length_nil] at h9
      omega
    · have e2 : (cur.toList.take (k * 2)).length = k * 2 := by rw [List.length_take, Array.length_toList]; omega
      have e3 : (cur.toList.take (k * 2) ++ news).length = l * 2 := by rw [List.length_append, e2, hnl]; omega
      have e4 : cur2.toList.take (l * 2) = cur1.toList.take (l * 2) := by
        rw [h22, List.append_assoc, List.take_append_of_le_length (by rw [List.length_take, Array.length_toList]; omega), List.take_take, Nat.min_self]
      have e5 : cur1.toList.take (l * 2) = cur.toList.take (k * 2) ++ news := by
        rw [h12, List.take_append_of_le_length (by omega), List.take_of_length_le (by omega)]
      have e1 : (ctCells L).take (k * 2) = cur.toList.take (k * 2) := by rw [← hct, List.take_take, Nat.min_eq_left (by omega)]
      rw [hlel, e4, e5, ct_erase L k hk, ← ctCells_drop, ← hnews, e1]
  have HBW : Hid (Below b w W2 ∧ ∀ j, b ≠ j → W2.heap[j]? = w.heap[j]?) := by
    show _ ∧ _
    rw [← hW2, ← hW1]
    refine ⟨below_cells (Nat.le_refl _) _ _ (below_cells (Nat.le_refl _) _ _ (Below.refl _ _).drew), fun j hj => ?_⟩
    rw [setCells_other b hj, setCells_other b hj]; rfl
  have HW1 := Lib.hid hW1
  have hk1 : (k : Int) + 1 ≤ (L.length : Int) := by omega
  have hk0 : (0 : Int) ≤ (k : Int) := by omega
  have hlc : (L.length : Int) ≤ (cp : Int) := by omega
  have hcm' : (cp : Int) ≤ 9223372036854775807 := by unfold maxLen at hcm; omega
  have hcne : ¬ cp = l := by omega
  have hLl : L.length - l = 1 := by omega
  have hkk : ((k : Int) == (k : Int) + 1) = false := by rw [beq_eq_false_iff_ne]; omega
  have hkl : k ≤ cp := by omega
  have hkl1 : k + 1 ≤ cp := by omega
  have hsum : k + (L.length - (k + 1)) = l := by omega
  have hk2 : (0 : Int) ≤ (k : Int) + 1 := by omega
  have hk3 : k + 1 ≤ L.length := hk
  have HLL := Lib.hid hll
  have HLEL := Lib.hid hlel
  have HSUM := Lib.hid hsum
  clear ho hcur hct hcs hcell h11 h12 h21 h22 hcell1 hnews hnl hle hlel hW1 hll hsum
  go_enter Tryd.func46, Tryd.ntmps46
  go_wp2_with fail
  refine wp_region_held_drew (S := (fun _ => True)) (by kernel_rfl) ?_ (fun hHeld => ?_)
  · exact trivial
  refine wpAnyH_take (i := 0) (v := ?_) rfl (by kernel_rfl) (by kernel_rfl) (by kernel_rfl) (fun _ _ _ h => h) (Or.inl ⟨by rfl, ?_⟩) (by assumption) ?_
  rotate_left
  · (intro w hSw; (try dsimp only at hSw); (try simp only [List.getElem_toArray, List.getElem_cons_succ, List.getElem_cons_zero]); first | (go_simp; done) | (go_simp; with_reducible rfl))
  try simp only [Act.put, List.getElem_toArray, List.getElem_cons_succ, List.getElem_cons_zero, List.setIfInBounds_toArray, List.set_cons_zero, List.set_cons_succ]
  refine wpAnyH_take (i := 1) (v := ?_) rfl (by kernel_rfl) (by kernel_rfl) (by kernel_rfl) (fun _ _ _ h => h) (Or.inl ⟨by rfl, ?_⟩) (by assumption) ?_
  rotate_left
  · (intro w hSw; (try dsimp only at hSw); (try simp only [List.getElem_toArray, List.getElem_cons_succ, List.getElem_cons_zero]); first | (go_simp; done) | (go_simp; with_reducible rfl))
  try simp only [Act.put, List.getElem_toArray, List.getElem_cons_succ, List.getElem_cons_zero, List.setIfInBounds_toArray, List.set_cons_zero, List.set_cons_succ]
  refine wpAnyH_take (i := 2) (v := ?_) rfl (by kernel_rfl) (by kernel_rfl) (by kernel_rfl) (fun _ _ _ h => h) (Or.inl ⟨by rfl, ?_⟩) (by assumption) ?_
  rotate_left
  · (intro w hSw; (try dsimp only at hSw); (try simp only [List.getElem_toArray, List.getElem_cons_succ, List.getElem_cons_zero]); first | (go_simp; done) | (go_simp; with_reducible rfl))
  try simp only [Act.put, List.getElem_toArray, List.getElem_cons_succ, List.getElem_cons_zero, List.setIfInBounds_toArray, List.set_cons_zero, List.set_cons_succ]
  refine wpAnyH_take (i := 3) (v := ?_) rfl (by kernel_rfl) (by kernel_rfl) (by kernel_rfl) (fun _ _ _ h => h) (Or.inl ⟨by rfl, ?_⟩) (by assumption) ?_
  rotate_left
  · (intro w hSw; (try dsimp only at hSw); (try simp only [List.getElem_toArray, List.getElem_cons_succ, List.getElem_cons_zero]); first | (go_simp; done) | (go_simp; with_reducible rfl))
  try simp only [Act.put, List.getElem_toArray, List.getElem_cons_succ, List.getElem_cons_zero, List.setIfInBounds_toArray, List.set_cons_zero, List.set_cons_succ]
  refine wpAnyH_take (i := 4) (v := ?_) rfl (by kernel_rfl) (by kernel_rfl) (by kernel_rfl) (fun _ _ _ h => h) (Or.inl ⟨by rfl, ?_⟩) (by assumption) ?_
  rotate_left
  · (intro w hSw; (try dsimp only at hSw); (try simp only [List.getElem_toArray, List.getElem_cons_succ, List.getElem_cons_zero]); first | (go_simp; done) | (go_simp; with_reducible rfl))
  try simp only [Act.put, List.getElem_toArray, List.getElem_cons_succ, List.getElem_cons_zero, List.setIfInBounds_toArray, List.set_cons_zero, List.set_cons_succ]
  refine wpAnyH_take (i := 5) (v := ?_) rfl (by kernel_rfl) (by kernel_rfl) (by kernel_rfl) (fun _ _ _ h => h) (Or.inl ⟨by rfl, ?_⟩) (by assumption) ?_
  rotate_left
  · (intro w hSw; (try dsimp only at hSw); (try simp only [List.getElem_toArray, List.getElem_cons_succ, List.getElem_cons_zero]); first | (go_simp; done) | (go_simp; with_reducible rfl))
  try simp only [Act.put, List.getElem_toArray, List.getElem_cons_succ, List.getElem_cons_zero, List.setIfInBounds_toArray, List.set_cons_zero, List.set_cons_succ]
  refine wpAnyH_ready (rs := [6]) (by kernel_rfl) (by simp) ?_
  refine AllReadyH.cons rfl (fun K hK => ?_) AllReadyH.nil
  refine step_append_room rfl (.tmp 22) (.tmp 25) 23 rfl 28 i0 2 Tryd.underlying23 hi0 hz1' b 0 k cp (by simp [Act.eval, Act.put]) AS (L.length - (k + 1)) (cp - (k + 1)) news (by simp [Act.eval, Act.put]) s1.out hsrc.out s2.out (by omega) s3.out ?_; rw [HW1.out]
  refine hK.out _ _ ?_ (fun hHeld => ?_)
  · exact trivial
  clear hK K
  try simp only [Act.put, List.getElem_toArray, List.getElem_cons_succ, List.getElem_cons_zero, List.setIfInBounds_toArray, List.set_cons_zero, List.set_cons_succ]
  refine wpAnyH_take (i := 7) (v := ?_) rfl (by kernel_rfl) (by kernel_rfl) (by kernel_rfl) (fun _ _ _ h => h) (Or.inl ⟨by rfl, ?_⟩) (by assumption) ?_
  rotate_left
  · (intro w hSw; (try dsimp only at hSw); (try simp only [List.getElem_toArray, List.getElem_cons_succ, List.getElem_cons_zero]); first | (go_simp; done) | (go_simp; with_reducible rfl))
  try simp only [Act.put, List.getElem_toArray, List.getElem_cons_succ, List.getElem_cons_zero, List.setIfInBounds_toArray, List.set_cons_zero, List.set_cons_succ]
  refine wpAnyH_done (by kernel_rfl) ?_ _
  (try rw [HSUM.out])
  go_wp2_with fail
  go_ret
  exact ⟨by rw [HLEL.out]; rfl, HO2.out, HBW.out.1, HBW.out.2⟩
/-! ### CodeOf -/
def slLen : Value → Nat
  | .slice _ n _ => n
  | _ => 0
theorem mkIntsC (W : World) (p : Nat) (hp : p ≤ 4) : (Instr.makeSlice 30 (.int .i64 0) (.int .i64 (p : Int))).run Tryd.prog W = .ok (.slice (some ⟨W.heap.size, 0, none⟩) 0 p) (W.alloc (.cells (Array.replicate p (.int .i64 0)) 3)) := by
  rcases (by omega : p = 0 ∨ p = 1 ∨ p = 2 ∨ p = 3 ∨ p = 4) with rfl | rfl | rfl | rfl | rfl <;> kernel_rfl
theorem own_eqG {w w' : World} {B n s : Nat} {e : TypeId} {g cg : Nat} {xs : List Value} (h : w.ownsRow B e s (.slice (some ⟨g, 0, none⟩) n cg) n xs) (hb : w'.heap[g]? = w.heap[g]?) : w'.ownsRow B e s (.slice (some ⟨g, 0, none⟩) n cg) n xs := by
  refine ⟨h.1, ?_⟩
  rcases h.2 with ⟨h1, h2⟩ | ⟨g', c', cur, hv, h1, h2, h3⟩
  · exact .inl ⟨h1, h2⟩
  · injection hv with e1 e2 e3
    injection e1 with e1; injection e1 with e1
    subst e1; subst e3
    exact .inr ⟨g, cg, cur, rfl, h1, hb.trans h2, h3⟩
set_option maxRecDepth 100000 in
set_option maxHeartbeats 8000000 in
theorem CodeOf_any (n : Int) (Ap : Option Addr) (cp : Nat) (L : List (Int × Int)) (w : World) (hT : Tab w) (hp : RC w w.heap.size Ap L) (hpm : L.length ≤ 1073741824) :
    Calls Tryd.prog 13 #[.int .i64 n, .slice Ap L.length cp] w (NewCode (codeOf n L) w) := by
  have HP := Lib.hid hp
  have HT := Lib.hid hT
  clear hp hT
  cases hok : linksOk n L
  · have HOK := Lib.hid hok
    rw [codeOf_none hok]
    unfold NewCode
    clear hok
    go_enter Tryd.func13, Tryd.ntmps13
    go_wp2_with fail
    refine (LinksOk_any n Ap cp L _ HT.out HP.out hpm).mono ?_; rintro e1 w1 ⟨rfl, hb1⟩; rw [HOK.out]
    have HB1 := Lib.hid hb1
    clear hb1
    go_wp2_with fail
    refine bodyPost_ret (v := .tuple #[.slice none 0 0, .bool false]) (by simp [results, Tryd.results13, go_sem]) rfl ?_
    exact ⟨none, 0, rfl, HB1.out⟩
  · obtain ⟨m, rfl, h2, h6, hsh, -⟩ := linksOk_t hok
    obtain ⟨c, hco, hgo, -⟩ := code_of_tree hok
    have HOK := Lib.hid hok
    have HGO := Lib.hid hgo
    have hll := (shape_at hsh).1
    have hl5 : L.length ≤ 5 := by omega
    have hl1 : 0 < L.length := by omega
    have HIL : Hid (∀ p, p ∈ L → InP m p) := fun p hp => shape_in hsh hp
    obtain ⟨p, hmp⟩ : ∃ p, m = p + 2 := ⟨m - 2, by omega⟩
    have hp4 : p ≤ 4 := by omega
    have hwp : IntKind.i64.wrap ((m : Int) - 2) = (p : Int) := by rw [IntKind.wrap_i64]; omega
    have hwq : wrap64 ((m : Int) - 2) = (p : Int) := (IntWalk.wrap64_in _ ⟨by omega, by omega⟩).trans (by omega)
    rw [hco]
    clear hok hsh hco hgo hll hmp
    obtain ⟨⟨za, zb⟩, hz9⟩ : ∃ x, L[0]? = some x := ⟨_, List.getElem?_eq_getElem hl1⟩
    obtain ⟨bq, oq, rfl, hBq, -, -⟩ := HP.out 0 _ hz9
    clear hz9
    obtain ⟨i1, hi1, hy0, hy1, hy2⟩ := info_parts infoInt
    have hmk := fun W => mkIntsC W p hp4
    go_enter Tryd.func13, Tryd.ntmps13
    go_wp2_with fail
    refine (LinksOk_any (m : Int) (some ⟨bq, oq, none⟩) cp L _ HT.out HP.out hpm).mono ?_; rintro e1 w1 ⟨rfl, hb1⟩; rw [HOK.out]
    have HB1 := Lib.hid hb1
    have HON2 : Hid ((w1.alloc (.cells (Array.replicate p (.int .i64 0)) 3)).ownsRow w.heap.size 3 1 (.slice (some ⟨w1.heap.size, 0, none⟩) 0 p) 0 (rlCells [])) :=
      ⟨rfl, .inr ⟨w1.heap.size, p, _, rfl, hb1.size, heap_alloc_new _ _, Nat.zero_le _, by unfold maxLen; omega, by simp, rfl⟩⟩
    have HB2 : Hid (Below w.heap.size w (w1.alloc (.cells (Array.replicate p (.int .i64 0)) 3))) := hb1.alloc hb1.size _
    have hmk1 := hmk w1
    obtain ⟨w2, hw2⟩ : ∃ w2, w1.alloc (.cells (Array.replicate p (.int .i64 0)) 3) = w2 := ⟨_, rfl⟩
    have hs2 : w2.heap.size = w1.heap.size + 1 := by rw [← hw2]; simp
    rw [hw2] at HON2 HB2 hmk1
    clear hmk hb1 hw2
    go_wp2_with fail
    clear hmk1
    refine (clonePairs_any bq oq cp L w2 (HP.out.later HB2.out) (by omega)).mono ?_; rintro e4 w4 ⟨A4, c4, rfl, ho4, hb4⟩
    obtain ⟨g4, rfl, hg4a, hg4b⟩ := own_some ho4 hl1
    have hs4 := hb4.size
    have hbw2 : w.heap.size ≤ w2.heap.size := HB2.out.size
    have HOL4 : Hid (w4.ownsRow w.heap.size 28 2 (.slice (some ⟨g4, 0, none⟩) L.length c4) L.length (ctCells L)) := own_base ho4 hbw2
    have HOO4 : Hid (w4.ownsRow w.heap.size 3 1 (.slice (some ⟨w1.heap.size, 0, none⟩) ([] : List Int).length p) ([] : List Int).length (rlCells [])) := own_eqG HON2.out (hb4.block _ (by omega))
    have HB4 : Hid (Below w.heap.size w w4) := bstep (B := w.heap.size) (W := w) HB2.out hbw2 hb4
    clear ho4 hb4 HON2 HB1 HB2
    (try go_wp2_with fail)
    go_loopw [6, 7] (fun v6 v7 wr => ∃ (left : List (Int × Int)) (out : List Int) (g0 co bl cl gf : Nat), codeGo m gf left out = some c ∧ v6 = .slice (some ⟨g0, 0, none⟩) out.length co ∧ v7 = .slice (some ⟨bl, 0, none⟩) left.length cl ∧ (∀ p, p ∈ left → InP m p) ∧ wr.ownsRow w.heap.size 28 2 (.slice (some ⟨bl, 0, none⟩) left.length cl) left.length (ctCells left) ∧ wr.ownsRow w.heap.size 3 1 (.slice (some ⟨g0, 0, none⟩) out.length co) out.length (rlCells out) ∧ g0 ≠ bl ∧ left.length ≤ 5 ∧ out.length + left.length ≤ 6 ∧ Below w.heap.size w wr) (fun _ v _ => slLen v)
    case atStart => exact ⟨L, [], w1.heap.size, p, g4, c4, 6, HGO.out, rfl, rfl, HIL.out, HOL4.out, HOO4.out, by omega, hl5, by simp; omega, HB4.out⟩
    case round =>
      clear HGO HIL HOL4 HOO4 HB4
      obtain ⟨left, out, g0, co, bl, cl, gf, hgo, rfl, rfl, hinp, hol, how, hgb, hl5', hsum, hb⟩ := hrel
      have HGO := Lib.hid hgo
      have HINP := Lib.hid hinp
      have HOL := Lib.hid hol
      have HOW := Lib.hid how
      have HB := Lib.hid hb
      have hblr : bl < wr.heap.size := (hol.lt bl rfl).2
      have hg0r : g0 < wr.heap.size := (how.lt g0 rfl).2
      have hblw : w.heap.size ≤ bl := (hol.lt bl rfl).1
      have hg0w : w.heap.size ≤ g0 := (how.lt g0 rfl).1
      clear hgo hinp hol how hb
      by_cases hl : left.length ≤ 1
      · have hli : ¬ (1 : Int) < (left.length : Int) := by omega
        have HE := Lib.hid (codeGo_stop HGO.out hl)
        clear hl
        go_wp2_with fail
        refine bodyPost_ret (v := .tuple #[.slice (some ⟨g0, 0, none⟩) out.length co, .bool true]) (by simp [results, Tryd.results13, go_sem]) rfl ?_
        rw [← HE.out]
        exact (show NewCode (some out) w _ _ from ⟨some ⟨g0, 0, none⟩, co, w.heap.size, wr.heap.size, rfl, rowF_of_own HOW.out (fun j hj => rlCells_at hj), Nat.le_refl _, HB.out⟩)
      · have hli : (1 : Int) < (left.length : Int) := by omega
        obtain ⟨g', hge, hlf, hnx⟩ := codeGo_go HGO.out hl
        obtain ⟨lf, hlfe⟩ : ∃ lf, leafOf m (degL left) = lf := ⟨_, rfl⟩
        rw [hlfe] at hlf hnx
        obtain ⟨-, hdeg⟩ := leafOf_at hlfe hlf
        obtain ⟨at_, ⟨pa, pb⟩, hat, hhas, hno, hnext, hout⟩ := degL_one (fun q hq => by have := HINP.out q hq; unfold InP at this; omega) hdeg
        simp only at hout
        rw [hnext, hout] at hnx
        have hatl := (List.getElem?_eq_some_iff.1 hat).1
        obtain ⟨x0, x1, x2⟩ := HINP.out _ (List.mem_of_getElem? hat)
        simp only at x0 x1 x2
        have HNX := Lib.hid hnx
        have HAT := Lib.hid hat
        have HHAS := Lib.hid hhas
        have HNO := Lib.hid hno
        have HLF := Lib.hid hlfe
        have hel : (left.eraseIdx at_).length = left.length - 1 := List.length_eraseIdx_of_lt hatl
        have HEL := Lib.hid hel
        have HLC := Lib.hid (linkCounts_any m h6 bl 0 cl left wr (rc_of_own HOL.out) hblr hl5' HINP.out)
        clear hge hnx hat hhas hno hnext hout hdeg hlfe hel
        go_wp2_with fail
        refine HLC.out.mono ?_; rintro e3 w3 ⟨rfl, hrow3, hb3⟩
        have HLEAF := Lib.hid (leastLeaf_any wr.heap.size m m lf (degL left) w3 hrow3 h6 HLF.out hlf)
        have HB3 := Lib.hid hb3
        have hs3 : wr.heap.size < w3.heap.size := hrow3.lt
        have HB5 : Hid (Below wr.heap.size wr (w3.alloc (.cells #[.int .i64 (lf : Int)] 3))) := hb3.alloc hb3.size _
        have hvb : (w3.alloc (.cells #[.int .i64 (lf : Int)] 3)).heap[w3.heap.size]? = some (.cells #[.int .i64 (lf : Int)] 3 (0, 0)) := heap_alloc_new _ _
        obtain ⟨w5, hw5⟩ : ∃ w5, w3.alloc (.cells #[.int .i64 (lf : Int)] 3) = w5 := ⟨_, rfl⟩
        have hs5 : w5.heap.size = w3.heap.size + 1 := by rw [← hw5]; simp
        rw [hw5] at HB5 hvb
        have p5 : w5.cell? ⟨w3.heap.size, 0, none⟩ = some (.int .i64 (lf : Int)) := cell_of_row _ _ 0 _ _ (0, 0) hvb
        obtain ⟨lb, hlb⟩ : ∃ lb, w3.heap.size = lb := ⟨_, rfl⟩
        have HIX := Lib.hid (indexLeaf_any lb bl 0 cl at_ (lf : Int) left (pa, pb) w5 ((rc_of_own HOL.out).later HB5.out) (by omega) hl5' (by rw [← hlb]; exact p5) (by omega) HAT.out HHAS.out HNO.out)
        have hlb5 : lb < w5.heap.size := by omega
        have hlbr : wr.heap.size < lb := by omega
        have P5 := Lib.hid p5
        rw [hlb] at P5
        have HS5 := Lib.hid hs5
        clear hrow3 hb3 hvb p5 hs5
        go_wp2_with fail
        refine HLEAF.out.mono ?_; rintro e4 w4' ⟨rfl, rfl⟩
        go_wp2_with fail
        refine HIX.out.mono ?_; rintro e6 w6 ⟨rfl, hb6⟩
        have HB6 : Hid (Below wr.heap.size wr w6) := HB5.out.trans (hb6.mono (by omega))
        have hs6 : w5.heap.size ≤ w6.heap.size := hb6.size
        have c2 : w6.cell? ⟨lb, 0, none⟩ = some (.int .i64 (lf : Int)) := (hb6.cell (p := ⟨lb, 0, none⟩) hlb5).trans P5.out
        obtain ⟨b', o', e9, -, c0, c1⟩ := ((rc_of_own HOL.out).below HB6.out) at_ _ HAT.out
        injection e9 with e9; injection e9 with e91 e92; subst e91; subst e92
        simp only [Nat.zero_add] at c0 c1
        have HOWD : Hid (w6.drew.ownsRow w.heap.size 3 1 (.slice (some ⟨g0, 0, none⟩) out.length co) out.length (rlCells out)) := own_eqG HOW.out (HB6.out.block g0 hg0r)
        have HL8 : Hid (bl < w6.drew.heap.size ∧ lb < w6.drew.heap.size) := ⟨by show bl < w6.heap.size; omega, by show lb < w6.heap.size; omega⟩
        have HNE7 : Hid (some bl ≠ (Value.slice (some ⟨g0, 0, none⟩) out.length co).ownBlock ∧ some lb ≠ (Value.slice (some ⟨g0, 0, none⟩) out.length co).ownBlock) := ⟨by simp [Value.ownBlock]; omega, by simp [Value.ownBlock]; omega⟩
        have hwa : IntKind.i64.wrap (pa + pb) = pa + pb := IntWalk.i64_in _ ⟨by omega, by omega⟩
        have hwb : wrap64 (pa + pb) = pa + pb := IntWalk.wrap64_in _ ⟨by omega, by omega⟩
        have hwc : IntKind.i64.wrap (pa + pb - (lf : Int)) = pa + pb - (lf : Int) := IntWalk.i64_in _ ⟨by omega, by omega⟩
        have hwd : wrap64 (pa + pb - (lf : Int)) = pa + pb - (lf : Int) := IntWalk.wrap64_in _ ⟨by omega, by omega⟩
        have ha0 : (0 : Int) ≤ (at_ : Int) := by omega
        have ha1 : (at_ : Int) < (left.length : Int) := by omega
        clear hb6 HB5
        go_wp2_with fail
        refine wp_region_held_drew (S := (fun w' => w'.cell? ⟨bl, at_ * 2, none⟩ = some (.int .i64 pa) ∧ w'.cell? ⟨bl, at_ * 2 + 1, none⟩ = some (.int .i64 pb) ∧ w'.cell? ⟨lb, 0, none⟩ = some (.int .i64 (lf : Int)))) (by kernel_rfl) ?_ (fun hHeld => ?_)
        · exact ⟨c0, c1, c2⟩
        refine wpAnyH_take (i := 0) (v := ?_) rfl (by kernel_rfl) (by kernel_rfl) (by kernel_rfl) (fun _ _ _ h => h) (Or.inl ⟨by rfl, ?_⟩) (by assumption) ?_
        rotate_left
        · (intro w hSw; (try dsimp only at hSw); (try simp only [List.getElem_toArray, List.getElem_cons_succ, List.getElem_cons_zero]); first | (go_simp; done) | (go_simp; with_reducible rfl))
        try simp only [Act.put, List.getElem_toArray, List.getElem_cons_succ, List.getElem_cons_zero, List.setIfInBounds_toArray, List.set_cons_zero, List.set_cons_succ]
        refine wpAnyH_take (i := 1) (v := ?_) rfl (by kernel_rfl) (by kernel_rfl) (by kernel_rfl) (fun _ _ _ h => h) (Or.inl ⟨by rfl, ?_⟩) (by assumption) ?_
        rotate_left
        · (intro w hSw; (try dsimp only at hSw); (try simp only [List.getElem_toArray, List.getElem_cons_succ, List.getElem_cons_zero]); first | (go_simp; done) | (go_simp; with_reducible rfl))
        try simp only [Act.put, List.getElem_toArray, List.getElem_cons_succ, List.getElem_cons_zero, List.setIfInBounds_toArray, List.set_cons_zero, List.set_cons_succ]
        refine wpAnyH_take (i := 2) (v := ?_) rfl (by kernel_rfl) (by kernel_rfl) (by kernel_rfl) (fun _ _ _ h => h) (Or.inl ⟨by rfl, ?_⟩) (by assumption) ?_
        rotate_left
        · (intro w hSw; (try dsimp only at hSw); (try simp only [List.getElem_toArray, List.getElem_cons_succ, List.getElem_cons_zero]); first | (go_simp; done) | (go_simp; with_reducible rfl))
        try simp only [Act.put, List.getElem_toArray, List.getElem_cons_succ, List.getElem_cons_zero, List.setIfInBounds_toArray, List.set_cons_zero, List.set_cons_succ]
        refine wpAnyH_take (i := 3) (v := ?_) rfl (by kernel_rfl) (by kernel_rfl) (by kernel_rfl) (fun _ _ _ h => h) (Or.inl ⟨by rfl, ?_⟩) (by assumption) ?_
        rotate_left
        · (intro w hSw; (try dsimp only at hSw); (try simp only [List.getElem_toArray, List.getElem_cons_succ, List.getElem_cons_zero]); first | (go_simp; done) | (go_simp; with_reducible rfl))
        try simp only [Act.put, List.getElem_toArray, List.getElem_cons_succ, List.getElem_cons_zero, List.setIfInBounds_toArray, List.set_cons_zero, List.set_cons_succ]
        refine wpAnyH_take (i := 4) (v := ?_) rfl (by kernel_rfl) (by kernel_rfl) (by kernel_rfl) (fun _ _ _ h => h) (Or.inl ⟨by rfl, ?_⟩) (by assumption) ?_
        rotate_left
        · (intro w hSw; (try dsimp only at hSw); (try simp only [List.getElem_toArray, List.getElem_cons_succ, List.getElem_cons_zero]); first | (go_simp; done) | (go_simp; with_reducible rfl))
        try simp only [Act.put, List.getElem_toArray, List.getElem_cons_succ, List.getElem_cons_zero, List.setIfInBounds_toArray, List.set_cons_zero, List.set_cons_succ]
        refine wpAnyH_take (i := 5) (v := ?_) rfl (by kernel_rfl) (by kernel_rfl) (by kernel_rfl) (fun _ _ _ h => h) (Or.inl ⟨by rfl, ?_⟩) (by assumption) ?_
        rotate_left
        · (intro w hSw; (try dsimp only at hSw); (try simp only [List.getElem_toArray, List.getElem_cons_succ, List.getElem_cons_zero]); first | (go_simp; done) | (go_simp; with_reducible rfl))
        try simp only [Act.put, List.getElem_toArray, List.getElem_cons_succ, List.getElem_cons_zero, List.setIfInBounds_toArray, List.set_cons_zero, List.set_cons_succ]
        refine wpAnyH_take (i := 6) (v := ?_) rfl (by kernel_rfl) (by kernel_rfl) (by kernel_rfl) (fun _ _ _ h => h) (Or.inl ⟨by rfl, ?_⟩) (by assumption) ?_
        rotate_left
        · (intro w hSw; (try dsimp only at hSw); (try simp only [List.getElem_toArray, List.getElem_cons_succ, List.getElem_cons_zero]); first | (go_simp; done) | (go_simp; with_reducible rfl))
        try simp only [Act.put, List.getElem_toArray, List.getElem_cons_succ, List.getElem_cons_zero, List.setIfInBounds_toArray, List.set_cons_zero, List.set_cons_succ]
        refine wpAnyH_take (i := 7) (v := ?_) rfl (by kernel_rfl) (by kernel_rfl) (by kernel_rfl) (fun _ _ _ h => h) (Or.inl ⟨by rfl, ?_⟩) (by assumption) ?_
        rotate_left
        · (intro w hSw; (try dsimp only at hSw); (try simp only [List.getElem_toArray, List.getElem_cons_succ, List.getElem_cons_zero]); first | (go_simp; done) | (go_simp; with_reducible rfl))
        try simp only [Act.put, List.getElem_toArray, List.getElem_cons_succ, List.getElem_cons_zero, List.setIfInBounds_toArray, List.set_cons_zero, List.set_cons_succ]
        refine wpAnyH_take (i := 8) (v := ?_) rfl (by kernel_rfl) (by kernel_rfl) (by kernel_rfl) (fun _ _ _ h => h) (Or.inl ⟨by rfl, ?_⟩) (by assumption) ?_
        rotate_left
        · (intro w hSw; (try dsimp only at hSw); (try simp only [List.getElem_toArray, List.getElem_cons_succ, List.getElem_cons_zero]); first | (go_simp; done) | (go_simp; with_reducible rfl))
        try simp only [Act.put, List.getElem_toArray, List.getElem_cons_succ, List.getElem_cons_zero, List.setIfInBounds_toArray, List.set_cons_zero, List.set_cons_succ]
        refine wpAnyH_take (i := 9) (v := ?_) rfl (by kernel_rfl) (by kernel_rfl) (by kernel_rfl) (fun _ _ _ h => h) (Or.inl ⟨by rfl, ?_⟩) (by assumption) ?_
        rotate_left
        · (intro w hSw; (try dsimp only at hSw); (try simp only [List.getElem_toArray, List.getElem_cons_succ, List.getElem_cons_zero]); first | (go_simp; done) | (go_simp; with_reducible rfl))
        try simp only [Act.put, List.getElem_toArray, List.getElem_cons_succ, List.getElem_cons_zero, List.setIfInBounds_toArray, List.set_cons_zero, List.set_cons_succ]
        refine wpAnyH_take (i := 10) (v := ?_) rfl (by kernel_rfl) (by kernel_rfl) (by kernel_rfl) (fun _ _ _ h => h) (Or.inl ⟨by rfl, ?_⟩) (by assumption) ?_
        rotate_left
        · (intro w hSw; (try dsimp only at hSw); (try simp only [List.getElem_toArray, List.getElem_cons_succ, List.getElem_cons_zero]); first | (go_simp; done) | (go_simp; with_reducible rfl))
        try simp only [Act.put, List.getElem_toArray, List.getElem_cons_succ, List.getElem_cons_zero, List.setIfInBounds_toArray, List.set_cons_zero, List.set_cons_succ]
        refine wpAnyH_take (i := 11) (v := ?_) rfl (by kernel_rfl) (by kernel_rfl) (by kernel_rfl) (fun _ _ _ h => h) (Or.inl ⟨by rfl, ?_⟩) (by assumption) ?_
        rotate_left
        · (intro w hSw; (try dsimp only at hSw); (try simp only [List.getElem_toArray, List.getElem_cons_succ, List.getElem_cons_zero]); first | (go_simp; done) | (go_simp; with_reducible rfl))
        try simp only [Act.put, List.getElem_toArray, List.getElem_cons_succ, List.getElem_cons_zero, List.setIfInBounds_toArray, List.set_cons_zero, List.set_cons_succ]
        refine wpAnyH_take (i := 12) (v := ?_) rfl (by kernel_rfl) (by kernel_rfl) (by kernel_rfl) (fun _ _ _ h => h) (Or.inl ⟨by rfl, ?_⟩) (by assumption) ?_
        rotate_left
        · (intro w hSw; (try dsimp only at hSw); (try simp only [List.getElem_toArray, List.getElem_cons_succ, List.getElem_cons_zero]); first | (go_simp; done) | (go_simp; with_reducible rfl))
        try simp only [Act.put, List.getElem_toArray, List.getElem_cons_succ, List.getElem_cons_zero, List.setIfInBounds_toArray, List.set_cons_zero, List.set_cons_succ]
        refine wpAnyH_take (i := 13) (v := ?_) rfl (by kernel_rfl) (by kernel_rfl) (by kernel_rfl) (fun _ _ _ h => h) (Or.inl ⟨by rfl, ?_⟩) (by assumption) ?_
        rotate_left
        · (intro w hSw; (try dsimp only at hSw); (try simp only [List.getElem_toArray, List.getElem_cons_succ, List.getElem_cons_zero]); first | (go_simp; done) | (go_simp; with_reducible rfl))
        try simp only [Act.put, List.getElem_toArray, List.getElem_cons_succ, List.getElem_cons_zero, List.setIfInBounds_toArray, List.set_cons_zero, List.set_cons_succ]
        refine wpAnyH_ready (rs := [14]) (by kernel_rfl) (by simp) ?_
        refine AllReadyH.cons rfl (fun K hK => ?_) AllReadyH.nil
        try simp only [List.getElem_toArray, List.getElem_cons_succ, List.getElem_cons_zero]
        go_simp

        refine hK.out _ _ ?_ (fun hHeld => ?_)
        · exact ⟨(World.cell?_alloc_lt _ _ _ HL8.out.1).trans hHeld.1, (World.cell?_alloc_lt _ _ _ HL8.out.1).trans hHeld.2.1, (World.cell?_alloc_lt _ _ _ HL8.out.2).trans hHeld.2.2⟩
        clear hK K
        try simp only [Act.put, List.getElem_toArray, List.getElem_cons_succ, List.getElem_cons_zero, List.setIfInBounds_toArray, List.set_cons_zero, List.set_cons_succ]
        refine wpAnyH_ready (rs := [15]) (by kernel_rfl) (by simp) ?_
        refine AllReadyH.cons rfl (fun K hK => ?_) AllReadyH.nil
        refine step_append_lies _ (by rfl) _ _ _ (by rfl) w.heap.size 3 i1 _ 1 8 Tryd.underlying30 hi1 hy0 hy1 hy2 rfl (by omega) (.slice (some ⟨g0, 0, none⟩) out.length co) out.length (rlCells out) (by rfl) (World.ownsRow.alloc HOWD.out _) ⟨w6.heap.size, 0, none⟩ 1 1 [.int .i64 (pa + pb - (lf : Int))] (by rfl) (by rfl) (World.news_of_block (cs := #[.int .i64 (pa + pb - (lf : Int))]) (t := 3) (fr := (0, 0)) (heap_alloc_new _ _)) (by simp [Value.oneCell']) (by omega) (by unfold maxLen; omega) (by omega) (by have := HB6.out.size; simp; omega) (w6.heap.size + 1) (by simp) ?_; intro g7 c7 w7 hown7 hgrow7 hat7 hlt7
        refine hK.out _ _ ?_ (fun hHeld => ?_)
        · exact ⟨(World.cell?_of_block (hgrow7.block _ (by have := HL8.out.1; simp; omega) (HNE7.out.1))).trans hHeld.1, (World.cell?_of_block (hgrow7.block _ (by have := HL8.out.1; simp; omega) (HNE7.out.1))).trans hHeld.2.1, (World.cell?_of_block (hgrow7.block _ (by have := HL8.out.2; simp; omega) (HNE7.out.2))).trans hHeld.2.2⟩
        clear hK K
        try simp only [Act.put, List.getElem_toArray, List.getElem_cons_succ, List.getElem_cons_zero, List.setIfInBounds_toArray, List.set_cons_zero, List.set_cons_succ]
        refine wpAnyH_take (i := 16) (v := ?_) rfl (by kernel_rfl) (by kernel_rfl) (by kernel_rfl) (fun _ _ _ h => h) (Or.inl ⟨by rfl, ?_⟩) (by assumption) ?_
        rotate_left
        · (intro w hSw; (try dsimp only at hSw); (try simp only [List.getElem_toArray, List.getElem_cons_succ, List.getElem_cons_zero]); first | (go_simp; done) | (go_simp; with_reducible rfl))
        try simp only [Act.put, List.getElem_toArray, List.getElem_cons_succ, List.getElem_cons_zero, List.setIfInBounds_toArray, List.set_cons_zero, List.set_cons_succ]
        refine wpAnyH_done (by kernel_rfl) ?_ _
        have hg7 : g7 ≠ bl := by
          rcases hat7 with h9 | h9
          · simp [Value.ownBlock] at h9; omega
          · omega
        have HOL7 : Hid (w7.ownsRow w.heap.size 28 2 (.slice (some ⟨bl, 0, none⟩) left.length cl) left.length (ctCells left)) :=
          own_eqG HOL.out ((hgrow7.block bl (by simp; omega) HNE7.out.1).trans ((heap_alloc_old _ _ HL8.out.1).trans (HB6.out.block bl hblr)))
        have HOW7 : Hid (w7.ownsRow w.heap.size 3 1 (.slice (some ⟨g7, 0, none⟩) (out ++ [pa + pb - (lf : Int)]).length c7) (out ++ [pa + pb - (lf : Int)]).length (rlCells (out ++ [pa + pb - (lf : Int)]))) := by
          show World.ownsRow _ _ _ _ _ _ _
          have e : rlCells (out ++ [pa + pb - (lf : Int)]) = rlCells out ++ [.int .i64 (pa + pb - (lf : Int))] := by unfold rlCells; simp
          rw [e, List.length_append]; exact hown7
        have HBW6 : Hid (Below w.heap.size w w6) := HB.out.trans (HB6.out.mono HB.out.size)
        have HB7 : Hid (Below w.heap.size w w7) := below_app3 (HBW6.out.drew.alloc HBW6.out.size (.cells #[.int .i64 (pa + pb - (lf : Int))] 3)) hgrow7 (World.ownsRow.alloc HOWD.out _) (Nat.le_refl _)
        have HDEL := Lib.hid (delPair_any w.heap.size bl cl at_ left w7 HOL7.out hatl hl5')
        clear hown7 hgrow7 hat7 hwa hwb hwc hwd
        have hwe : IntKind.i64.wrap ((at_ : Int) + 1) = (at_ : Int) + 1 := IntWalk.i64_in _ ⟨by omega, by omega⟩
        have hwf : wrap64 ((at_ : Int) + 1) = (at_ : Int) + 1 := IntWalk.wrap64_in _ ⟨by omega, by omega⟩
        (try go_wp2_with fail)
        refine HDEL.out.mono ?_; rintro e8 w8 ⟨rfl, hol8, hb8, hoth8⟩
        have HOL8 := Lib.hid hol8
        have HOW8 : Hid (w8.ownsRow w.heap.size 3 1 (.slice (some ⟨g7, 0, none⟩) (out ++ [pa + pb - (lf : Int)]).length c7) (out ++ [pa + pb - (lf : Int)]).length (rlCells (out ++ [pa + pb - (lf : Int)]))) := own_eqG HOW7.out (hoth8 g7 hg7.symm)
        have HB8 : Hid (Below w.heap.size w w8) := HB7.out.trans (hb8.mono hblw)
        have HLO : Hid ((out ++ [pa + pb - (lf : Int)]).length = out.length + 1) := by show _ = _; rw [List.length_append]; rfl
        clear hol8 hb8 hoth8 hwe hwf
        (try go_wp2_with fail)
        go_roundw
        case rel => exact ⟨left.eraseIdx at_, out ++ [pa + pb - (lf : Int)], g7, c7, bl, cl, g', HNX.out, by rw [HLO.out], rfl, fun q hq => HINP.out q (List.mem_of_mem_eraseIdx hq), HOL8.out, HOW8.out, hg7, by rw [HEL.out]; omega, by rw [HLO.out, HEL.out]; omega, HB8.out⟩
        case measure => have := HEL.out; (simp [slLen]) <;> omega
end Go.Proofs.YtimccjmphdkbjaaDoor
