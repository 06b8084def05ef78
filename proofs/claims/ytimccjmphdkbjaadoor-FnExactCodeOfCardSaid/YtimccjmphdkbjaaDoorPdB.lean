/- The model's codes of trees: TreeOfCode. The model's codes of trees: CodeOf. -/
import Derived.Test.YtimccjmphdkbjaaDoorPdA
import Derived.Test.YtimccjmphdkbjaaDoorPcF
import Derived.Test.YtimccjmphdkbjaaDoorPcE
import Derived.Deep.LoopGhost
set_option linter.unusedSimpArgs false
set_option linter.unusedVariables false
attribute [local go_sem ↓] Go.wp_at_zero Go.wp_at_succ
namespace Go.Proofs.YtimccjmphdkbjaaDoor
open Go.ChangeShapes Go.WideShapes Go.ChangeAt Go.RowKit

theorem treeOf_none {n : Int} {c : List Int} (h : codeOk n c = false) : treeOfCode n c = none := by unfold treeOfCode; rw [h]; rfl
theorem codeB_t {m : Nat} {c : List Int} (h : codeB m c = true) : c.length + 2 = m ∧ ∀ x, x ∈ c → 0 ≤ x ∧ x < m := by
  unfold codeB at h
  simp only [Bool.and_eq_true, decide_eq_true_eq, List.all_eq_true] at h
  exact h
theorem treeGo_step {m : Nat} {x : Int} {c : List Int} {f : Int → Int} {out LT : List (Int × Int)} (h : treeGo m (x :: c) f out = some LT) : leafOf m f < m ∧ treeGo m c (stepF f (leafOf m f) x) (putL out (mkP (leafOf m f) x)) = some LT := by
  unfold treeGo at h
  by_cases hl : leafOf m f < m
  · rw [if_pos hl] at h; exact ⟨hl, h⟩
  · rw [if_neg hl] at h; cases h
theorem treeGo_end {m : Nat} {f : Int → Int} {out LT : List (Int × Int)} (h : treeGo m [] f out = some LT) : leafOf m f < m ∧ leafFrom f (m - leafOf m f - 1) (leafOf m f + 1) < m ∧ LT = putL out (mkP (leafOf m f) (leafFrom f (m - leafOf m f - 1) (leafOf m f + 1))) := by
  unfold treeGo at h
  by_cases hl : leafOf m f < m ∧ leafFrom f (m - leafOf m f - 1) (leafOf m f + 1) < m
  · rw [if_pos hl] at h; injection h with h; exact ⟨hl.1, hl.2, h.symm⟩
  · rw [if_neg hl] at h; cases h
theorem leafOf_at {m : Nat} {f : Int → Int} {lf : Nat} (h : leafOf m f = lf) (hl : lf < m) : (∀ j : Nat, j < lf → f j ≠ 1) ∧ f lf = 1 := by
  obtain ⟨_, _, h3, h4⟩ := leafFrom_spec f m 0
  unfold leafOf at h
  rw [h] at h3 h4
  exact ⟨fun j hj => h3 j (Nat.zero_le _) hj, h4 (by omega)⟩
theorem leafFrom_at {m a : Nat} {f : Int → Int} {lf : Nat} (h : leafFrom f (m - a - 1) (a + 1) = lf) (ha : a < m) (hl : lf < m) : a + 1 ≤ lf ∧ (∀ j : Nat, a + 1 ≤ j → j < lf → f j ≠ 1) ∧ f lf = 1 := by
  obtain ⟨h1, _, h3, h4⟩ := leafFrom_spec f (m - a - 1) (a + 1)
  rw [h] at h1 h3 h4
  exact ⟨h1, h3, h4 (by omega)⟩
theorem stepF_bd {f : Int → Int} {l x : Int} {k : Nat} (h : ∀ v, -(k : Int) ≤ f v ∧ f v ≤ 7) : ∀ v, -((k + 1 : Nat) : Int) ≤ stepF f l x v ∧ stepF f l x v ≤ 7 := fun v => by
  have := h v
  unfold stepF
  split <;> split <;> omega
theorem own_max {w : World} {base : Nat} {e : TypeId} {size n : Nat} {A1 : Option Addr} {c1 : Nat} {xs : List Value} (h : w.ownsRow base e size (.slice A1 n c1) n xs) (hn : 0 < n) : c1 ≤ maxLen := by
  rcases h.2 with ⟨hv, h0⟩ | ⟨g, c, cur, hv, _, _, _, h4, _⟩
  · omega
  · injection hv with _ _ e3
    rw [e3]; exact h4
theorem RC.keepb {w w' : World} {B g o : Nat} {L : List (Int × Int)} (h : RC w B (some ⟨g, o, none⟩) L) (hb : w'.heap[g]? = w.heap[g]?) : RC w' B (some ⟨g, o, none⟩) L := by
  intro i x hx
  obtain ⟨b, o', e, hB, c0, c1⟩ := h i x hx
  injection e with e; injection e with e1 e2; subst e1; subst e2
  exact ⟨g, o, rfl, hB, (World.cell?_of_block hb).trans c0, (World.cell?_of_block hb).trans c1⟩
/-- new memory of one's own that holds pairs, if they are told -/
def NewTree (o : Option (List (Int × Int))) (w : World) (en : Ending) (w' : World) : Prop := match o with
  | none => ∃ A1 c1, en = .returned (.tuple #[.slice A1 0 c1, .bool false]) ∧ Below w.heap.size w w'
  | some L => ∃ A1 c1, en = .returned (.tuple #[.slice A1 L.length c1, .bool true]) ∧ w'.ownsRow w.heap.size 28 2 (.slice A1 L.length c1) L.length (ctCells L) ∧ Below w.heap.size w w'
theorem NewTree.cuts {o : Option (List (Int × Int))} {w w' : World} {en : Ending} (h : NewTree o w en w') : NewCuts o w en w' := by
  cases o with
  | none => exact h
  | some L =>
    obtain ⟨A1, c1, h1, h2, h3⟩ := h
    exact ⟨A1, c1, w.heap.size, w'.heap.size, h1, rowF_of_cuts h2, Nat.le_refl _, h3⟩
set_option maxRecDepth 100000 in
set_option maxHeartbeats 4000000 in
theorem sTreeOfCode_own (n : Int) (Ar : Option Addr) (cr : Nat) (c : List Int) (w : World) (hi : RI w w.heap.size Ar c) (hlm : c.length ≤ 1073741824) :
    Calls Tryd.prog 21 #[.int .i64 n, .slice Ar c.length cr] w (NewTree (treeOfCode n c) w) := by
  have HI := Lib.hid hi
  clear hi
  cases hok : codeOk n c
  · have HOK := Lib.hid hok
    rw [treeOf_none hok]
    unfold NewTree
    clear hok
    go_enter Tryd.func21, Tryd.ntmps21
    go_wp2_with fail
    refine (sCodeOk_any n Ar cr c _ (HI.out.later (by go_grown)) hlm).mono ?_; rintro e1 w1 ⟨rfl, rfl⟩; rw [HOK.out]
    go_wp2_with fail
    refine bodyPost_ret (v := .tuple #[.slice (some ⟨w.heap.size, 0, none⟩) 0 0, .bool false]) (by simp [results, Tryd.results21, go_sem]) rfl ?_
    exact ⟨some ⟨w.heap.size, 0, none⟩, 0, rfl, (Below.refl _ _).alloc (Nat.le_refl _) _⟩
  · obtain ⟨m, rfl, h2, h6, hcb⟩ := codeOk_t hok
    obtain ⟨hcl, hcin⟩ := codeB_t hcb
    obtain ⟨LT, hLT, hgo, -⟩ := tree_of_code hok
    have HOK := Lib.hid hok
    have HIN := Lib.hid hcin
    have HGO := Lib.hid hgo
    have HCL := Lib.hid hcl
    have hc4 : c.length ≤ 4 := by omega
    have hcb1 : ∀ v : Int, -((0 : Nat) : Int) ≤ cntL c v ∧ cntL c v ≤ 7 := fun v => by have := cntL_bd c v; omega
    have HCB := Lib.hid hcb1
    have HCK : Hid (∀ (k : Nat) (v : Int), 1 ≤ cntL (c.take k) v ∧ cntL (c.take k) v ≤ 5) := fun k v => by
      have := cntL_bd (c.take k) v
      have h9 : (c.take k).length ≤ c.length := by rw [List.length_take]; omega
      omega
    rw [hLT]
    unfold NewTree
    clear hok hcb hcin hLT hgo hcl hcb1
    have hmk := fun W => mkInts' W m h6
    go_enter Tryd.func21, Tryd.ntmps21
    go_wp2_with fail
    refine (sCodeOk_any (m : Int) Ar cr c _ (HI.out.later (by go_grown)) hlm).mono ?_; rintro e1 w1 ⟨rfl, rfl⟩; rw [HOK.out]
    have hrow0 := RowG.made (w.alloc (.cells #[] 28)) 3 m
    have hsz0 : (w.alloc (.cells #[] 28)).heap.size = w.heap.size + 1 := by simp
    rw [hsz0] at hrow0
    have HROW0 := Lib.hid hrow0
    clear hrow0 hsz0
    go_wp2_with fail
    clear hmk
    go_loopw [8] (fun i wr => ∃ k : Nat, k ≤ m ∧ i = .int .i64 (k : Int) ∧ RowG wr (w.heap.size + 1) 3 m (fun i => if i < k then 1 else 0) ∧ Below w.heap.size w wr) (fun i _ => m - (intOf i).toNat)
    case atStart => exact ⟨0, Nat.zero_le _, rfl, HROW0.out.congr (fun i _ => by simp), by go_grown⟩
    case round =>
      clear HROW0
      obtain ⟨k, hk, rfl, hrow, hb⟩ := hrel
      have HROW := Lib.hid hrow
      have HB := Lib.hid hb
      have hk0 : (0 : Int) ≤ (k : Int) := by omega
      by_cases hlk : k < m
      · have hk1 : (k : Int) < (m : Int) := by omega
        have d0 := hrow.cell hlk
        have fz0 := hrow.frozen k
        clear hrow hb
        simp only [if_neg (Nat.lt_irrefl k)] at d0
        go_wp2_with fail
        go_roundw
        case rel => exact ⟨k + 1, by omega, by go_num, (HROW.out.put hlk 1).congr (fun i _ => by by_cases e1 : i = k <;> by_cases e2 : i < k <;> simp [e1, e2] <;> omega), HB.out.setCell (p := ⟨w.heap.size + 1, k, none⟩) (by simp) _⟩
        case measure => (simp [intOf]) <;> omega
      · obtain rfl : k = m := by omega
        have HROW1 : Hid (RowG wr (w.heap.size + 1) 3 k (fun i => cntL (c.take 0) (i : Int))) := hrow.congr (fun i hi => by rw [if_pos hi]; rfl)
        clear hrow HROW hb
        go_wp2_with fail
        go_loopw [9] (fun i wr => ∃ k' : Nat, k' ≤ c.length ∧ i = .int .i64 (k' : Int) ∧ RowG wr (w.heap.size + 1) 3 k (fun i => cntL (c.take k') (i : Int)) ∧ Below w.heap.size w wr) (fun i _ => c.length - (intOf i).toNat)
        case atStart => exact ⟨0, Nat.zero_le _, rfl, HROW1.out, HB.out⟩
        case round =>
          clear HROW1 HB
          obtain ⟨k', hk', rfl, hrow, hb⟩ := hrel
          have HROW := Lib.hid hrow
          have HB := Lib.hid hb
          have hk0 : (0 : Int) ≤ (k' : Int) := by omega
          by_cases hlk : k' < c.length
          · have hk1 : (k' : Int) < (c.length : Int) := by omega
            obtain ⟨xi, hxi⟩ : ∃ x, c[k']? = some x := ⟨_, List.getElem?_eq_getElem hlk⟩
            obtain ⟨x0, x1⟩ := HIN.out xi (List.mem_of_getElem? hxi)
            obtain ⟨x, rfl⟩ := Int.eq_ofNat_of_zero_le x0
            have hxm : x < k := by omega
            obtain ⟨b, o, rfl, hB, c0⟩ := (HI.out.below hb).at_ hlk
            rw [getD_at hxi] at c0
            have HSTEP : Hid (∀ v : Int, cntL (c.take (k' + 1)) v = cntL (c.take k') v + (if (x : Int) = v then 1 else 0)) := fun v => cntL_take hxi v
            obtain ⟨F, hF⟩ : ∃ F, cntL (c.take k') (x : Int) = F := ⟨_, rfl⟩
            have q0 : wr.cell? ⟨w.heap.size + 1, x, none⟩ = some (.int .i64 F) := by rw [← hF]; exact hrow.cell hxm
            have qf := hrow.frozen x
            have hFb := HCK.out k' (x : Int)
            rw [hF] at hFb
            have HF := Lib.hid hF
            have HV1 : Hid (IntKind.i64.wrap (F + 1) = F + 1) := IntWalk.i64_in _ ⟨by omega, by omega⟩
            have HV2 : Hid (wrap64 (F + 1) = F + 1) := IntWalk.wrap64_in _ ⟨by omega, by omega⟩
            clear hrow hb hxi hF hFb
            have hv1 := HV1.out
            have hv2 := HV2.out
            go_wp2_with fail
            refine AnyZ.region (S := (fun w' => w'.cell? ⟨b, o + k', none⟩ = some (.int .i64 (x : Int)) ∧ w'.cell? ⟨w.heap.size + 1, x, none⟩ = some (.int .i64 F))) (z := 14) (by kernel_rfl) ?_ (fun hHeld => ?_)
            · exact ⟨c0, q0⟩
            refine AnyZ.take (i := 0) (oi := ⟨_, _, _, _, _, _⟩) (v := ?_) rfl (by kernel_rfl) (by kernel_rfl) (by kernel_rfl) (by kernel_rfl) (fun _ _ _ h => h) (Or.inl ⟨by rfl, ?_⟩) (by assumption) ?_
            rotate_left
            · (intro w hSw; (try dsimp only at hSw); (try simp only [List.getElem_toArray, List.getElem_cons_succ, List.getElem_cons_zero]); first | (go_simp; done) | (go_simp; with_reducible rfl))
            try simp only [Act.put, List.getElem_toArray, List.getElem_cons_succ, List.getElem_cons_zero, List.setIfInBounds_toArray, List.set_cons_zero, List.set_cons_succ]
            refine AnyZ.take (i := 1) (oi := ⟨_, _, _, _, _, _⟩) (v := ?_) rfl (by kernel_rfl) (by kernel_rfl) (by kernel_rfl) (by kernel_rfl) (fun _ _ _ h => h) (Or.inl ⟨by rfl, ?_⟩) (by assumption) ?_
            rotate_left
            · (intro w hSw; (try dsimp only at hSw); (try simp only [List.getElem_toArray, List.getElem_cons_succ, List.getElem_cons_zero]); first | (go_simp; done) | (go_simp; with_reducible rfl))
            try simp only [Act.put, List.getElem_toArray, List.getElem_cons_succ, List.getElem_cons_zero, List.setIfInBounds_toArray, List.set_cons_zero, List.set_cons_succ]
            refine AnyZ.take (i := 2) (oi := ⟨_, _, _, _, _, _⟩) (v := ?_) rfl (by kernel_rfl) (by kernel_rfl) (by kernel_rfl) (by kernel_rfl) (fun _ _ _ h => h) (Or.inl ⟨by rfl, ?_⟩) (by assumption) ?_
            rotate_left
            · (intro w hSw; (try dsimp only at hSw); (try simp only [List.getElem_toArray, List.getElem_cons_succ, List.getElem_cons_zero]); first | (go_simp; done) | (go_simp; with_reducible rfl))
            try simp only [Act.put, List.getElem_toArray, List.getElem_cons_succ, List.getElem_cons_zero, List.setIfInBounds_toArray, List.set_cons_zero, List.set_cons_succ]
            refine AnyZ.take (i := 3) (oi := ⟨_, _, _, _, _, _⟩) (v := ?_) rfl (by kernel_rfl) (by kernel_rfl) (by kernel_rfl) (by kernel_rfl) (fun _ _ _ h => h) (Or.inl ⟨by rfl, ?_⟩) (by assumption) ?_
            rotate_left
            · (intro w hSw; (try dsimp only at hSw); (try simp only [List.getElem_toArray, List.getElem_cons_succ, List.getElem_cons_zero]); first | (go_simp; done) | (go_simp; with_reducible rfl))
            try simp only [Act.put, List.getElem_toArray, List.getElem_cons_succ, List.getElem_cons_zero, List.setIfInBounds_toArray, List.set_cons_zero, List.set_cons_succ]
            refine AnyZ.take (i := 4) (oi := ⟨_, _, _, _, _, _⟩) (v := ?_) rfl (by kernel_rfl) (by kernel_rfl) (by kernel_rfl) (by kernel_rfl) (fun _ _ _ h => h) (Or.inl ⟨by rfl, ?_⟩) (by assumption) ?_
            rotate_left
            · (intro w hSw; (try dsimp only at hSw); (try simp only [List.getElem_toArray, List.getElem_cons_succ, List.getElem_cons_zero]); first | (go_simp; done) | (go_simp; with_reducible rfl))
            try simp only [Act.put, List.getElem_toArray, List.getElem_cons_succ, List.getElem_cons_zero, List.setIfInBounds_toArray, List.set_cons_zero, List.set_cons_succ]
            refine AnyZ.take (i := 5) (oi := ⟨_, _, _, _, _, _⟩) (v := ?_) rfl (by kernel_rfl) (by kernel_rfl) (by kernel_rfl) (by kernel_rfl) (fun _ _ _ h => h) (Or.inl ⟨by rfl, ?_⟩) (by assumption) ?_
            rotate_left
            · (intro w hSw; (try dsimp only at hSw); (try simp only [List.getElem_toArray, List.getElem_cons_succ, List.getElem_cons_zero]); first | (go_simp; done) | (go_simp; with_reducible rfl))
            try simp only [Act.put, List.getElem_toArray, List.getElem_cons_succ, List.getElem_cons_zero, List.setIfInBounds_toArray, List.set_cons_zero, List.set_cons_succ]
            refine AnyZ.take (i := 6) (oi := ⟨_, _, _, _, _, _⟩) (v := ?_) rfl (by kernel_rfl) (by kernel_rfl) (by kernel_rfl) (by kernel_rfl) (fun _ _ _ h => h) (Or.inl ⟨by rfl, ?_⟩) (by assumption) ?_
            rotate_left
            · (intro w hSw; (try dsimp only at hSw); (try simp only [List.getElem_toArray, List.getElem_cons_succ, List.getElem_cons_zero]); first | (go_simp; done) | (go_simp; with_reducible rfl))
            try simp only [Act.put, List.getElem_toArray, List.getElem_cons_succ, List.getElem_cons_zero, List.setIfInBounds_toArray, List.set_cons_zero, List.set_cons_succ]
            refine AnyZ.take (i := 7) (oi := ⟨_, _, _, _, _, _⟩) (v := ?_) rfl (by kernel_rfl) (by kernel_rfl) (by kernel_rfl) (by kernel_rfl) (fun _ _ _ h => h) (Or.inl ⟨by rfl, ?_⟩) (by assumption) ?_
            rotate_left
            · (intro w hSw; (try dsimp only at hSw); (try simp only [List.getElem_toArray, List.getElem_cons_succ, List.getElem_cons_zero]); first | (go_simp; done) | (go_simp; with_reducible rfl))
            try simp only [Act.put, List.getElem_toArray, List.getElem_cons_succ, List.getElem_cons_zero, List.setIfInBounds_toArray, List.set_cons_zero, List.set_cons_succ]
            refine AnyZ.take (i := 8) (oi := ⟨_, _, _, _, _, _⟩) (v := ?_) rfl (by kernel_rfl) (by kernel_rfl) (by kernel_rfl) (by kernel_rfl) (fun _ _ _ h => h) (Or.inl ⟨by rfl, ?_⟩) (by assumption) ?_
            rotate_left
            · (intro w hSw; (try dsimp only at hSw); (try simp only [List.getElem_toArray, List.getElem_cons_succ, List.getElem_cons_zero]); first | (go_simp; done) | (go_simp; with_reducible rfl))
            try simp only [Act.put, List.getElem_toArray, List.getElem_cons_succ, List.getElem_cons_zero, List.setIfInBounds_toArray, List.set_cons_zero, List.set_cons_succ]
            refine AnyZ.take (i := 9) (oi := ⟨_, _, _, _, _, _⟩) (v := ?_) rfl (by kernel_rfl) (by kernel_rfl) (by kernel_rfl) (by kernel_rfl) (fun _ _ _ h => h) (Or.inl ⟨by rfl, ?_⟩) (by assumption) ?_
            rotate_left
            · (intro w hSw; (try dsimp only at hSw); (try simp only [List.getElem_toArray, List.getElem_cons_succ, List.getElem_cons_zero]); first | (go_simp; done) | (go_simp; with_reducible rfl))
            try simp only [Act.put, List.getElem_toArray, List.getElem_cons_succ, List.getElem_cons_zero, List.setIfInBounds_toArray, List.set_cons_zero, List.set_cons_succ]
            refine AnyZ.take (i := 10) (oi := ⟨_, _, _, _, _, _⟩) (v := ?_) rfl (by kernel_rfl) (by kernel_rfl) (by kernel_rfl) (by kernel_rfl) (fun _ _ _ h => h) (Or.inl ⟨by rfl, ?_⟩) (by assumption) ?_
            rotate_left
            · (intro w hSw; (try dsimp only at hSw); (try simp only [List.getElem_toArray, List.getElem_cons_succ, List.getElem_cons_zero]); first | (go_simp; done) | (go_simp; with_reducible rfl))
            try simp only [Act.put, List.getElem_toArray, List.getElem_cons_succ, List.getElem_cons_zero, List.setIfInBounds_toArray, List.set_cons_zero, List.set_cons_succ]
            refine AnyZ.take (i := 11) (oi := ⟨_, _, _, _, _, _⟩) (v := ?_) rfl (by kernel_rfl) (by kernel_rfl) (by kernel_rfl) (by kernel_rfl) (fun _ _ _ h => h) (Or.inl ⟨by rfl, ?_⟩) (by assumption) ?_
            rotate_left
            · (intro w hSw; (try dsimp only at hSw); (try simp only [List.getElem_toArray, List.getElem_cons_succ, List.getElem_cons_zero]); first | (go_simp; done) | (go_simp; with_reducible rfl))
            try simp only [Act.put, List.getElem_toArray, List.getElem_cons_succ, List.getElem_cons_zero, List.setIfInBounds_toArray, List.set_cons_zero, List.set_cons_succ]
            refine AnyZ.take (i := 12) (oi := ⟨_, _, _, _, _, _⟩) (v := ?_) rfl (by kernel_rfl) (by kernel_rfl) (by kernel_rfl) (by kernel_rfl) (fun _ _ _ h => h) (Or.inl ⟨by rfl, ?_⟩) (by assumption) ?_
            rotate_left
            · (intro w hSw; (try dsimp only at hSw); (try simp only [List.getElem_toArray, List.getElem_cons_succ, List.getElem_cons_zero]); first | (go_simp; done) | (go_simp; with_reducible rfl))
            try simp only [Act.put, List.getElem_toArray, List.getElem_cons_succ, List.getElem_cons_zero, List.setIfInBounds_toArray, List.set_cons_zero, List.set_cons_succ]
            refine AnyZ.take (i := 13) (oi := ⟨_, _, _, _, _, _⟩) (v := ?_) rfl (by kernel_rfl) (by kernel_rfl) (by kernel_rfl) (by kernel_rfl) (fun _ _ _ h => h) (Or.inl ⟨by rfl, ?_⟩) (by assumption) ?_
            rotate_left
            · (intro w hSw; (try dsimp only at hSw); (try simp only [List.getElem_toArray, List.getElem_cons_succ, List.getElem_cons_zero]); first | (go_simp; done) | (go_simp; with_reducible rfl))
            try simp only [Act.put, List.getElem_toArray, List.getElem_cons_succ, List.getElem_cons_zero, List.setIfInBounds_toArray, List.set_cons_zero, List.set_cons_succ]
            refine AnyZ.step (i := 14) (o := ⟨_, _, _, _, _, _⟩) (by kernel_rfl) rfl (fun K hK => ?_)
            go_simp
            refine hK.out _ _ (fun h => absurd rfl h) (fun _ => ?_)
            clear hK K
            try simp only [Act.put, List.getElem_toArray, List.getElem_cons_succ, List.getElem_cons_zero, List.setIfInBounds_toArray, List.set_cons_zero, List.set_cons_succ]
            refine AnyZ.done (by kernel_rfl) ?_ _
            clear hv1 hv2
            go_wp2_with fail
            go_roundw
            case rel =>
              have hrow9 : RowG (wr.drew.setCell ⟨w.heap.size + 1, x, none⟩ (.int .i64 (F + 1))) (w.heap.size + 1) 3 k (fun i => cntL (c.take (k' + 1)) (i : Int)) := (RowG.put (w := wr.drew) ⟨HROW.out.blk⟩ hxm (F + 1)).congr (fun i _ => by
                rw [HSTEP.out (i : Int)]
                by_cases e1 : i = x
                · subst e1; rw [if_pos rfl, if_pos rfl, HF.out]
                · rw [if_neg e1, if_neg (by omega)]; simp)
              exact ⟨k' + 1, by omega, by go_num, hrow9, (HB.out.drew).setCell (p := ⟨w.heap.size + 1, x, none⟩) (by simp) _⟩
            case measure => (simp [intOf]) <;> omega
          · obtain rfl : k' = c.length := by omega
            have HROW1 : Hid (RowG wr (w.heap.size + 1) 3 k (fun i => cntL c (i : Int))) := hrow.congr (fun i _ => by rw [List.take_length])
            have hRw := hrow.lt
            clear hrow HROW hb
            go_wp2_with fail
            go_loopw [6, 10] (fun vo i wr => ∃ (q : Nat) (f : Int → Int) (out : List (Int × Int)) (g co : Nat), q ≤ c.length ∧ i = .int .i64 (q : Int) ∧ vo = .slice (some ⟨g, 0, none⟩) out.length co ∧ treeGo k (c.drop q) f out = some LT ∧ (∀ v : Int, -(q : Int) ≤ f v ∧ f v ≤ 7) ∧ RowG wr (w.heap.size + 1) 3 k (fun i => f (i : Int)) ∧ RC wr wr.heap.size (some ⟨g, 0, none⟩) out ∧ out.length = q ∧ out.length ≤ co ∧ co ≤ maxLen ∧ g ≠ w.heap.size + 1 ∧ Below w.heap.size w wr ∧ w.heap.size + 1 < wr.heap.size) (fun _ i _ => c.length - (intOf i).toNat)
            case atStart => exact ⟨0, cntL c, [], w.heap.size, 0, Nat.zero_le _, rfl, rfl, HGO.out, HCB.out, HROW1.out, RC.nil_ _ _, rfl, Nat.le_refl _, by unfold maxLen; omega, by omega, HB.out, hRw⟩
            case round =>
              clear HROW1 HB hRw HGO HCB HCK
              obtain ⟨q, f, out, g, co, hq, rfl, rfl, hgo, hfb, hrow, hrc, hol, hco, hcm, hgR, hb, hRW⟩ := hrel
              have HROW := Lib.hid hrow
              have HB := Lib.hid hb
              have HRC := Lib.hid hrc
              have HFB := Lib.hid hfb
              have HOL := Lib.hid hol
              have HGO := Lib.hid hgo
              have HPUT : Hid (∀ (a b9 : Int), Calls Tryd.prog 53 #[.slice (some ⟨g, 0, none⟩) out.length co, .int .i64 a, .int .i64 b9] wr (NewPut (putL out (mkP a b9)) wr)) := fun a b9 => l12Put_any a b9 g 0 co out wr hrc (by omega) hco hcm
              have hq0 : (0 : Int) ≤ (q : Int) := by omega
              clear hrow hb hrc hfb hol hgo hco hcm
              by_cases hlq : q < c.length
              · have hq1 : (q : Int) < (c.length : Int) := by omega
                obtain ⟨xi, hxi⟩ : ∃ x, c[q]? = some x := ⟨_, List.getElem?_eq_getElem hlq⟩
                obtain ⟨x0, x1⟩ := HIN.out xi (List.mem_of_getElem? hxi)
                obtain ⟨x, rfl⟩ := Int.eq_ofNat_of_zero_le x0
                have hxm : x < k := by omega
                have hdr : c.drop q = (x : Int) :: c.drop (q + 1) := by rw [List.drop_eq_getElem_cons hlq]; congr 1; exact (List.getElem?_eq_some_iff.1 hxi).2
                obtain ⟨hlf, hnx⟩ := treeGo_step (by rw [← hdr]; exact HGO.out)
                obtain ⟨lf, hlfe⟩ : ∃ lf, leafOf k f = lf := ⟨_, rfl⟩
                obtain ⟨hne, hone⟩ := leafOf_at hlfe (by omega)
                rw [hlfe] at hlf hnx
                have HNX := Lib.hid hnx
                have HNE : Hid (∀ j : Nat, 0 ≤ j → j < lf → f (j : Int) ≠ 1) := fun j _ hj => hne j hj
                have HONE := Lib.hid hone
                have HX : Hid (c.getD q 0 = (x : Int)) := getD_at hxi
                obtain ⟨b, o, rfl, hB, c9⟩ := (HI.out.below HB.out).at_ hlq
                rw [HX.out] at c9
                clear hxi x0 x1 hdr hnx hlfe hne hone
                go_wp2_with fail
                go_loopw [11] (fun vj w9 => ∃ j : Nat, vj = .int .i64 (j : Int) ∧ 0 ≤ j ∧ j ≤ lf ∧ w9 = wr) (fun vj _ => lf - (intOf vj).toNat)
                case atStart => exact ⟨0, by first | rfl | go_num, Nat.le_refl _, by omega, rfl⟩
                case round =>
                  obtain ⟨j, rfl, hjlo, hj, rfl⟩ := hrel
                  have hjm : j < k := by omega
                  have cj := HROW.out.cell hjm
                  have hj0 : (0 : Int) ≤ (j : Int) := by omega
                  have hj1 : (j : Int) < (k : Int) := by omega
                  by_cases hjl : j < lf
                  · have e1 : (f (j : Int) != 1) = true := by rw [bne_iff_ne]; exact HNE.out j hjlo hjl
                    go_wp2_with fail
                    go_roundw
                    case rel => exact ⟨j + 1, by go_num, by omega, by omega, by first | rfl | trivial⟩
                    case measure => (simp [intOf]) <;> omega
                  · have HJE : Hid (j = lf) := by show _ = _; omega
                    have e1 : (f (j : Int) != 1) = false := by rw [bne_eq_false_iff_eq, HJE.out]; exact HONE.out
                    go_wp2_with fail
                    clear e1
                    have hjle : lf = j := HJE.out.symm
                    clear cj HJE
                    subst hjle
                    refine (HPUT.out (lf : Int) (x : Int)).mono ?_; rintro e7 w7 ⟨A7, c7, rfl, hown7, hb7⟩
                    have HB7 := Lib.hid hb7
                    obtain ⟨g7, hg7, hg7lo, -⟩ := own_some hown7 (by rw [putL_len]; omega)
                    have hc7 := own_cap hown7
                    have hm7 := own_max hown7 (by rw [putL_len]; omega)
                    subst hg7
                    have HRC7 := Lib.hid (rc_of_own hown7)
                    have HROW7 := Lib.hid (HROW.out.below hb7 hRW)
                    have hs7 := hb7.size
                    have HM7 := Lib.hid (And.intro hc7 hm7)
                    clear hb7 hown7 hc7 hm7
                    have d0 := HROW7.out.cell hjm
                    have fz0 := HROW7.out.frozen lf
                    go_wp2_with fail
                    clear d0 fz0
                    have HROW8 := Lib.hid (HROW7.out.put hjm 0)
                    obtain ⟨W8, hW8⟩ : ∃ W8, w7.setCell ⟨w.heap.size + 1, lf, none⟩ (.int .i64 0) = W8 := ⟨_, rfl⟩
                    have HB8 : Hid (Below w.heap.size w W8) := by
                      show Below _ _ _
                      rw [← hW8]
                      exact (bstep (B := w.heap.size) (W := w) HB.out HB.out.size HB7.out).setCell (p := ⟨w.heap.size + 1, lf, none⟩) (by simp) _
                    have hs8 : w7.heap.size = W8.heap.size := by rw [← hW8]; simp [World.setCell]
                    have HRC8 : Hid (RC W8 W8.heap.size (some ⟨g7, 0, none⟩) (putL out (mkP lf x))) := by
                      show RC _ _ _ _
                      rw [← hs8, ← hW8]
                      exact RC.keepb HRC7.out (Below.heap_setCell _ _ _ _ (by simp; omega))
                    rw [hW8] at HROW8 ⊢
                    have hg8 : g7 ≠ w.heap.size + 1 := by omega
                    clear hW8 hs8
                    obtain ⟨G, hG⟩ : ∃ G, (if x = lf then 0 else f (x : Int)) = G := ⟨_, rfl⟩
                    have q0 : W8.cell? ⟨w.heap.size + 1, x, none⟩ = some (.int .i64 G) := by
                      have := HROW8.out.cell hxm
                      simp only [hG] at this
                      exact this
                    have qf := HROW8.out.frozen x
                    obtain ⟨b', o', e9, hB', c0⟩ := (HI.out.below HB8.out).at_ hlq
                    injection e9 with e9; injection e9 with e91 e92; subst e91; subst e92
                    rw [HX.out] at c0
                    have hGb : -100000 ≤ G ∧ G ≤ 7 := by
                      have := HFB.out (x : Int)
                      rw [← hG]
                      split <;> omega
                    have HG := Lib.hid hG
                    have HV1 : Hid (IntKind.i64.wrap (G - 1) = G - 1) := IntWalk.i64_in _ ⟨by omega, by omega⟩
                    have HV2 : Hid (wrap64 (G - 1) = G - 1) := IntWalk.wrap64_in _ ⟨by omega, by omega⟩
                    clear hG hGb
                    have hv1 := HV1.out
                    have hv2 := HV2.out
                    go_wp2_with fail
                    refine AnyZ.region (S := (fun w' => w'.cell? ⟨b, o + q, none⟩ = some (.int .i64 (x : Int)) ∧ w'.cell? ⟨w.heap.size + 1, x, none⟩ = some (.int .i64 G))) (z := 14) (by kernel_rfl) ?_ (fun hHeld => ?_)
                    · exact ⟨c0, q0⟩
                    refine AnyZ.take (i := 0) (oi := ⟨_, _, _, _, _, _⟩) (v := ?_) rfl (by kernel_rfl) (by kernel_rfl) (by kernel_rfl) (by kernel_rfl) (fun _ _ _ h => h) (Or.inl ⟨by rfl, ?_⟩) (by assumption) ?_
                    rotate_left
                    · (intro w hSw; (try dsimp only at hSw); (try simp only [List.getElem_toArray, List.getElem_cons_succ, List.getElem_cons_zero]); first | (go_simp; done) | (go_simp; with_reducible rfl))
                    try simp only [Act.put, List.getElem_toArray, List.getElem_cons_succ, List.getElem_cons_zero, List.setIfInBounds_toArray, List.set_cons_zero, List.set_cons_succ]
                    refine AnyZ.take (i := 1) (oi := ⟨_, _, _, _, _, _⟩) (v := ?_) rfl (by kernel_rfl) (by kernel_rfl) (by kernel_rfl) (by kernel_rfl) (fun _ _ _ h => h) (Or.inl ⟨by rfl, ?_⟩) (by assumption) ?_
                    rotate_left
                    · (intro w hSw; (try dsimp only at hSw); (try simp only [List.getElem_toArray, List.getElem_cons_succ, List.getElem_cons_zero]); first | (go_simp; done) | (go_simp; with_reducible rfl))
                    try simp only [Act.put, List.getElem_toArray, List.getElem_cons_succ, List.getElem_cons_zero, List.setIfInBounds_toArray, List.set_cons_zero, List.set_cons_succ]
                    refine AnyZ.take (i := 2) (oi := ⟨_, _, _, _, _, _⟩) (v := ?_) rfl (by kernel_rfl) (by kernel_rfl) (by kernel_rfl) (by kernel_rfl) (fun _ _ _ h => h) (Or.inl ⟨by rfl, ?_⟩) (by assumption) ?_
                    rotate_left
                    · (intro w hSw; (try dsimp only at hSw); (try simp only [List.getElem_toArray, List.getElem_cons_succ, List.getElem_cons_zero]); first | (go_simp; done) | (go_simp; with_reducible rfl))
                    try simp only [Act.put, List.getElem_toArray, List.getElem_cons_succ, List.getElem_cons_zero, List.setIfInBounds_toArray, List.set_cons_zero, List.set_cons_succ]
                    refine AnyZ.take (i := 3) (oi := ⟨_, _, _, _, _, _⟩) (v := ?_) rfl (by kernel_rfl) (by kernel_rfl) (by kernel_rfl) (by kernel_rfl) (fun _ _ _ h => h) (Or.inl ⟨by rfl, ?_⟩) (by assumption) ?_
                    rotate_left
                    · (intro w hSw; (try dsimp only at hSw); (try simp only [List.getElem_toArray, List.getElem_cons_succ, List.getElem_cons_zero]); first | (go_simp; done) | (go_simp; with_reducible rfl))
                    try simp only [Act.put, List.getElem_toArray, List.getElem_cons_succ, List.getElem_cons_zero, List.setIfInBounds_toArray, List.set_cons_zero, List.set_cons_succ]
                    refine AnyZ.take (i := 4) (oi := ⟨_, _, _, _, _, _⟩) (v := ?_) rfl (by kernel_rfl) (by kernel_rfl) (by kernel_rfl) (by kernel_rfl) (fun _ _ _ h => h) (Or.inl ⟨by rfl, ?_⟩) (by assumption) ?_
                    rotate_left
                    · (intro w hSw; (try dsimp only at hSw); (try simp only [List.getElem_toArray, List.getElem_cons_succ, List.getElem_cons_zero]); first | (go_simp; done) | (go_simp; with_reducible rfl))
                    try simp only [Act.put, List.getElem_toArray, List.getElem_cons_succ, List.getElem_cons_zero, List.setIfInBounds_toArray, List.set_cons_zero, List.set_cons_succ]
                    refine AnyZ.take (i := 5) (oi := ⟨_, _, _, _, _, _⟩) (v := ?_) rfl (by kernel_rfl) (by kernel_rfl) (by kernel_rfl) (by kernel_rfl) (fun _ _ _ h => h) (Or.inl ⟨by rfl, ?_⟩) (by assumption) ?_
                    rotate_left
                    · (intro w hSw; (try dsimp only at hSw); (try simp only [List.getElem_toArray, List.getElem_cons_succ, List.getElem_cons_zero]); first | (go_simp; done) | (go_simp; with_reducible rfl))
                    try simp only [Act.put, List.getElem_toArray, List.getElem_cons_succ, List.getElem_cons_zero, List.setIfInBounds_toArray, List.set_cons_zero, List.set_cons_succ]
                    refine AnyZ.take (i := 6) (oi := ⟨_, _, _, _, _, _⟩) (v := ?_) rfl (by kernel_rfl) (by kernel_rfl) (by kernel_rfl) (by kernel_rfl) (fun _ _ _ h => h) (Or.inl ⟨by rfl, ?_⟩) (by assumption) ?_
                    rotate_left
                    · (intro w hSw; (try dsimp only at hSw); (try simp only [List.getElem_toArray, List.getElem_cons_succ, List.getElem_cons_zero]); first | (go_simp; done) | (go_simp; with_reducible rfl))
                    try simp only [Act.put, List.getElem_toArray, List.getElem_cons_succ, List.getElem_cons_zero, List.setIfInBounds_toArray, List.set_cons_zero, List.set_cons_succ]
                    refine AnyZ.take (i := 7) (oi := ⟨_, _, _, _, _, _⟩) (v := ?_) rfl (by kernel_rfl) (by kernel_rfl) (by kernel_rfl) (by kernel_rfl) (fun _ _ _ h => h) (Or.inl ⟨by rfl, ?_⟩) (by assumption) ?_
                    rotate_left
                    · (intro w hSw; (try dsimp only at hSw); (try simp only [List.getElem_toArray, List.getElem_cons_succ, List.getElem_cons_zero]); first | (go_simp; done) | (go_simp; with_reducible rfl))
                    try simp only [Act.put, List.getElem_toArray, List.getElem_cons_succ, List.getElem_cons_zero, List.setIfInBounds_toArray, List.set_cons_zero, List.set_cons_succ]
                    refine AnyZ.take (i := 8) (oi := ⟨_, _, _, _, _, _⟩) (v := ?_) rfl (by kernel_rfl) (by kernel_rfl) (by kernel_rfl) (by kernel_rfl) (fun _ _ _ h => h) (Or.inl ⟨by rfl, ?_⟩) (by assumption) ?_
                    rotate_left
                    · (intro w hSw; (try dsimp only at hSw); (try simp only [List.getElem_toArray, List.getElem_cons_succ, List.getElem_cons_zero]); first | (go_simp; done) | (go_simp; with_reducible rfl))
                    try simp only [Act.put, List.getElem_toArray, List.getElem_cons_succ, List.getElem_cons_zero, List.setIfInBounds_toArray, List.set_cons_zero, List.set_cons_succ]
                    refine AnyZ.take (i := 9) (oi := ⟨_, _, _, _, _, _⟩) (v := ?_) rfl (by kernel_rfl) (by kernel_rfl) (by kernel_rfl) (by kernel_rfl) (fun _ _ _ h => h) (Or.inl ⟨by rfl, ?_⟩) (by assumption) ?_
                    rotate_left
                    · (intro w hSw; (try dsimp only at hSw); (try simp only [List.getElem_toArray, List.getElem_cons_succ, List.getElem_cons_zero]); first | (go_simp; done) | (go_simp; with_reducible rfl))
                    try simp only [Act.put, List.getElem_toArray, List.getElem_cons_succ, List.getElem_cons_zero, List.setIfInBounds_toArray, List.set_cons_zero, List.set_cons_succ]
                    refine AnyZ.take (i := 10) (oi := ⟨_, _, _, _, _, _⟩) (v := ?_) rfl (by kernel_rfl) (by kernel_rfl) (by kernel_rfl) (by kernel_rfl) (fun _ _ _ h => h) (Or.inl ⟨by rfl, ?_⟩) (by assumption) ?_
                    rotate_left
                    · (intro w hSw; (try dsimp only at hSw); (try simp only [List.getElem_toArray, List.getElem_cons_succ, List.getElem_cons_zero]); first | (go_simp; done) | (go_simp; with_reducible rfl))
                    try simp only [Act.put, List.getElem_toArray, List.getElem_cons_succ, List.getElem_cons_zero, List.setIfInBounds_toArray, List.set_cons_zero, List.set_cons_succ]
                    refine AnyZ.take (i := 11) (oi := ⟨_, _, _, _, _, _⟩) (v := ?_) rfl (by kernel_rfl) (by kernel_rfl) (by kernel_rfl) (by kernel_rfl) (fun _ _ _ h => h) (Or.inl ⟨by rfl, ?_⟩) (by assumption) ?_
                    rotate_left
                    · (intro w hSw; (try dsimp only at hSw); (try simp only [List.getElem_toArray, List.getElem_cons_succ, List.getElem_cons_zero]); first | (go_simp; done) | (go_simp; with_reducible rfl))
                    try simp only [Act.put, List.getElem_toArray, List.getElem_cons_succ, List.getElem_cons_zero, List.setIfInBounds_toArray, List.set_cons_zero, List.set_cons_succ]
                    refine AnyZ.take (i := 12) (oi := ⟨_, _, _, _, _, _⟩) (v := ?_) rfl (by kernel_rfl) (by kernel_rfl) (by kernel_rfl) (by kernel_rfl) (fun _ _ _ h => h) (Or.inl ⟨by rfl, ?_⟩) (by assumption) ?_
                    rotate_left
                    · (intro w hSw; (try dsimp only at hSw); (try simp only [List.getElem_toArray, List.getElem_cons_succ, List.getElem_cons_zero]); first | (go_simp; done) | (go_simp; with_reducible rfl))
                    try simp only [Act.put, List.getElem_toArray, List.getElem_cons_succ, List.getElem_cons_zero, List.setIfInBounds_toArray, List.set_cons_zero, List.set_cons_succ]
                    refine AnyZ.take (i := 13) (oi := ⟨_, _, _, _, _, _⟩) (v := ?_) rfl (by kernel_rfl) (by kernel_rfl) (by kernel_rfl) (by kernel_rfl) (fun _ _ _ h => h) (Or.inl ⟨by rfl, ?_⟩) (by assumption) ?_
                    rotate_left
                    · (intro w hSw; (try dsimp only at hSw); (try simp only [List.getElem_toArray, List.getElem_cons_succ, List.getElem_cons_zero]); first | (go_simp; done) | (go_simp; with_reducible rfl))
                    try simp only [Act.put, List.getElem_toArray, List.getElem_cons_succ, List.getElem_cons_zero, List.setIfInBounds_toArray, List.set_cons_zero, List.set_cons_succ]
                    refine AnyZ.step (i := 14) (o := ⟨_, _, _, _, _, _⟩) (by kernel_rfl) rfl (fun K hK => ?_)
                    go_simp
                    refine hK.out _ _ (fun h => absurd rfl h) (fun _ => ?_)
                    clear hK K
                    try simp only [Act.put, List.getElem_toArray, List.getElem_cons_succ, List.getElem_cons_zero, List.setIfInBounds_toArray, List.set_cons_zero, List.set_cons_succ]
                    refine AnyZ.done (by kernel_rfl) ?_ _
                    clear hv1 hv2
                    go_wp2_with fail
                    go_roundw
                    case rel =>
                      have HST : ∀ i : Nat, (if i = x then G - 1 else if i = lf then 0 else f (i : Int)) = stepF f (lf : Int) (x : Int) (i : Int) := fun i => by
                        rw [← HG.out]
                        unfold stepF
                        by_cases e1 : i = x
                        · subst e1
                          by_cases e2 : i = lf
                          · subst e2; simp
                          · have e3 : ¬ ((i : Int) = (lf : Int)) := by omega
                            simp [e2, e3]
                        · have e4 : ¬ ((i : Int) = (x : Int)) := by omega
                          by_cases e2 : i = lf
                          · subst e2; simp [e1, e4]
                          · have e3 : ¬ ((i : Int) = (lf : Int)) := by omega
                            simp [e1, e2, e3, e4]
                      have hrow9 : RowG (W8.drew.setCell ⟨w.heap.size + 1, x, none⟩ (.int .i64 (G - 1))) (w.heap.size + 1) 3 k (fun i => stepF f (lf : Int) (x : Int) (i : Int)) := (RowG.put (w := W8.drew) ⟨HROW8.out.blk⟩ hxm (G - 1)).congr (fun i _ => HST i)
                      exact ⟨q + 1, stepF f (lf : Int) (x : Int), putL out (mkP lf x), g7, c7, by omega, by go_num, rfl, HNX.out, stepF_bd HFB.out, hrow9, RC.keepb (w := W8) (by have h9 := HRC8.out; exact h9.more (by simp [World.setCell])) (Below.heap_setCell _ _ _ _ (by simp; omega)), by rw [putL_len, HOL.out], HM7.out.1, HM7.out.2, hg8, (HB8.out.drew).setCell (p := ⟨w.heap.size + 1, x, none⟩) (by simp) _, by have h9 := HROW8.out.lt; simp [World.setCell]; omega⟩
                    case measure => (simp [intOf]) <;> omega
              · obtain rfl : q = c.length := by omega
                obtain ⟨h1, hlb2, hLTe⟩ := treeGo_end (by have := HGO.out; rw [List.drop_length] at this; exact this)
                obtain ⟨la, hlae⟩ : ∃ la, leafOf k f = la := ⟨_, rfl⟩
                obtain ⟨hne, hone⟩ := leafOf_at hlae (by omega)
                rw [hlae] at h1 hlb2 hLTe
                obtain ⟨lb, hlbe⟩ : ∃ lb, leafFrom f (k - la - 1) (la + 1) = lb := ⟨_, rfl⟩
                rw [hlbe] at hlb2 hLTe
                have HLB := Lib.hid hlbe
                have HLT := Lib.hid hLTe
                have HNE : Hid (∀ j : Nat, 0 ≤ j → j < la → f (j : Int) ≠ 1) := fun j _ hj => hne j hj
                have HONE := Lib.hid hone
                clear hlae hne hone hlbe hLTe
                go_wp2_with fail
                go_loopw [12] (fun vj w9 => ∃ j : Nat, vj = .int .i64 (j : Int) ∧ 0 ≤ j ∧ j ≤ la ∧ w9 = wr) (fun vj _ => la - (intOf vj).toNat)
                case atStart => exact ⟨0, by first | rfl | go_num, Nat.le_refl _, by omega, rfl⟩
                case round =>
                  obtain ⟨j, rfl, hjlo, hj, rfl⟩ := hrel
                  have hjm : j < k := by omega
                  have cj := HROW.out.cell hjm
                  have hj0 : (0 : Int) ≤ (j : Int) := by omega
                  have hj1 : (j : Int) < (k : Int) := by omega
                  by_cases hjl : j < la
                  · have e1 : (f (j : Int) != 1) = true := by rw [bne_iff_ne]; exact HNE.out j hjlo hjl
                    go_wp2_with fail
                    go_roundw
                    case rel => exact ⟨j + 1, by go_num, by omega, by omega, by first | rfl | trivial⟩
                    case measure => (simp [intOf]) <;> omega
                  · have HJE : Hid (j = la) := by show _ = _; omega
                    have e1 : (f (j : Int) != 1) = false := by rw [bne_eq_false_iff_eq, HJE.out]; exact HONE.out
                    go_wp2_with fail
                    clear e1
                    have hjle : la = j := HJE.out.symm
                    clear cj HJE
                    subst hjle
                    have hla := hjm
                    clear HNE HONE hjlo hj hjl hj0 hj1 hjm
                    obtain ⟨hb1, hb2, hb3⟩ := leafFrom_at HLB.out hla hlb2
                    have HNE : Hid (∀ j' : Nat, la + 1 ≤ j' → j' < lb → f j' ≠ 1) := hb2
                    have HONE : Hid (f (lb : Int) = 1) := hb3
                    clear hb2 hb3
                    go_wp2_with fail
                    go_loopw [13] (fun vj w9 => ∃ j : Nat, vj = .int .i64 (j : Int) ∧ la + 1 ≤ j ∧ j ≤ lb ∧ w9 = wr) (fun vj _ => lb - (intOf vj).toNat)
                    case atStart => exact ⟨la + 1, by first | rfl | go_num, Nat.le_refl _, by omega, rfl⟩
                    case round =>
                      obtain ⟨j, rfl, hjlo, hj, rfl⟩ := hrel
                      have hjm : j < k := by omega
                      have cj := HROW.out.cell hjm
                      have hj0 : (0 : Int) ≤ (j : Int) := by omega
                      have hj1 : (j : Int) < (k : Int) := by omega
                      by_cases hjl : j < lb
                      · have e1 : (f (j : Int) != 1) = true := by rw [bne_iff_ne]; exact HNE.out j hjlo hjl
                        go_wp2_with fail
                        go_roundw
                        case rel => exact ⟨j + 1, by go_num, by omega, by omega, by first | rfl | trivial⟩
                        case measure => (simp [intOf]) <;> omega
                      · have HJE : Hid (j = lb) := by show _ = _; omega
                        have e1 : (f (j : Int) != 1) = false := by rw [bne_eq_false_iff_eq, HJE.out]; exact HONE.out
                        go_wp2_with fail
                        clear e1
                        have hjle : lb = j := HJE.out.symm
                        clear cj HJE
                        subst hjle
                        refine (HPUT.out (la : Int) (lb : Int)).mono ?_; rintro e7 w7 ⟨A7, c7, rfl, hown7, hb7⟩
                        have HB7 := Lib.hid hb7
                        have HO7 := Lib.hid hown7
                        clear hb7 hown7
                        go_wp2_with fail
                        refine bodyPost_ret (v := .tuple #[.slice A7 (putL out (mkP la lb)).length c7, .bool true]) (by simp [results, Tryd.results21, go_sem]) rfl ?_
                        rw [HLT.out]
                        exact ⟨A7, c7, rfl, own_base HO7.out HB.out.size, bstep (B := w.heap.size) (W := w) HB.out HB.out.size HB7.out⟩
theorem sTreeOfCode_any (n : Int) (Ar : Option Addr) (cr : Nat) (c : List Int) (w : World) (hi : RI w w.heap.size Ar c) (hlm : c.length ≤ 1073741824) :
    Calls Tryd.prog 21 #[.int .i64 n, .slice Ar c.length cr] w (NewCuts (treeOfCode n c) w) := (sTreeOfCode_own n Ar cr c w hi hlm).mono fun _ _ h => h.cuts
end Go.Proofs.YtimccjmphdkbjaaDoor
namespace Go.Proofs.YtimccjmphdkbjaaDoor
open Go.ChangeShapes Go.WideShapes Go.ChangeAt Go.RowKit

/-- new memory that holds a code, if it is told -/
def NewCode (o : Option (List Int)) (w : World) (en : Ending) (w' : World) : Prop := match o with
  | none => ∃ A1 c1, en = .returned (.tuple #[.slice A1 0 c1, .bool false]) ∧ Below w.heap.size w w'
  | some L => ∃ A1 c1 lo hi, en = .returned (.tuple #[.slice A1 L.length c1, .bool true]) ∧ RowF w' lo hi A1 L.length (fun j => L.getD j 0) ∧ w.heap.size ≤ lo ∧ Below w.heap.size w w'
theorem below_app3 {w0 W w3 : World} {base size n : Nat} {e : TypeId} {v : Value} {xs : List Value} (h : Below w0.heap.size w0 W) (hg : W.grownBy w3 v.ownBlock) (ho : W.ownsRow base e size v n xs) (hB : w0.heap.size ≤ base) : Below w0.heap.size w0 w3 :=
  ⟨hg.os.trans h.os, hg.tape.trans h.tape, hg.output.trans h.output, Nat.le_trans h.size hg.size, fun k hk => (hg.block k (Nat.lt_of_lt_of_le hk h.size) (fun e9 => by have := (ho.lt k e9.symm).1; omega)).trans (h.block k hk)⟩
theorem codeOf_none {n : Int} {L : List (Int × Int)} (h : linksOk n L = false) : codeOf n L = none := by unfold codeOf; rw [h]; rfl
theorem codeGo_stop {m g : Nat} {L : List (Int × Int)} {out c : List Int} (h : codeGo m g L out = some c) (hl : L.length ≤ 1) : out = c := by
  cases g with
  | zero => unfold codeGo at h; rw [if_pos hl] at h; exact Option.some.inj h
  | succ g => unfold codeGo at h; rw [if_pos hl] at h; exact Option.some.inj h
theorem codeGo_go {m g : Nat} {L : List (Int × Int)} {out c : List Int} (h : codeGo m g L out = some c) (hl : ¬ L.length ≤ 1) : ∃ g', g = g' + 1 ∧ leafOf m (degL L) < m ∧ codeGo m g' (nextL L (leafOf m (degL L))) (out ++ outL L (leafOf m (degL L))) = some c := by
  cases g with
  | zero => unfold codeGo at h; rw [if_neg hl] at h; cases h
  | succ g =>
    unfold codeGo at h
    rw [if_neg hl] at h
    by_cases h9 : leafOf m (degL L) < m
    · rw [if_pos h9] at h; exact ⟨g, rfl, h9, h⟩
    · rw [if_neg h9] at h; cases h
theorem nextL_mem {L : List (Int × Int)} {l : Int} {p : Int × Int} (h : p ∈ nextL L l) : p ∈ L := (List.mem_filter.1 h).1
theorem nextL_len (L : List (Int × Int)) (l : Int) : (nextL L l).length ≤ L.length := List.length_filter_le _ _
theorem outL_len (L : List (Int × Int)) (l : Int) : (outL L l).length ≤ L.length := List.length_filterMap_le _ _
theorem take_deg0 (L : List (Int × Int)) (v : Int) : degL (L.take 0) v = 0 := rfl
set_option maxRecDepth 100000 in
set_option maxHeartbeats 8000000 in
theorem sCodeOf_any (n : Int) (Ap : Option Addr) (cp : Nat) (L : List (Int × Int)) (w : World) (hp : RC w w.heap.size Ap L) (hpm : L.length ≤ 1073741824) :
    Calls Tryd.prog 14 #[.int .i64 n, .slice Ap L.length cp] w (NewCode (codeOf n L) w) := by
  have HP := Lib.hid hp
  clear hp
  cases hok : linksOk n L
  · have HOK := Lib.hid hok
    rw [codeOf_none hok]
    unfold NewCode
    clear hok
    go_enter Tryd.func14, Tryd.ntmps14
    go_wp2_with fail
    refine (sLinksOk_any n Ap cp L _ (HP.out.later (by go_grown)) hpm).mono ?_; rintro e1 w1 ⟨rfl, hb1⟩; rw [HOK.out]
    have HB1 := Lib.hid (bstep (B := w.heap.size) (W := w) (by go_grown) (by go_size) hb1)
    clear hb1
    go_wp2_with fail
    refine bodyPost_ret (v := .tuple #[.slice (some ⟨w.heap.size, 0, none⟩) 0 0, .bool false]) (by simp [results, Tryd.results14, go_sem]) rfl ?_
    exact ⟨some ⟨w.heap.size, 0, none⟩, 0, rfl, HB1.out⟩
  · obtain ⟨m, rfl, h2, h6, hsh, -⟩ := linksOk_t hok
    obtain ⟨c, hco, hgo, -⟩ := code_of_tree hok
    have HOK := Lib.hid hok
    have HGO := Lib.hid hgo
    have hll := (shape_at hsh).1
    have hl5 : L.length ≤ 5 := by omega
    have hl1 : 0 < L.length := by omega
    have HIL : Hid (∀ p, p ∈ L → InP m p) := fun p hp => shape_in hsh hp
    rw [hco]
    clear hok hsh hco hgo hll
    obtain ⟨⟨za, zb⟩, hz9⟩ : ∃ x, L[0]? = some x := ⟨_, List.getElem?_eq_getElem hl1⟩
    obtain ⟨bq, oq, rfl, hBq, -, -⟩ := HP.out 0 _ hz9
    clear hz9
    obtain ⟨i0, hi0, hz0, hz1', hz2⟩ := info_parts infoPr
    obtain ⟨i1, hi1, hy0, hy1, hy2⟩ := info_parts infoInt
    have hmk := fun W => mkInts' W m h6
    go_enter Tryd.func14, Tryd.ntmps14
    go_wp2_with fail
    refine (sLinksOk_any (m : Int) (some ⟨bq, oq, none⟩) cp L _ (HP.out.later (by go_grown)) hpm).mono ?_; rintro e1 w1 ⟨rfl, hb1⟩; rw [HOK.out]
    have HOI : Hid (w1.ownsRow w.heap.size 3 1 (.slice (some ⟨w.heap.size, 0, none⟩) 0 0) 0 (rlCells [])) := ⟨rfl, .inr ⟨w.heap.size, 0, #[], rfl, Nat.le_refl _, (hb1.block w.heap.size (by simp)).trans (heap_alloc_new w _), Nat.le_refl _, Nat.zero_le _, rfl, rfl⟩⟩
    have hs1 : w.heap.size < w1.heap.size := by have := hb1.size; simp at this; omega
    have HB1 := Lib.hid (bstep (B := w.heap.size) (W := w) (by go_grown) (by go_size) hb1)
    have HP1 := Lib.hid (HP.out.later HB1.out)
    clear hb1
    have hon5 : Hid ((w1.alloc (.cells #[] 28)).ownsRow w1.heap.size 28 2 (.slice (some ⟨w1.heap.size, 0, none⟩) 0 0) 0 []) := ⟨rfl, .inr ⟨w1.heap.size, 0, #[], rfl, Nat.le_refl _, heap_alloc_new _ _, Nat.le_refl _, Nat.zero_le _, rfl, rfl⟩⟩
    have hnw5 := Lib.hid (RC.news (RC.later HP1.out ((Below.refl w1.heap.size w1).alloc (Nat.le_refl _) (.cells #[] 28))))
    go_wp2_with (at_builtin; refine wpList_append_copy rfl _ _ _ rfl w1.heap.size 28 i0 _ 2 16 Tryd.underlying23 hi0 hz0 hz1' hz2 rfl (by decide) (.slice (some ⟨w1.heap.size, 0, none⟩) 0 0) rfl hon5.out ⟨bq, oq, none⟩ L.length cp (ctCells L) rfl (ctCells_len L) hnw5.out (ctCells_one _) (by unfold maxLen; omega) (by omega) (by simp) ?_; intro A5 c5 w5 hown5 hg5; have hb5 := below_grow ((Below.refl w1.heap.size w1).alloc (Nat.le_refl _) _) hg5 (Nat.le_refl _); have HB5 := Lib.hid hb5; have HO5 := Lib.hid hown5; clear hown5 hg5 hb5)
    obtain ⟨bl0, hbl0, hbl1, hbl2⟩ := own_some HO5.out hl1
    subst hbl0
    have HRC5 := Lib.hid (rc_of_own HO5.out)
    have HOI5 : Hid (w5.ownsRow w.heap.size 3 1 (.slice (some ⟨w.heap.size, 0, none⟩) 0 0) 0 (rlCells [])) := HOI.out.kept (row := none) ⟨HB5.out.os, HB5.out.tape, HB5.out.output, HB5.out.size, fun i hi _ => HB5.out.block i hi⟩ (.inr (by simp [Value.ownBlock]))
    have HB55 : Hid (Below w.heap.size w w5) := bstep (B := w.heap.size) (W := w) HB1.out HB1.out.size HB5.out
    have hs5 := HB5.out.size
    clear hon5 hnw5 HO5 HOI HP1
    (try go_wp2_with fail)
    go_loopg [6, 7] 6 (fun g vo vl wr => ∃ (left : List (Int × Int)) (out : List Int) (bl cl g0 co : Nat), codeGo m g left out = some c ∧ vl = .slice (some ⟨bl, 0, none⟩) left.length cl ∧ vo = .slice (some ⟨g0, 0, none⟩) out.length co ∧ (∀ p, p ∈ left → InP m p) ∧ RC wr wr.heap.size (some ⟨bl, 0, none⟩) left ∧ left.length ≤ 5 ∧ wr.ownsRow w.heap.size 3 1 (.slice (some ⟨g0, 0, none⟩) out.length co) out.length (rlCells out) ∧ out.length + 6 * g ≤ 36 ∧ g0 ≠ bl ∧ bl < wr.heap.size ∧ g0 < wr.heap.size ∧ Below w.heap.size w wr)
    case atStart => exact ⟨L, [], bl0, c5, w.heap.size, 0, HGO.out, rfl, rfl, HIL.out, HRC5.out, hl5, HOI5.out, by simp, by omega, hbl2, by omega, HB55.out⟩
    case round =>
      clear HGO HIL HRC5 HOI5 HB55 HB1 HB5 hbl1 hbl2
      obtain ⟨left, out, bl, cl, g0, co, hgo, rfl, rfl, hinp, hrc, hl5', how, hol, hgb, hblw, hg0w, hb⟩ := hrel
      obtain ⟨W, hW⟩ : ∃ W, W = wr := ⟨_, rfl⟩
      subst hW
      have HINP := Lib.hid hinp
      have HRC := Lib.hid hrc
      have HOWN := Lib.hid how
      have HOL := Lib.hid hol
      have HB := Lib.hid hb
      have HGO := Lib.hid hgo
      clear hgo hinp hrc how hol hb
      by_cases hl : left.length ≤ 1
      · have hli : ¬ (1 : Int) < (left.length : Int) := by omega
        have HE := Lib.hid (codeGo_stop HGO.out hl)
        clear hl
        go_wp2_with fail
        refine bodyPost_ret (v := .tuple #[.slice (some ⟨g0, 0, none⟩) out.length co, .bool true]) (by simp [results, Tryd.results14, go_sem]) rfl ?_
        rw [← HE.out]
        exact (show NewCode (some out) w _ _ from ⟨some ⟨g0, 0, none⟩, co, w.heap.size, W.heap.size, rfl, rowF_of_own HOWN.out (fun j hj => rlCells_at hj), Nat.le_refl _, HB.out⟩)
      · have hli : (1 : Int) < (left.length : Int) := by omega
        obtain ⟨g', hge, hlf, hnx⟩ := codeGo_go HGO.out hl
        have HGE := Lib.hid hge
        obtain ⟨lf, hlfe⟩ : ∃ lf, leafOf m (degL left) = lf := ⟨_, rfl⟩
        rw [hlfe] at hlf hnx
        have HLF := Lib.hid hlfe
        have HNX := Lib.hid hnx
        have HROW0 : Hid (RowG (W.alloc (.cells (Array.replicate m (.int .i64 0)) 3)) W.heap.size 3 m (fun i => degL (left.take 0) (i : Int))) := RowG.made W 3 m
        clear hl hlfe hnx hge
        go_wp2_with fail
        clear hli
        go_loopw [9] (fun i wr => ∃ k : Nat, k ≤ left.length ∧ i = .int .i64 (k : Int) ∧ RowG wr W.heap.size 3 m (fun i => degL (left.take k) (i : Int)) ∧ Below W.heap.size W wr) (fun i _ => left.length - (intOf i).toNat)
        case atStart => exact ⟨0, Nat.zero_le _, rfl, HROW0.out, (Below.refl _ _).alloc (Nat.le_refl _) _⟩
        case round =>
          clear HROW0
          obtain ⟨k, hk, rfl, hrow, hb⟩ := hrel
          have HROW := Lib.hid hrow
          have HBW := Lib.hid hb
          have hk0 : (0 : Int) ≤ (k : Int) := by omega
          by_cases hlk : k < left.length
          · have hk1 : (k : Int) < (left.length : Int) := by omega
            obtain ⟨⟨ia, ib⟩, hx⟩ : ∃ x, left[k]? = some x := ⟨_, List.getElem?_eq_getElem hlk⟩
            obtain ⟨x0, x1, x2⟩ := HINP.out _ (List.mem_of_getElem? hx)
            simp only at x0 x1 x2
            obtain ⟨pa, rfl⟩ := Int.eq_ofNat_of_zero_le x0
            obtain ⟨pb, rfl⟩ := Int.eq_ofNat_of_zero_le (show 0 ≤ ib by omega)
            have ham : pa < m := by omega
            have hbm : pb < m := by omega
            have hab : pb ≠ pa := by omega
            obtain ⟨b', o', e9, hB', c0, c1⟩ := (HRC.out.below hb) k _ hx
            injection e9 with e9; injection e9 with e91 e92; subst e91; subst e92
            simp only [Nat.zero_add] at c0 c1
            have HSTEP : Hid (∀ v : Int, degL (left.take (k + 1)) v = degL (left.take k) v + ((if (pa : Int) = v then 1 else 0) + (if (pb : Int) = v then 1 else 0))) := fun v => degL_take hx v
            have hdb : ∀ v : Int, 0 ≤ degL (left.take k) v ∧ degL (left.take k) v ≤ 10 := fun v => by
              have := degL_bd (left.take k) v
              have h9 : (left.take k).length ≤ 5 := by rw [List.length_take]; omega
              omega
            obtain ⟨FA, hFA⟩ : ∃ F, degL (left.take k) (pa : Int) = F := ⟨_, rfl⟩
            obtain ⟨FB, hFB⟩ : ∃ F, degL (left.take k) (pb : Int) = F := ⟨_, rfl⟩
            have hba := hdb (pa : Int)
            have hbb := hdb (pb : Int)
            rw [hFA] at hba
            rw [hFB] at hbb
            have HFA := Lib.hid hFA
            have HFB := Lib.hid hFB
            have q0 : wr.cell? ⟨W.heap.size, pa, none⟩ = some (.int .i64 FA) := by rw [← hFA]; exact hrow.cell ham
            have qf := hrow.frozen pa
            have HV1 : Hid (IntKind.i64.wrap (FA + 1) = FA + 1) := IntWalk.i64_in _ ⟨by omega, by omega⟩
            have HV2 : Hid (wrap64 (FA + 1) = FA + 1) := IntWalk.wrap64_in _ ⟨by omega, by omega⟩
            have HV3 : Hid (IntKind.i64.wrap (FB + 1) = FB + 1) := IntWalk.i64_in _ ⟨by omega, by omega⟩
            have HV4 : Hid (wrap64 (FB + 1) = FB + 1) := IntWalk.wrap64_in _ ⟨by omega, by omega⟩
            have HC1 := Lib.hid c1
            clear hrow hb hx hFA hFB hba hbb hdb x0 x1 x2 c1
            have hv1 := HV1.out
            have hv2 := HV2.out
            go_wp2_with fail
            refine AnyZ.region (S := (fun w' => w'.cell? ⟨bl, k * 2, none⟩ = some (.int .i64 (pa : Int)) ∧ w'.cell? ⟨W.heap.size, pa, none⟩ = some (.int .i64 FA))) (z := 16) (by kernel_rfl) ?_ (fun hHeld => ?_)
            · exact ⟨c0, q0⟩
            refine AnyZ.take (i := 0) (oi := ⟨_, _, _, _, _, _⟩) (v := ?_) rfl (by kernel_rfl) (by kernel_rfl) (by kernel_rfl) (by kernel_rfl) (fun _ _ _ h => h) (Or.inl ⟨by rfl, ?_⟩) (by assumption) ?_
            rotate_left
            · (intro w hSw; (try dsimp only at hSw); (try simp only [List.getElem_toArray, List.getElem_cons_succ, List.getElem_cons_zero]); first | (go_simp; done) | (go_simp; with_reducible rfl))
            try simp only [Act.put, List.getElem_toArray, List.getElem_cons_succ, List.getElem_cons_zero, List.setIfInBounds_toArray, List.set_cons_zero, List.set_cons_succ]
            refine AnyZ.take (i := 1) (oi := ⟨_, _, _, _, _, _⟩) (v := ?_) rfl (by kernel_rfl) (by kernel_rfl) (by kernel_rfl) (by kernel_rfl) (fun _ _ _ h => h) (Or.inl ⟨by rfl, ?_⟩) (by assumption) ?_
            rotate_left
            · (intro w hSw; (try dsimp only at hSw); (try simp only [List.getElem_toArray, List.getElem_cons_succ, List.getElem_cons_zero]); first | (go_simp; done) | (go_simp; with_reducible rfl))
            try simp only [Act.put, List.getElem_toArray, List.getElem_cons_succ, List.getElem_cons_zero, List.setIfInBounds_toArray, List.set_cons_zero, List.set_cons_succ]
            refine AnyZ.take (i := 2) (oi := ⟨_, _, _, _, _, _⟩) (v := ?_) rfl (by kernel_rfl) (by kernel_rfl) (by kernel_rfl) (by kernel_rfl) (fun _ _ _ h => h) (Or.inl ⟨by rfl, ?_⟩) (by assumption) ?_
            rotate_left
            · (intro w hSw; (try dsimp only at hSw); (try simp only [List.getElem_toArray, List.getElem_cons_succ, List.getElem_cons_zero]); first | (go_simp; done) | (go_simp; with_reducible rfl))
            try simp only [Act.put, List.getElem_toArray, List.getElem_cons_succ, List.getElem_cons_zero, List.setIfInBounds_toArray, List.set_cons_zero, List.set_cons_succ]
            refine AnyZ.take (i := 3) (oi := ⟨_, _, _, _, _, _⟩) (v := ?_) rfl (by kernel_rfl) (by kernel_rfl) (by kernel_rfl) (by kernel_rfl) (fun _ _ _ h => h) (Or.inl ⟨by rfl, ?_⟩) (by assumption) ?_
            rotate_left
            · (intro w hSw; (try dsimp only at hSw); (try simp only [List.getElem_toArray, List.getElem_cons_succ, List.getElem_cons_zero]); first | (go_simp; done) | (go_simp; with_reducible rfl))
            try simp only [Act.put, List.getElem_toArray, List.getElem_cons_succ, List.getElem_cons_zero, List.setIfInBounds_toArray, List.set_cons_zero, List.set_cons_succ]
            refine AnyZ.take (i := 4) (oi := ⟨_, _, _, _, _, _⟩) (v := ?_) rfl (by kernel_rfl) (by kernel_rfl) (by kernel_rfl) (by kernel_rfl) (fun _ _ _ h => h) (Or.inl ⟨by rfl, ?_⟩) (by assumption) ?_
            rotate_left
            · (intro w hSw; (try dsimp only at hSw); (try simp only [List.getElem_toArray, List.getElem_cons_succ, List.getElem_cons_zero]); first | (go_simp; done) | (go_simp; with_reducible rfl))
            try simp only [Act.put, List.getElem_toArray, List.getElem_cons_succ, List.getElem_cons_zero, List.setIfInBounds_toArray, List.set_cons_zero, List.set_cons_succ]
            refine AnyZ.take (i := 5) (oi := ⟨_, _, _, _, _, _⟩) (v := ?_) rfl (by kernel_rfl) (by kernel_rfl) (by kernel_rfl) (by kernel_rfl) (fun _ _ _ h => h) (Or.inl ⟨by rfl, ?_⟩) (by assumption) ?_
            rotate_left
            · (intro w hSw; (try dsimp only at hSw); (try simp only [List.getElem_toArray, List.getElem_cons_succ, List.getElem_cons_zero]); first | (go_simp; done) | (go_simp; with_reducible rfl))
            try simp only [Act.put, List.getElem_toArray, List.getElem_cons_succ, List.getElem_cons_zero, List.setIfInBounds_toArray, List.set_cons_zero, List.set_cons_succ]
            refine AnyZ.take (i := 6) (oi := ⟨_, _, _, _, _, _⟩) (v := ?_) rfl (by kernel_rfl) (by kernel_rfl) (by kernel_rfl) (by kernel_rfl) (fun _ _ _ h => h) (Or.inl ⟨by rfl, ?_⟩) (by assumption) ?_
            rotate_left
            · (intro w hSw; (try dsimp only at hSw); (try simp only [List.getElem_toArray, List.getElem_cons_succ, List.getElem_cons_zero]); first | (go_simp; done) | (go_simp; with_reducible rfl))
            try simp only [Act.put, List.getElem_toArray, List.getElem_cons_succ, List.getElem_cons_zero, List.setIfInBounds_toArray, List.set_cons_zero, List.set_cons_succ]
            refine AnyZ.take (i := 7) (oi := ⟨_, _, _, _, _, _⟩) (v := ?_) rfl (by kernel_rfl) (by kernel_rfl) (by kernel_rfl) (by kernel_rfl) (fun _ _ _ h => h) (Or.inl ⟨by rfl, ?_⟩) (by assumption) ?_
            rotate_left
            · (intro w hSw; (try dsimp only at hSw); (try simp only [List.getElem_toArray, List.getElem_cons_succ, List.getElem_cons_zero]); first | (go_simp; done) | (go_simp; with_reducible rfl))
            try simp only [Act.put, List.getElem_toArray, List.getElem_cons_succ, List.getElem_cons_zero, List.setIfInBounds_toArray, List.set_cons_zero, List.set_cons_succ]
            refine AnyZ.take (i := 8) (oi := ⟨_, _, _, _, _, _⟩) (v := ?_) rfl (by kernel_rfl) (by kernel_rfl) (by kernel_rfl) (by kernel_rfl) (fun _ _ _ h => h) (Or.inl ⟨by rfl, ?_⟩) (by assumption) ?_
            rotate_left
            · (intro w hSw; (try dsimp only at hSw); (try simp only [List.getElem_toArray, List.getElem_cons_succ, List.getElem_cons_zero]); first | (go_simp; done) | (go_simp; with_reducible rfl))
            try simp only [Act.put, List.getElem_toArray, List.getElem_cons_succ, List.getElem_cons_zero, List.setIfInBounds_toArray, List.set_cons_zero, List.set_cons_succ]
            refine AnyZ.take (i := 9) (oi := ⟨_, _, _, _, _, _⟩) (v := ?_) rfl (by kernel_rfl) (by kernel_rfl) (by kernel_rfl) (by kernel_rfl) (fun _ _ _ h => h) (Or.inl ⟨by rfl, ?_⟩) (by assumption) ?_
            rotate_left
            · (intro w hSw; (try dsimp only at hSw); (try simp only [List.getElem_toArray, List.getElem_cons_succ, List.getElem_cons_zero]); first | (go_simp; done) | (go_simp; with_reducible rfl))
            try simp only [Act.put, List.getElem_toArray, List.getElem_cons_succ, List.getElem_cons_zero, List.setIfInBounds_toArray, List.set_cons_zero, List.set_cons_succ]
            refine AnyZ.take (i := 10) (oi := ⟨_, _, _, _, _, _⟩) (v := ?_) rfl (by kernel_rfl) (by kernel_rfl) (by kernel_rfl) (by kernel_rfl) (fun _ _ _ h => h) (Or.inl ⟨by rfl, ?_⟩) (by assumption) ?_
            rotate_left
            · (intro w hSw; (try dsimp only at hSw); (try simp only [List.getElem_toArray, List.getElem_cons_succ, List.getElem_cons_zero]); first | (go_simp; done) | (go_simp; with_reducible rfl))
            try simp only [Act.put, List.getElem_toArray, List.getElem_cons_succ, List.getElem_cons_zero, List.setIfInBounds_toArray, List.set_cons_zero, List.set_cons_succ]
            refine AnyZ.take (i := 11) (oi := ⟨_, _, _, _, _, _⟩) (v := ?_) rfl (by kernel_rfl) (by kernel_rfl) (by kernel_rfl) (by kernel_rfl) (fun _ _ _ h => h) (Or.inl ⟨by rfl, ?_⟩) (by assumption) ?_
            rotate_left
            · (intro w hSw; (try dsimp only at hSw); (try simp only [List.getElem_toArray, List.getElem_cons_succ, List.getElem_cons_zero]); first | (go_simp; done) | (go_simp; with_reducible rfl))
            try simp only [Act.put, List.getElem_toArray, List.getElem_cons_succ, List.getElem_cons_zero, List.setIfInBounds_toArray, List.set_cons_zero, List.set_cons_succ]
            refine AnyZ.take (i := 12) (oi := ⟨_, _, _, _, _, _⟩) (v := ?_) rfl (by kernel_rfl) (by kernel_rfl) (by kernel_rfl) (by kernel_rfl) (fun _ _ _ h => h) (Or.inl ⟨by rfl, ?_⟩) (by assumption) ?_
            rotate_left
            · (intro w hSw; (try dsimp only at hSw); (try simp only [List.getElem_toArray, List.getElem_cons_succ, List.getElem_cons_zero]); first | (go_simp; done) | (go_simp; with_reducible rfl))
            try simp only [Act.put, List.getElem_toArray, List.getElem_cons_succ, List.getElem_cons_zero, List.setIfInBounds_toArray, List.set_cons_zero, List.set_cons_succ]
            refine AnyZ.take (i := 13) (oi := ⟨_, _, _, _, _, _⟩) (v := ?_) rfl (by kernel_rfl) (by kernel_rfl) (by kernel_rfl) (by kernel_rfl) (fun _ _ _ h => h) (Or.inl ⟨by rfl, ?_⟩) (by assumption) ?_
            rotate_left
            · (intro w hSw; (try dsimp only at hSw); (try simp only [List.getElem_toArray, List.getElem_cons_succ, List.getElem_cons_zero]); first | (go_simp; done) | (go_simp; with_reducible rfl))
            try simp only [Act.put, List.getElem_toArray, List.getElem_cons_succ, List.getElem_cons_zero, List.setIfInBounds_toArray, List.set_cons_zero, List.set_cons_succ]
            refine AnyZ.take (i := 14) (oi := ⟨_, _, _, _, _, _⟩) (v := ?_) rfl (by kernel_rfl) (by kernel_rfl) (by kernel_rfl) (by kernel_rfl) (fun _ _ _ h => h) (Or.inl ⟨by rfl, ?_⟩) (by assumption) ?_
            rotate_left
            · (intro w hSw; (try dsimp only at hSw); (try simp only [List.getElem_toArray, List.getElem_cons_succ, List.getElem_cons_zero]); first | (go_simp; done) | (go_simp; with_reducible rfl))
            try simp only [Act.put, List.getElem_toArray, List.getElem_cons_succ, List.getElem_cons_zero, List.setIfInBounds_toArray, List.set_cons_zero, List.set_cons_succ]
            refine AnyZ.take (i := 15) (oi := ⟨_, _, _, _, _, _⟩) (v := ?_) rfl (by kernel_rfl) (by kernel_rfl) (by kernel_rfl) (by kernel_rfl) (fun _ _ _ h => h) (Or.inl ⟨by rfl, ?_⟩) (by assumption) ?_
            rotate_left
            · (intro w hSw; (try dsimp only at hSw); (try simp only [List.getElem_toArray, List.getElem_cons_succ, List.getElem_cons_zero]); first | (go_simp; done) | (go_simp; with_reducible rfl))
            try simp only [Act.put, List.getElem_toArray, List.getElem_cons_succ, List.getElem_cons_zero, List.setIfInBounds_toArray, List.set_cons_zero, List.set_cons_succ]
            refine AnyZ.step (i := 16) (o := ⟨_, _, _, _, _, _⟩) (by kernel_rfl) rfl (fun K hK => ?_)
            go_simp
            refine hK.out _ _ (fun h => absurd rfl h) (fun _ => ?_)
            clear hK K
            try simp only [Act.put, List.getElem_toArray, List.getElem_cons_succ, List.getElem_cons_zero, List.setIfInBounds_toArray, List.set_cons_zero, List.set_cons_succ]
            refine AnyZ.done (by kernel_rfl) ?_ _
            clear hv1 hv2 c0 q0 qf
            have hrow9 : RowG (wr.setCell ⟨W.heap.size, pa, none⟩ (.int .i64 (FA + 1))) W.heap.size 3 m (fun i => if i = pa then FA + 1 else degL (left.take k) (i : Int)) := RowG.put (w := wr) HROW.out ham (FA + 1)
            have HBV : Hid (Below W.heap.size W (wr.setCell ⟨W.heap.size, pa, none⟩ (.int .i64 (FA + 1)))) := (HBW.out).setCell (p := ⟨W.heap.size, pa, none⟩) (Nat.le_refl _) _
            have c1 : (wr.setCell ⟨W.heap.size, pa, none⟩ (.int .i64 (FA + 1))).cell? ⟨bl, k * 2 + 1, none⟩ = some (.int .i64 (pb : Int)) := (World.cell?_of_block (w := wr) (Below.heap_setCell _ _ _ _ (by simp; omega))).trans HC1.out
            have HROW9 := Lib.hid hrow9
            have q1 : (wr.setCell ⟨W.heap.size, pa, none⟩ (.int .i64 (FA + 1))).cell? ⟨W.heap.size, pb, none⟩ = some (.int .i64 FB) := by
              have h9 := hrow9.cell hbm
              simp only [if_neg hab, HFB.out] at h9
              exact h9
            have qf := hrow9.frozen pb
            have hv3 := HV3.out
            have hv4 := HV4.out
            clear hrow9
            go_wp2_with fail
            refine AnyZ.region (S := (fun w' => w'.cell? ⟨bl, k * 2 + 1, none⟩ = some (.int .i64 (pb : Int)) ∧ w'.cell? ⟨W.heap.size, pb, none⟩ = some (.int .i64 FB))) (z := 16) (by kernel_rfl) ?_ (fun hHeld => ?_)
            · exact ⟨c1, q1⟩
            refine AnyZ.take (i := 0) (oi := ⟨_, _, _, _, _, _⟩) (v := ?_) rfl (by kernel_rfl) (by kernel_rfl) (by kernel_rfl) (by kernel_rfl) (fun _ _ _ h => h) (Or.inl ⟨by rfl, ?_⟩) (by assumption) ?_
            rotate_left
            · (intro w hSw; (try dsimp only at hSw); (try simp only [List.getElem_toArray, List.getElem_cons_succ, List.getElem_cons_zero]); first | (go_simp; done) | (go_simp; with_reducible rfl))
            try simp only [Act.put, List.getElem_toArray, List.getElem_cons_succ, List.getElem_cons_zero, List.setIfInBounds_toArray, List.set_cons_zero, List.set_cons_succ]
            refine AnyZ.take (i := 1) (oi := ⟨_, _, _, _, _, _⟩) (v := ?_) rfl (by kernel_rfl) (by kernel_rfl) (by kernel_rfl) (by kernel_rfl) (fun _ _ _ h => h) (Or.inl ⟨by rfl, ?_⟩) (by assumption) ?_
            rotate_left
            · (intro w hSw; (try dsimp only at hSw); (try simp only [List.getElem_toArray, List.getElem_cons_succ, List.getElem_cons_zero]); first | (go_simp; done) | (go_simp; with_reducible rfl))
            try simp only [Act.put, List.getElem_toArray, List.getElem_cons_succ, List.getElem_cons_zero, List.setIfInBounds_toArray, List.set_cons_zero, List.set_cons_succ]
            refine AnyZ.take (i := 2) (oi := ⟨_, _, _, _, _, _⟩) (v := ?_) rfl (by kernel_rfl) (by kernel_rfl) (by kernel_rfl) (by kernel_rfl) (fun _ _ _ h => h) (Or.inl ⟨by rfl, ?_⟩) (by assumption) ?_
            rotate_left
            · (intro w hSw; (try dsimp only at hSw); (try simp only [List.getElem_toArray, List.getElem_cons_succ, List.getElem_cons_zero]); first | (go_simp; done) | (go_simp; with_reducible rfl))
            try simp only [Act.put, List.getElem_toArray, List.getElem_cons_succ, List.getElem_cons_zero, List.setIfInBounds_toArray, List.set_cons_zero, List.set_cons_succ]
            refine AnyZ.take (i := 3) (oi := ⟨_, _, _, _, _, _⟩) (v := ?_) rfl (by kernel_rfl) (by kernel_rfl) (by kernel_rfl) (by kernel_rfl) (fun _ _ _ h => h) (Or.inl ⟨by rfl, ?_⟩) (by assumption) ?_
            rotate_left
            · (intro w hSw; (try dsimp only at hSw); (try simp only [List.getElem_toArray, List.getElem_cons_succ, List.getElem_cons_zero]); first | (go_simp; done) | (go_simp; with_reducible rfl))
            try simp only [Act.put, List.getElem_toArray, List.getElem_cons_succ, List.getElem_cons_zero, List.setIfInBounds_toArray, List.set_cons_zero, List.set_cons_succ]
            refine AnyZ.take (i := 4) (oi := ⟨_, _, _, _, _, _⟩) (v := ?_) rfl (by kernel_rfl) (by kernel_rfl) (by kernel_rfl) (by kernel_rfl) (fun _ _ _ h => h) (Or.inl ⟨by rfl, ?_⟩) (by assumption) ?_
            rotate_left
            · (intro w hSw; (try dsimp only at hSw); (try simp only [List.getElem_toArray, List.getElem_cons_succ, List.getElem_cons_zero]); first | (go_simp; done) | (go_simp; with_reducible rfl))
            try simp only [Act.put, List.getElem_toArray, List.getElem_cons_succ, List.getElem_cons_zero, List.setIfInBounds_toArray, List.set_cons_zero, List.set_cons_succ]
            refine AnyZ.take (i := 5) (oi := ⟨_, _, _, _, _, _⟩) (v := ?_) rfl (by kernel_rfl) (by kernel_rfl) (by kernel_rfl) (by kernel_rfl) (fun _ _ _ h => h) (Or.inl ⟨by rfl, ?_⟩) (by assumption) ?_
            rotate_left
            · (intro w hSw; (try dsimp only at hSw); (try simp only [List.getElem_toArray, List.getElem_cons_succ, List.getElem_cons_zero]); first | (go_simp; done) | (go_simp; with_reducible rfl))
            try simp only [Act.put, List.getElem_toArray, List.getElem_cons_succ, List.getElem_cons_zero, List.setIfInBounds_toArray, List.set_cons_zero, List.set_cons_succ]
            refine AnyZ.take (i := 6) (oi := ⟨_, _, _, _, _, _⟩) (v := ?_) rfl (by kernel_rfl) (by kernel_rfl) (by kernel_rfl) (by kernel_rfl) (fun _ _ _ h => h) (Or.inl ⟨by rfl, ?_⟩) (by assumption) ?_
            rotate_left
            · (intro w hSw; (try dsimp only at hSw); (try simp only [List.getElem_toArray, List.getElem_cons_succ, List.getElem_cons_zero]); first | (go_simp; done) | (go_simp; with_reducible rfl))
            try simp only [Act.put, List.getElem_toArray, List.getElem_cons_succ, List.getElem_cons_zero, List.setIfInBounds_toArray, List.set_cons_zero, List.set_cons_succ]
            refine AnyZ.take (i := 7) (oi := ⟨_, _, _, _, _, _⟩) (v := ?_) rfl (by kernel_rfl) (by kernel_rfl) (by kernel_rfl) (by kernel_rfl) (fun _ _ _ h => h) (Or.inl ⟨by rfl, ?_⟩) (by assumption) ?_
            rotate_left
            · (intro w hSw; (try dsimp only at hSw); (try simp only [List.getElem_toArray, List.getElem_cons_succ, List.getElem_cons_zero]); first | (go_simp; done) | (go_simp; with_reducible rfl))
            try simp only [Act.put, List.getElem_toArray, List.getElem_cons_succ, List.getElem_cons_zero, List.setIfInBounds_toArray, List.set_cons_zero, List.set_cons_succ]
            refine AnyZ.take (i := 8) (oi := ⟨_, _, _, _, _, _⟩) (v := ?_) rfl (by kernel_rfl) (by kernel_rfl) (by kernel_rfl) (by kernel_rfl) (fun _ _ _ h => h) (Or.inl ⟨by rfl, ?_⟩) (by assumption) ?_
            rotate_left
            · (intro w hSw; (try dsimp only at hSw); (try simp only [List.getElem_toArray, List.getElem_cons_succ, List.getElem_cons_zero]); first | (go_simp; done) | (go_simp; with_reducible rfl))
            try simp only [Act.put, List.getElem_toArray, List.getElem_cons_succ, List.getElem_cons_zero, List.setIfInBounds_toArray, List.set_cons_zero, List.set_cons_succ]
            refine AnyZ.take (i := 9) (oi := ⟨_, _, _, _, _, _⟩) (v := ?_) rfl (by kernel_rfl) (by kernel_rfl) (by kernel_rfl) (by kernel_rfl) (fun _ _ _ h => h) (Or.inl ⟨by rfl, ?_⟩) (by assumption) ?_
            rotate_left
            · (intro w hSw; (try dsimp only at hSw); (try simp only [List.getElem_toArray, List.getElem_cons_succ, List.getElem_cons_zero]); first | (go_simp; done) | (go_simp; with_reducible rfl))
            try simp only [Act.put, List.getElem_toArray, List.getElem_cons_succ, List.getElem_cons_zero, List.setIfInBounds_toArray, List.set_cons_zero, List.set_cons_succ]
            refine AnyZ.take (i := 10) (oi := ⟨_, _, _, _, _, _⟩) (v := ?_) rfl (by kernel_rfl) (by kernel_rfl) (by kernel_rfl) (by kernel_rfl) (fun _ _ _ h => h) (Or.inl ⟨by rfl, ?_⟩) (by assumption) ?_
            rotate_left
            · (intro w hSw; (try dsimp only at hSw); (try simp only [List.getElem_toArray, List.getElem_cons_succ, List.getElem_cons_zero]); first | (go_simp; done) | (go_simp; with_reducible rfl))
            try simp only [Act.put, List.getElem_toArray, List.getElem_cons_succ, List.getElem_cons_zero, List.setIfInBounds_toArray, List.set_cons_zero, List.set_cons_succ]
            refine AnyZ.take (i := 11) (oi := ⟨_, _, _, _, _, _⟩) (v := ?_) rfl (by kernel_rfl) (by kernel_rfl) (by kernel_rfl) (by kernel_rfl) (fun _ _ _ h => h) (Or.inl ⟨by rfl, ?_⟩) (by assumption) ?_
            rotate_left
            · (intro w hSw; (try dsimp only at hSw); (try simp only [List.getElem_toArray, List.getElem_cons_succ, List.getElem_cons_zero]); first | (go_simp; done) | (go_simp; with_reducible rfl))
            try simp only [Act.put, List.getElem_toArray, List.getElem_cons_succ, List.getElem_cons_zero, List.setIfInBounds_toArray, List.set_cons_zero, List.set_cons_succ]
            refine AnyZ.take (i := 12) (oi := ⟨_, _, _, _, _, _⟩) (v := ?_) rfl (by kernel_rfl) (by kernel_rfl) (by kernel_rfl) (by kernel_rfl) (fun _ _ _ h => h) (Or.inl ⟨by rfl, ?_⟩) (by assumption) ?_
            rotate_left
            · (intro w hSw; (try dsimp only at hSw); (try simp only [List.getElem_toArray, List.getElem_cons_succ, List.getElem_cons_zero]); first | (go_simp; done) | (go_simp; with_reducible rfl))
            try simp only [Act.put, List.getElem_toArray, List.getElem_cons_succ, List.getElem_cons_zero, List.setIfInBounds_toArray, List.set_cons_zero, List.set_cons_succ]
            refine AnyZ.take (i := 13) (oi := ⟨_, _, _, _, _, _⟩) (v := ?_) rfl (by kernel_rfl) (by kernel_rfl) (by kernel_rfl) (by kernel_rfl) (fun _ _ _ h => h) (Or.inl ⟨by rfl, ?_⟩) (by assumption) ?_
            rotate_left
            · (intro w hSw; (try dsimp only at hSw); (try simp only [List.getElem_toArray, List.getElem_cons_succ, List.getElem_cons_zero]); first | (go_simp; done) | (go_simp; with_reducible rfl))
            try simp only [Act.put, List.getElem_toArray, List.getElem_cons_succ, List.getElem_cons_zero, List.setIfInBounds_toArray, List.set_cons_zero, List.set_cons_succ]
            refine AnyZ.take (i := 14) (oi := ⟨_, _, _, _, _, _⟩) (v := ?_) rfl (by kernel_rfl) (by kernel_rfl) (by kernel_rfl) (by kernel_rfl) (fun _ _ _ h => h) (Or.inl ⟨by rfl, ?_⟩) (by assumption) ?_
            rotate_left
            · (intro w hSw; (try dsimp only at hSw); (try simp only [List.getElem_toArray, List.getElem_cons_succ, List.getElem_cons_zero]); first | (go_simp; done) | (go_simp; with_reducible rfl))
            try simp only [Act.put, List.getElem_toArray, List.getElem_cons_succ, List.getElem_cons_zero, List.setIfInBounds_toArray, List.set_cons_zero, List.set_cons_succ]
            refine AnyZ.take (i := 15) (oi := ⟨_, _, _, _, _, _⟩) (v := ?_) rfl (by kernel_rfl) (by kernel_rfl) (by kernel_rfl) (by kernel_rfl) (fun _ _ _ h => h) (Or.inl ⟨by rfl, ?_⟩) (by assumption) ?_
            rotate_left
            · (intro w hSw; (try dsimp only at hSw); (try simp only [List.getElem_toArray, List.getElem_cons_succ, List.getElem_cons_zero]); first | (go_simp; done) | (go_simp; with_reducible rfl))
            try simp only [Act.put, List.getElem_toArray, List.getElem_cons_succ, List.getElem_cons_zero, List.setIfInBounds_toArray, List.set_cons_zero, List.set_cons_succ]
            refine AnyZ.step (i := 16) (o := ⟨_, _, _, _, _, _⟩) (by kernel_rfl) rfl (fun K hK => ?_)
            go_simp
            refine hK.out _ _ (fun h => absurd rfl h) (fun _ => ?_)
            clear hK K
            try simp only [Act.put, List.getElem_toArray, List.getElem_cons_succ, List.getElem_cons_zero, List.setIfInBounds_toArray, List.set_cons_zero, List.set_cons_succ]
            refine AnyZ.done (by kernel_rfl) ?_ _
            clear hv3 hv4 c1 q1 qf
            go_wp2_with fail
            go_roundw
            case rel =>
              have hrow10 : RowG ((wr.setCell ⟨W.heap.size, pa, none⟩ (.int .i64 (FA + 1))).setCell ⟨W.heap.size, pb, none⟩ (.int .i64 (FB + 1))) W.heap.size 3 m (fun i => degL (left.take (k + 1)) (i : Int)) := (RowG.put (w := (wr.setCell ⟨W.heap.size, pa, none⟩ (.int .i64 (FA + 1)))) HROW9.out hbm (FB + 1)).congr (fun i _ => by
                rw [HSTEP.out (i : Int)]
                by_cases e1 : i = pb
                · subst e1
                  have e2 : ¬ ((pa : Int) = (i : Int)) := by omega
                  simp [e2, HFB.out]
                · have e3 : ¬ ((pb : Int) = (i : Int)) := by omega
                  by_cases e2 : i = pa
                  · subst e2; simp [e1, e3, HFA.out]
                  · have e4 : ¬ ((pa : Int) = (i : Int)) := by omega
                    simp [e1, e2, e3, e4])
              have hbel := (HBV.out).setCell (p := ⟨W.heap.size, pb, none⟩) (Nat.le_refl _) (.int .i64 (FB + 1))
              exact ⟨k + 1, by omega, by go_num, ⟨hrow10.blk⟩, by first | exact hbel | exact hbel.drew | exact hbel.drew.drew⟩
            case measure => (simp [intOf]) <;> omega
          · obtain rfl : k = left.length := by omega
            have HROW1 : Hid (RowG wr W.heap.size 3 m (fun i => degL left (i : Int))) := hrow.congr (fun i _ => by rw [List.take_length])
            clear hrow HROW hb
            have HROW := HROW1
            clear HROW1
            obtain ⟨f, hf⟩ : ∃ f, degL left = f := ⟨_, rfl⟩
            rw [hf] at HROW HLF
            obtain ⟨hne, hone⟩ := leafOf_at HLF.out hlf
            have HNE : Hid (∀ j : Nat, 0 ≤ j → j < lf → f (j : Int) ≠ 1) := fun j _ hj => hne j hj
            have HONE := Lib.hid hone
            clear hf hne hone
            go_wp2_with fail
            go_loopw [10] (fun vj w9 => ∃ j : Nat, vj = .int .i64 (j : Int) ∧ 0 ≤ j ∧ j ≤ lf ∧ w9 = wr) (fun vj _ => lf - (intOf vj).toNat)
            case atStart => exact ⟨0, by first | rfl | go_num, Nat.le_refl _, by omega, rfl⟩
            case round =>
              obtain ⟨j, rfl, hjlo, hj, rfl⟩ := hrel
              have hjm : j < m := by omega
              have cj := HROW.out.cell hjm
              have hj0 : (0 : Int) ≤ (j : Int) := by omega
              have hj1 : (j : Int) < (m : Int) := by omega
              by_cases hjl : j < lf
              · have e1 : (f (j : Int) != 1) = true := by rw [bne_iff_ne]; exact HNE.out j hjlo hjl
                go_wp2_with fail
                go_roundw
                case rel => exact ⟨j + 1, by go_num, by omega, by omega, by first | rfl | trivial⟩
                case measure => (simp [intOf]) <;> omega
              · have HJE : Hid (j = lf) := by show _ = _; omega
                have e1 : (f (j : Int) != 1) = false := by rw [bne_eq_false_iff_eq, HJE.out]; exact HONE.out
                go_wp2_with fail
                clear e1
                have hjle : lf = j := HJE.out.symm
                clear cj HJE
                subst hjle
                obtain ⟨V, hV⟩ : ∃ V, V = wr := ⟨_, rfl⟩
                subst hV
                have hVs := HBW.out.size
                have HVO : Hid (V.ownsRow w.heap.size 3 1 (.slice (some ⟨g0, 0, none⟩) out.length co) out.length (rlCells out)) := HOWN.out.kept (row := none) ⟨HBW.out.os, HBW.out.tape, HBW.out.output, HBW.out.size, fun i hi _ => HBW.out.block i hi⟩ (.inr (by simp [Value.ownBlock]))
                have HRC2 := Lib.hid (HRC.out.below HBW.out)
                have hgV : g0 < V.heap.size := by omega
                have hblV : bl < V.heap.size := by omega
                clear HROW HNE HONE hj hjlo hj0 hj1
                have HO0 : Hid ((V.alloc (.cells #[] 28)).ownsRow V.heap.size 28 2 (.slice (some ⟨V.heap.size, 0, none⟩) 0 0) 0 (ctCells [])) := ⟨rfl, .inr ⟨V.heap.size, 0, #[], rfl, Nat.le_refl _, heap_alloc_new _ _, Nat.le_refl _, Nat.zero_le _, rfl, rfl⟩⟩
                go_wp2_with fail
                go_loopw [6, 11, 12] (fun vo vn i wr => ∃ (k : Nat) (o2 : List Int) (n2 : List (Int × Int)) (g2 c2 gn cn : Nat), k ≤ left.length ∧ i = .int .i64 (k : Int) ∧ vo = .slice (some ⟨g2, 0, none⟩) o2.length c2 ∧ vn = .slice (some ⟨gn, 0, none⟩) n2.length cn ∧ o2 = out ++ outL (left.take k) (lf : Int) ∧ n2 = nextL (left.take k) (lf : Int) ∧ wr.ownsRow w.heap.size 3 1 (.slice (some ⟨g2, 0, none⟩) o2.length c2) o2.length (rlCells o2) ∧ wr.ownsRow V.heap.size 28 2 (.slice (some ⟨gn, 0, none⟩) n2.length cn) n2.length (ctCells n2) ∧ RC wr V.heap.size (some ⟨bl, 0, none⟩) left ∧ g2 ≠ gn ∧ g2 ≠ bl ∧ Below w.heap.size w wr ∧ V.heap.size < wr.heap.size) (fun _ _ i _ => left.length - (intOf i).toNat)
                case atStart => exact ⟨0, out, [], g0, co, V.heap.size, 0, Nat.zero_le _, rfl, rfl, rfl, (List.append_nil _).symm, rfl, World.ownsRow.alloc HVO.out _, HO0.out, (HRC2.out.more (by omega)).below ((Below.refl _ _).alloc (Nat.le_refl _) _), by omega, hgb, (bstep (B := w.heap.size) (W := w) HB.out HB.out.size HBW.out).alloc (by have := HB.out.size; omega) _, by simp⟩
                case round =>
                  clear HO0 HVO HRC2
                  obtain ⟨k, o2, n2, g2, c2, gn, cn, hk, rfl, rfl, rfl, ho2, hn2, how, hnw, hrc, hgg, hgl, hb, hVl⟩ := hrel
                  have hk0 : (0 : Int) ≤ (k : Int) := by omega
                  have hl2 : o2.length ≤ 100 := by
                    rw [ho2, List.length_append]
                    have h9 := outL_len (left.take k) (lf : Int)
                    rw [List.length_take] at h9
                    have h8 := HOL.out
                    omega
                  have hl3 : n2.length ≤ 5 := by
                    rw [hn2]
                    have h9 := nextL_len (left.take k) (lf : Int)
                    rw [List.length_take] at h9
                    omega
                  have HO2 := Lib.hid ho2
                  have HN2 := Lib.hid hn2
                  have HOW := Lib.hid how
                  have HNW := Lib.hid hnw
                  have HRR := Lib.hid hrc
                  have HBB := Lib.hid hb
                  have hg2 : g2 < wr.heap.size := (how.lt g2 rfl).2
                  have hwz := hb.size
                  have hgn : V.heap.size ≤ gn ∧ gn < wr.heap.size := hnw.lt gn rfl
                  by_cases hlk : k < left.length
                  · have hk1 : (k : Int) < (left.length : Int) := by omega
                    obtain ⟨⟨pa, pb⟩, hx⟩ : ∃ x, left[k]? = some x := ⟨_, List.getElem?_eq_getElem hlk⟩
                    obtain ⟨b', o', e9, hB', c0, c1⟩ := hrc k _ hx
                    injection e9 with e9; injection e9 with e91 e92; subst e91; subst e92
                    simp only [Nat.zero_add] at c0 c1
                    have HOT : Hid (outL (left.take (k + 1)) (lf : Int) = outL (left.take k) (lf : Int) ++ (if pa = (lf : Int) then [pb] else if pb = (lf : Int) then [pa] else [])) := outL_take hx _
                    have HNT : Hid (nextL (left.take (k + 1)) (lf : Int) = nextL (left.take k) (lf : Int) ++ (if pa = (lf : Int) ∨ pb = (lf : Int) then [] else [(pa, pb)])) := nextL_take hx _
                    clear hx ho2 hn2 how hnw hrc hb
                    by_cases ea : (lf : Int) = pa
                    · have HO3 : Hid (o2 ++ [pb] = out ++ outL (left.take (k + 1)) (lf : Int)) := by show _ = _; rw [HOT.out, if_pos ea.symm, HO2.out, List.append_assoc]
                      have HN3 : Hid (n2 = nextL (left.take (k + 1)) (lf : Int)) := by show _ = _; rw [HNT.out, if_pos (.inl ea.symm), HN2.out, List.append_nil]
                      have e1 : ((lf : Int) == pa) = true := by simp [ea]
                      clear ea HOT HNT HO2 HN2
                      go_wp2_with (at_builtin; refine wpList_append_lies _ rfl _ _ _ rfl w.heap.size 3 i1 _ 1 8 Tryd.underlying30 hi1 hy0 hy1 hy2 rfl (by decide) (.slice (some ⟨g2, 0, none⟩) o2.length c2) o2.length (rlCells o2) rfl (World.ownsRow.alloc HOW.out _) ⟨wr.heap.size, 0, none⟩ 1 1 [.int .i64 pb] rfl rfl (World.news_of_block (cs := #[.int .i64 pb]) (t := 3) (fr := (0, 0)) (heap_alloc_new wr _)) (by simp [Value.oneCell']) (by omega) (by unfold maxLen; omega) (by omega) (by simp; omega) (wr.heap.size + 1) (by simp) ?_; intro g5 c5 w5 hown5 hgrow5 hat5 hlt5)
                      have hg5 : g5 = g2 ∨ g5 = wr.heap.size + 1 := by
                        rcases hat5 with h | h
                        · left; simpa [Value.ownBlock] using h.symm
                        · right; exact h
                      have hgA : wr.grownBy (wr.alloc (.cells #[.int .i64 pb] 3)) (some g2) := ⟨rfl, rfl, rfl, by simp, fun i hi _ => heap_alloc_old wr _ hi⟩
                      have hgR : wr.grownBy w5 (some g2) := only_trans hgA hgrow5
                      have HBB5 : Hid (Below w.heap.size w w5) := below_app3 (HBB.out.alloc (by have := HBB.out.size; omega) _) hgrow5 (World.ownsRow.alloc HOW.out _) (Nat.le_refl _)
                      have HRR5 : Hid (RC w5 V.heap.size (some ⟨bl, 0, none⟩) left) := RC.keepb HRR.out (hgR.block bl (by omega) (by simp; omega))
                      have HOW5 : Hid (w5.ownsRow w.heap.size 3 1 (.slice (some ⟨g5, 0, none⟩) (o2 ++ [pb]).length c5) (o2 ++ [pb]).length (rlCells (o2 ++ [pb]))) := by show World.ownsRow _ _ _ _ _ _ _; rw [rlCells_snoc, List.length_append]; exact hown5
                      have HNW5 := Lib.hid (HNW.out.kept hgR (.inr (by simp [Value.ownBlock]; omega)))
                      have hs5 := hgR.size
                      have HLE : Hid ((o2 ++ [pb]).length = o2.length + 1) := by show _ = _; simp
                      clear hown5 hgrow5 hat5 hlt5 hgA hgR
                      (try go_wp2_with fail)
                      go_roundw
                      case rel => exact ⟨k + 1, o2 ++ [pb], n2, g5, c5, gn, cn, by omega, by go_num, by rw [HLE.out], rfl, HO3.out, HN3.out, HOW5.out, HNW5.out, HRR5.out, by omega, by omega, HBB5.out, by omega⟩
                      case measure => (simp [intOf]) <;> omega
                    · have e1 : ((lf : Int) == pa) = false := by simp [ea]
                      by_cases eb : (lf : Int) = pb
                      · have HO3 : Hid (o2 ++ [pa] = out ++ outL (left.take (k + 1)) (lf : Int)) := by show _ = _; rw [HOT.out, if_neg (fun h => ea h.symm), if_pos eb.symm, HO2.out, List.append_assoc]
                        have HN3 : Hid (n2 = nextL (left.take (k + 1)) (lf : Int)) := by show _ = _; rw [HNT.out, if_pos (.inr eb.symm), HN2.out, List.append_nil]
                        have e2 : ((lf : Int) == pb) = true := by simp [eb]
                        clear ea eb HOT HNT HO2 HN2
                        go_wp2_with (at_builtin; refine wpList_append_lies _ rfl _ _ _ rfl w.heap.size 3 i1 _ 1 8 Tryd.underlying30 hi1 hy0 hy1 hy2 rfl (by decide) (.slice (some ⟨g2, 0, none⟩) o2.length c2) o2.length (rlCells o2) rfl (World.ownsRow.alloc HOW.out _) ⟨wr.heap.size, 0, none⟩ 1 1 [.int .i64 pa] rfl rfl (World.news_of_block (cs := #[.int .i64 pa]) (t := 3) (fr := (0, 0)) (heap_alloc_new wr _)) (by simp [Value.oneCell']) (by omega) (by unfold maxLen; omega) (by omega) (by simp; omega) (wr.heap.size + 1) (by simp) ?_; intro g5 c5 w5 hown5 hgrow5 hat5 hlt5)
                        have hg5 : g5 = g2 ∨ g5 = wr.heap.size + 1 := by
                          rcases hat5 with h | h
                          · left; simpa [Value.ownBlock] using h.symm
                          · right; exact h
                        have hgA : wr.grownBy (wr.alloc (.cells #[.int .i64 pa] 3)) (some g2) := ⟨rfl, rfl, rfl, by simp, fun i hi _ => heap_alloc_old wr _ hi⟩
                        have hgR : wr.grownBy w5 (some g2) := only_trans hgA hgrow5
                        have HBB5 : Hid (Below w.heap.size w w5) := below_app3 (HBB.out.alloc (by have := HBB.out.size; omega) _) hgrow5 (World.ownsRow.alloc HOW.out _) (Nat.le_refl _)
                        have HRR5 : Hid (RC w5 V.heap.size (some ⟨bl, 0, none⟩) left) := RC.keepb HRR.out (hgR.block bl (by omega) (by simp; omega))
                        have HOW5 : Hid (w5.ownsRow w.heap.size 3 1 (.slice (some ⟨g5, 0, none⟩) (o2 ++ [pa]).length c5) (o2 ++ [pa]).length (rlCells (o2 ++ [pa]))) := by show World.ownsRow _ _ _ _ _ _ _; rw [rlCells_snoc, List.length_append]; exact hown5
                        have HNW5 := Lib.hid (HNW.out.kept hgR (.inr (by simp [Value.ownBlock]; omega)))
                        have hs5 := hgR.size
                        have HLE : Hid ((o2 ++ [pa]).length = o2.length + 1) := by show _ = _; simp
                        clear hown5 hgrow5 hat5 hlt5 hgA hgR
                        (try go_wp2_with fail)
                        go_roundw
                        case rel => exact ⟨k + 1, o2 ++ [pa], n2, g5, c5, gn, cn, by omega, by go_num, by rw [HLE.out], rfl, HO3.out, HN3.out, HOW5.out, HNW5.out, HRR5.out, by omega, by omega, HBB5.out, by omega⟩
                        case measure => (simp [intOf]) <;> omega
                      · have HO3 : Hid (o2 = out ++ outL (left.take (k + 1)) (lf : Int)) := by show _ = _; rw [HOT.out, if_neg (fun h => ea h.symm), if_neg (fun h => eb h.symm), HO2.out, List.append_nil]
                        have HN3 : Hid (n2 ++ [(pa, pb)] = nextL (left.take (k + 1)) (lf : Int)) := by show _ = _; rw [HNT.out, if_neg (by rintro (h | h); exact ea h.symm; exact eb h.symm), HN2.out]
                        have e2 : ((lf : Int) == pb) = false := by simp [eb]
                        clear ea eb HOT HNT HO2 HN2
                        go_wp2_with (at_builtin; refine wpList_append_lies _ rfl _ _ _ rfl V.heap.size 28 i0 _ 2 16 Tryd.underlying23 hi0 hz0 hz1' hz2 rfl (by decide) (.slice (some ⟨gn, 0, none⟩) n2.length cn) n2.length (ctCells n2) rfl (World.ownsRow.alloc HNW.out _) ⟨wr.heap.size, 0, none⟩ 1 1 [.int .i64 pa, .int .i64 pb] rfl rfl (World.news_of_block (cs := #[.int .i64 pa, .int .i64 pb]) (t := 28) (fr := (0, 0)) (heap_alloc_new wr _)) (by simp [Value.oneCell']) (by omega) (by unfold maxLen; omega) (by omega) (by simp; omega) (wr.heap.size + 1) (by simp) ?_; intro g5 c5 w5 hown5 hgrow5 hat5 hlt5)
                        have hg5 : g5 = gn ∨ g5 = wr.heap.size + 1 := by
                          rcases hat5 with h | h
                          · left; simpa [Value.ownBlock] using h.symm
                          · right; exact h
                        have hgA : wr.grownBy (wr.alloc (.cells #[.int .i64 pa, .int .i64 pb] 28)) (some gn) := ⟨rfl, rfl, rfl, by simp, fun i hi _ => heap_alloc_old wr _ hi⟩
                        have hgR : wr.grownBy w5 (some gn) := only_trans hgA hgrow5
                        have HBB5 : Hid (Below w.heap.size w w5) := below_app3 (HBB.out.alloc (by have := HBB.out.size; omega) _) hgrow5 (World.ownsRow.alloc HNW.out _) (by have := HB.out.size; omega)
                        have HRR5 : Hid (RC w5 V.heap.size (some ⟨bl, 0, none⟩) left) := RC.keepb HRR.out (hgR.block bl (by omega) (by simp; omega))
                        have HNW5 : Hid (w5.ownsRow V.heap.size 28 2 (.slice (some ⟨g5, 0, none⟩) (n2 ++ [(pa, pb)]).length c5) (n2 ++ [(pa, pb)]).length (ctCells (n2 ++ [(pa, pb)]))) := by show World.ownsRow _ _ _ _ _ _ _; rw [ctCells_snoc, List.length_append]; exact hown5
                        have HOW5 := Lib.hid (HOW.out.kept hgR (.inr (by simp [Value.ownBlock]; omega)))
                        have hs5 := hgR.size
                        have HLE : Hid ((n2 ++ [(pa, pb)]).length = n2.length + 1) := by show _ = _; simp
                        clear hown5 hgrow5 hat5 hlt5 hgA hgR
                        (try go_wp2_with fail)
                        go_roundw
                        case rel => exact ⟨k + 1, o2, n2 ++ [(pa, pb)], g2, c2, g5, c5, by omega, by go_num, rfl, by rw [HLE.out], HO3.out, HN3.out, HOW5.out, HNW5.out, HRR5.out, by omega, hgl, HBB5.out, by omega⟩
                        case measure => (simp [intOf]) <;> omega
                  · obtain rfl : k = left.length := by omega
                    clear how hnw hrc hb
                    rw [List.take_length] at ho2 hn2
                    go_wp2_with fail
                    go_roundg g'
                    case measure => (have := HGE.out; omega)
                    case rel =>
                      refine ⟨n2, o2, gn, cn, g2, c2, ?_, rfl, rfl, ?_, ?_, ?_, HOW.out, ?_, by omega, hgn.2, hg2, HBB.out⟩
                      · rw [ho2, hn2]; exact HNX.out
                      · intro p hp; rw [hn2] at hp; exact HINP.out p (nextL_mem hp)
                      · exact rc_of_own HNW.out
                      · omega
                      · rw [ho2, List.length_append]
                        have h9 := outL_len left (lf : Int)
                        have h8 := HOL.out
                        have h7 := HGE.out
                        omega
end Go.Proofs.YtimccjmphdkbjaaDoor
