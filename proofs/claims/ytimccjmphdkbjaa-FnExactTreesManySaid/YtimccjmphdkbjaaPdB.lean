/- The model's codes of trees: TreeOfCode. The model's codes of trees: CodeOf. -/
import Derived.Test.YtimccjmphdkbjaaPdA
import Derived.Test.YtimccjmphdkbjaaPcF
import Derived.Test.YtimccjmphdkbjaaPcE
import Derived.Deep.LoopGhost
set_option linter.unusedSimpArgs false
set_option linter.unusedVariables false
attribute [local go_sem ↓] Go.wp_at_zero Go.wp_at_succ
namespace Go.Proofs.Ytimccjmphdkbjaa
open Go.ChangeShapes Go.WideShapes Go.ChangeAt Go.RowKit

theorem treeOf_none {n : Int} {c : List Int} (h : codeOk n c = false) : treeOfCode n c = none := by unfold treeOfCode; rw [h]; rfl
theorem codeB_t {m : Nat} {c : List Int} (h : codeB m c = true) : c.length + 2 = m ∧ ∀ x, x ∈ c → 0 ≤ x ∧ x < m := by
  unfold codeB at h
  simp only [Bool.and_eq_true, decide_eq_true_eq, List.all_eq_true] at h
  exact h
theorem treeGo_step {m : Nat} {x : Int} {c : List Int} {f : Int → Int} {out LT : List (Int × Int)} (h : treeGo m (x :: c) f out = some LT) : leafOf m f < m ∧ treeGo m c (stepF f (leafOf m f) x) (putL out (mkP (leafOf m f) x)) = some LT := by
  unfold treeGo at h
  by_cases hl : leafOf m f < m
  · rw [if_pos hl] at h; exact ⟨hl, h⟩
  · rw [if_neg hl] at h; cases h
theorem treeGo_end {m : Nat} {f : Int → Int} {out LT : List (Int × Int)} (h : treeGo m [] f out = some LT) : leafOf m f < m ∧ leafFrom f (m - leafOf m f - 1) (leafOf m f + 1) < m ∧ LT = putL out (mkP (leafOf m f) (leafFrom f (m - leafOf m f - 1) (leafOf m f + 1))) := by
  unfold treeGo at h
  by_cases hl : leafOf m f < m ∧ leafFrom f (m - leafOf m f - 1) (leafOf m f + 1) < m
  · rw [if_pos hl] at h; injection h with h; exact ⟨hl.1, hl.2, h.symm⟩
  · rw [if_neg hl] at h; cases h
theorem leafOf_at {m : Nat} {f : Int → Int} {lf : Nat} (h : leafOf m f = lf) (hl : lf < m) : (∀ j : Nat, j < lf → f j ≠ 1) ∧ f lf = 1 := by
  obtain ⟨_, _, h3, h4⟩ := leafFrom_spec f m 0
  unfold leafOf at h
  rw [h] at h3 h4
  exact ⟨fun j hj => h3 j (Nat.zero_le _) hj, h4 (by omega)⟩
theorem leafFrom_at {m a : Nat} {f : Int → Int} {lf : Nat} (h : leafFrom f (m - a - 1) (a + 1) = lf) (ha : a < m) (hl : lf < m) : a + 1 ≤ lf ∧ (∀ j : Nat, a + 1 ≤ j → j < lf → f j ≠ 1) ∧ f lf = 1 := by
  obtain ⟨h1, _, h3, h4⟩ := leafFrom_spec f (m - a - 1) (a + 1)
  rw [h] at h1 h3 h4
  exact ⟨h1, h3, h4 (by omega)⟩
theorem stepF_bd {f : Int → Int} {l x : Int} {k : Nat} (h : ∀ v, -(k : Int) ≤ f v ∧ f v ≤ 7) : ∀ v, -((k + 1 : Nat) : Int) ≤ stepF f l x v ∧ stepF f l x v ≤ 7 := fun v => by
  have := h v
  unfold stepF
  split <;> split <;> omega
theorem own_max {w : World} {base : Nat} {e : TypeId} {size n : Nat} {A1 : Option Addr} {c1 : Nat} {xs : List Value} (h : w.ownsRow base e size (.slice A1 n c1) n xs) (hn : 0 < n) : c1 ≤ maxLen := by
  rcases h.2 with ⟨hv, h0⟩ | ⟨g, c, cur, hv, _, _, _, h4, _⟩
  · omega
  · injection hv with _ _ e3
    rw [e3]; exact h4
theorem RC.keepb {w w' : World} {B g o : Nat} {L : List (Int × Int)} (h : RC w B (some ⟨g, o, none⟩) L) (hb : w'.heap[g]? = w.heap[g]?) : RC w' B (some ⟨g, o, none⟩) L := by
  intro i x hx
  obtain ⟨b, o', e, hB, c0, c1⟩ := h i x hx
  injection e with e; injection e with e1 e2; subst e1; subst e2
  exact ⟨g, o, rfl, hB, (World.cell?_of_block hb).trans c0, (World.cell?_of_block hb).trans c1⟩
/-- new memory of one's own that holds pairs, if they are told -/
def NewTree (o : Option (List (Int × Int))) (w : World) (en : Ending) (w' : World) : Prop := match o with
  | none => ∃ A1 c1, en = .returned (.tuple #[.slice A1 0 c1, .bool false]) ∧ Below w.heap.size w w'
  | some L => ∃ A1 c1, en = .returned (.tuple #[.slice A1 L.length c1, .bool true]) ∧ w'.ownsRow w.heap.size 33 2 (.slice A1 L.length c1) L.length (ctCells L) ∧ Below w.heap.size w w'
theorem NewTree.cuts {o : Option (List (Int × Int))} {w w' : World} {en : Ending} (h : NewTree o w en w') : NewCuts o w en w' := by
  cases o with
  | none => exact h
  | some L =>
    obtain ⟨A1, c1, h1, h2, h3⟩ := h
    exact ⟨A1, c1, w.heap.size, w'.heap.size, h1, rowF_of_cuts h2, Nat.le_refl _, h3⟩
set_option maxRecDepth 100000 in
set_option maxHeartbeats 4000000 in
theorem sTreeOfCode_own (n : Int) (Ar : Option Addr) (cr : Nat) (c : List Int) (w : World) (hi : RI w w.heap.size Ar c) (hlm : c.length ≤ 1073741824) :
    Calls Try.prog 17 #[.int .i64 n, .slice Ar c.length cr] w (NewTree (treeOfCode n c) w) := by
  have HI := Lib.hid hi
  clear hi
  cases hok : codeOk n c
  · have HOK := Lib.hid hok
    rw [treeOf_none hok]
    unfold NewTree
    clear hok
    go_enter Try.func17, Try.ntmps17
    go_wp2_with fail
    refine (sCodeOk_any n Ar cr c _ (HI.out.later (by go_grown)) hlm).mono ?_; rintro e1 w1 ⟨rfl, rfl⟩; rw [HOK.out]
    go_wp2_with fail
    refine bodyPost_ret (v := .tuple #[.slice (some ⟨w.heap.size, 0, none⟩) 0 0, .bool false]) (by simp [results, Try.results17, go_sem]) rfl ?_
    exact ⟨some ⟨w.heap.size, 0, none⟩, 0, rfl, (Below.refl _ _).alloc (Nat.le_refl _) _⟩
  · obtain ⟨m, rfl, h2, h6, hcb⟩ := codeOk_t hok
    obtain ⟨hcl, hcin⟩ := codeB_t hcb
    obtain ⟨LT, hLT, hgo, -⟩ := tree_of_code hok
    have HOK := Lib.hid hok
    have HIN := Lib.hid hcin
    have HGO := Lib.hid hgo
    have HCL := Lib.hid hcl
    have hc4 : c.length ≤ 4 := by omega
    have hcb1 : ∀ v : Int, -((0 : Nat) : Int) ≤ cntL c v ∧ cntL c v ≤ 7 := fun v => by have := cntL_bd c v; omega
    have HCB := Lib.hid hcb1
    have HCK : Hid (∀ (k : Nat) (v : Int), 1 ≤ cntL (c.take k) v ∧ cntL (c.take k) v ≤ 5) := fun k v => by
      have := cntL_bd (c.take k) v
      have h9 : (c.take k).length ≤ c.length := by rw [List.length_take]; omega
      omega
    rw [hLT]
    unfold NewTree
    clear hok hcb hcin hLT hgo hcl hcb1
    have hmk := fun W => mkInts' W m h6
    go_enter Try.func17, Try.ntmps17
    go_wp2_with fail
    refine (sCodeOk_any (m : Int) Ar cr c _ (HI.out.later (by go_grown)) hlm).mono ?_; rintro e1 w1 ⟨rfl, rfl⟩; rw [HOK.out]
    have hrow0 := RowG.made (w.alloc (.cells #[] 33)) 3 m
    have hsz0 : (w.alloc (.cells #[] 33)).heap.size = w.heap.size + 1 := by simp
    rw [hsz0] at hrow0
    have HROW0 := Lib.hid hrow0
    clear hrow0 hsz0
    go_wp2_with fail
    clear hmk
    go_loopw [8] (fun i wr => ∃ k : Nat, k ≤ m ∧ i = .int .i64 (k : Int) ∧ RowG wr (w.heap.size + 1) 3 m (fun i => if i < k then 1 else 0) ∧ Below w.heap.size w wr) (fun i _ => m - (intOf i).toNat)
    case atStart => exact ⟨0, Nat.zero_le _, rfl, HROW0.out.congr (fun i _ => by simp), by go_grown⟩
    case round =>
      clear HROW0
      obtain ⟨k, hk, rfl, hrow, hb⟩ := hrel
      have HROW := Lib.hid hrow
      have HB := Lib.hid hb
      have hk0 : (0 : Int) ≤ (k : Int) := by omega
      by_cases hlk : k < m
      · have hk1 : (k : Int) < (m : Int) := by omega
        have d0 := hrow.cell hlk
        have fz0 := hrow.frozen k
        clear hrow hb
        simp only [if_neg (Nat.lt_irrefl k)] at d0
        go_wp2_with fail
        go_roundw
        case rel => exact ⟨k + 1, by omega, by go_num, (HROW.out.put hlk 1).congr (fun i _ => by by_cases e1 : i = k <;> by_cases e2 : i < k <;> simp [e1, e2] <;> omega), HB.out.setCell (p := ⟨w.heap.size + 1, k, none⟩) (by simp) _⟩
        case measure => (simp [intOf]) <;> omega
      · obtain rfl : k = m := by omega
        have HROW1 : Hid (RowG wr (w.heap.size + 1) 3 k (fun i => cntL (c.take 0) (i : Int))) := hrow.congr (fun i hi => by rw [if_pos hi]; rfl)
        clear hrow HROW hb
        go_wp2_with fail
        go_loopw [9] (fun i wr => ∃ k' : Nat, k' ≤ c.length ∧ i = .int .i64 (k' : Int) ∧ RowG wr (w.heap.size + 1) 3 k (fun i => cntL (c.take k') (i : Int)) ∧ Below w.heap.size w wr) (fun i _ => c.length - (intOf i).toNat)
        case atStart => exact ⟨0, Nat.zero_le _, rfl, HROW1.out, HB.out⟩
        case round =>
          clear HROW1 HB
          obtain ⟨k', hk', rfl, hrow, hb⟩ := hrel
          have HROW := Lib.hid hrow
          have HB := Lib.hid hb
          have hk0 : (0 : Int) ≤ (k' : Int) := by omega
          by_cases hlk : k' < c.length
          · have hk1 : (k' : Int) < (c.length : Int) := by omega
            obtain ⟨xi, hxi⟩ : ∃ x, c[k']? = some x := ⟨_, List.getElem?_eq_getElem hlk⟩
            obtain ⟨x0, x1⟩ := HIN.out xi (List.mem_of_getElem? hxi)
            obtain ⟨x, rfl⟩ := Int.eq_ofNat_of_zero_le x0
            have hxm : x < k := by omega
            obtain ⟨b, o, rfl, hB, c0⟩ := (HI.out.below hb).at_ hlk
            rw [getD_at hxi] at c0
            have HSTEP : Hid (∀ v : Int, cntL (c.take (k' + 1)) v = cntL (c.take k') v + (if (x : Int) = v then 1 else 0)) := fun v => cntL_take hxi v
            obtain ⟨F, hF⟩ : ∃ F, cntL (c.take k') (x : Int) = F := ⟨_, rfl⟩
            have q0 : wr.cell? ⟨w.heap.size + 1, x, none⟩ = some (.int .i64 F) := by rw [← hF]; exact hrow.cell hxm
            have qf := hrow.frozen x
            have hFb := HCK.out k' (x : Int)
            rw [hF] at hFb
            have HF := Lib.hid hF
            have HV1 : Hid (IntKind.i64.wrap (F + 1) = F + 1) := IntWalk.i64_in _ ⟨by omega, by omega⟩
            have HV2 : Hid (wrap64 (F + 1) = F + 1) := IntWalk.wrap64_in _ ⟨by omega, by omega⟩
            clear hrow hb hxi hF hFb
            have hv1 := HV1.out
            have hv2 := HV2.out
            go_wp2_with fail
            refine AnyZ.region (S := (fun w' => w'.cell? ⟨b, o + k', none⟩ = some (.int .i64 (x : Int)) ∧ w'.cell? ⟨w.heap.size + 1, x, none⟩ = some (.int .i64 F))) (z := 14) (by kernel_rfl) ?_ (fun hHeld => ?_)
            · exact ⟨c0, q0⟩
            refine AnyZ.take (i := 0) (oi := ⟨_, _, _, _, _, _⟩) (v := ?_) rfl (by kernel_rfl) (by kernel_rfl) (by kernel_rfl) (by kernel_rfl) (fun _ _ _ h => h) (Or.inl ⟨by rfl, ?_⟩) (by assumption) ?_
            rotate_left
            · (intro w hSw; (try dsimp only at hSw); (try simp only [List.getElem_toArray, List.getElem_cons_succ, List.getElem_cons_zero]); first | (go_simp; done) | (go_simp; with_reducible rfl))
            try simp only [Act.put, List.getElem_toArray, List.getElem_cons_succ, List.getElem_cons_zero, List.setIfInBounds_toArray, List.set_cons_zero, List.set_cons_succ]
            refine AnyZ.take (i := 1) (oi := ⟨_, _, _, _, _, _⟩) (v := ?_) rfl (by kernel_rfl) (by kernel_rfl) (by kernel_rfl) (by kernel_rfl) (fun _ _ _ h => h) (Or.inl ⟨by rfl, ?_⟩) (by assumption) ?_
            rotate_left
            · (intro w hSw; (try dsimp only at hSw); (try simp only [List.getElem_toArray, List.getElem_cons_succ, List.getElem_cons_zero]); first | (go_simp; done) | (go_simp; with_reducible rfl))
            try simp only [Act.put, List.getElem_toArray, List.getElem_cons_succ, List.getElem_cons_zero, List.setIfInBounds_toArray, List.set_cons_zero, List.set_cons_succ]
            refine AnyZ.take (i := 2) (oi := ⟨_, _, _, _, _, _⟩) (v := ?_) rfl (by kernel_rfl) (by kernel_rfl) (by kernel_rfl) (by kernel_rfl) (fun _ _ _ h => h) (Or.inl ⟨by rfl, ?_⟩) (by assumption) ?_
            rotate_left
            · (intro w hSw; (try dsimp only at hSw); (try simp only [List.getElem_toArray, List.getElem_cons_succ, List.getElem_cons_zero]); first | (go_simp; done) | (go_simp; with_reducible rfl))
            try simp only [Act.put, List.getElem_toArray, List.getElem_cons_succ, List.getElem_cons_zero, List.setIfInBounds_toArray, List.set_cons_zero, List.set_cons_succ]
            refine AnyZ.take (i := 3) (oi := ⟨_, _, _, _, _, _⟩) (v := ?_) rfl (by kernel_rfl) (by kernel_rfl) (by kernel_rfl) (by kernel_rfl) (fun _ _ _ h => h) (Or.inl ⟨by rfl, ?_⟩) (by assumption) ?_
            rotate_left
            · (intro w hSw; (try dsimp only at hSw); (try simp only [List.getElem_toArray, List.getElem_cons_succ, List.getElem_cons_zero]); first | (go_simp; done) | (go_simp; with_reducible rfl))
            try simp only [Act.put, List.getElem_toArray, List.getElem_cons_succ, List.getElem_cons_zero, List.setIfInBounds_toArray, List.set_cons_zero, List.set_cons_succ]
            refine AnyZ.take (i := 4) (oi := ⟨_, _, _, _, _, _⟩) (v := ?_) rfl (by kernel_rfl) (by kernel_rfl) (by kernel_rfl) (by kernel_rfl) (fun _ _ _ h => h) (Or.inl ⟨by rfl, ?_⟩) (by assumption) ?_
            rotate_left
            · (intro w hSw; (try dsimp only at hSw); (try simp only [List.getElem_toArray, List.getElem_cons_succ, List.getElem_cons_zero]); first | (go_simp; done) | (go_simp; with_reducible rfl))
            try simp only [Act.put, List.getElem_toArray, List.getElem_cons_succ, List.getElem_cons_zero, List.setIfInBounds_toArray, List.set_cons_zero, List.set_cons_succ]
            refine AnyZ.take (i := 5) (oi := ⟨_, _, _, _, _, _⟩) (v := ?_) rfl (by kernel_rfl) (by kernel_rfl) (by kernel_rfl) (by kernel_rfl) (fun _ _ _ h => h) (Or.inl ⟨by rfl, ?_⟩) (by assumption) ?_
            rotate_left
            · (intro w hSw; (try dsimp only at hSw); (try simp only [List.getElem_toArray, List.getElem_cons_succ, List.getElem_cons_zero]); first | (go_simp; done) | (go_simp; with_reducible rfl))
            try simp only [Act.put, List.getElem_toArray, List.getElem_cons_succ, List.getElem_cons_zero, List.setIfInBounds_toArray, List.set_cons_zero, List.set_cons_succ]
            refine AnyZ.take (i := 6) (oi := ⟨_, _, _, _, _, _⟩) (v := ?_) rfl (by kernel_rfl) (by kernel_rfl) (by kernel_rfl) (by kernel_rfl) (fun _ _ _ h => h) (Or.inl ⟨by rfl, ?_⟩) (by assumption) ?_
            rotate_left
            · (intro w hSw; (try dsimp only at hSw); (try simp only [List.getElem_toArray, List.getElem_cons_succ, List.getElem_cons_zero]); first | (go_simp; done) | (go_simp; with_reducible rfl))
            try simp only [Act.put, List.getElem_toArray, List.getElem_cons_succ, List.getElem_cons_zero, List.setIfInBounds_toArray, List.set_cons_zero, List.set_cons_succ]
            refine AnyZ.take (i := 7) (oi := ⟨_, _, _, _, _, _⟩) (v := ?_) rfl (by kernel_rfl) (by kernel_rfl) (by kernel_rfl) (by kernel_rfl) (fun _ _ _ h => h) (Or.inl ⟨by rfl, ?_⟩) (by assumption) ?_
            rotate_left
            · (intro w hSw; (try dsimp only at hSw); (try simp only [List.getElem_toArray, List.getElem_cons_succ, List.getElem_cons_zero]); first | (go_simp; done) | (go_simp; with_reducible rfl))
            try simp only [Act.put, List.getElem_toArray, List.getElem_cons_succ, List.getElem_cons_zero, List.setIfInBounds_toArray, List.set_cons_zero, List.set_cons_succ]
            refine AnyZ.take (i := 8) (oi := ⟨_, _, _, _, _, _⟩) (v := ?_) rfl (by kernel_rfl) (by kernel_rfl) (by kernel_rfl) (by kernel_rfl) (fun _ _ _ h => h) (Or.inl ⟨by rfl, ?_⟩) (by assumption) ?_
            rotate_left
            · (intro w hSw; (try dsimp only at hSw); (try simp only [List.getElem_toArray, List.getElem_cons_succ, List.getElem_cons_zero]); first | (go_simp; done) | (go_simp; with_reducible rfl))
            try simp only [Act.put, List.getElem_toArray, List.getElem_cons_succ, List.getElem_cons_zero, List.setIfInBounds_toArray, List.set_cons_zero, List.set_cons_succ]
            refine AnyZ.take (i := 9) (oi := ⟨_, _, _, _, _, _⟩) (v := ?_) rfl (by kernel_rfl) (by kernel_rfl) (by kernel_rfl) (by kernel_rfl) (fun _ _ _ h => h) (Or.inl ⟨by rfl, ?_⟩) (by assumption) ?_
            rotate_left
            · (intro w hSw; (try dsimp only at hSw); (try simp only [List.getElem_toArray, List.getElem_cons_succ, List.getElem_cons_zero]); first | (go_simp; done) | (go_simp; with_reducible rfl))
            try simp only [Act.put, List.getElem_toArray, List.getElem_cons_succ, List.getElem_cons_zero, List.setIfInBounds_toArray, List.set_cons_zero, List.set_cons_succ]
            refine AnyZ.take (i := 10) (oi := ⟨_, _, _, _, _, _⟩) (v := ?_) rfl (by kernel_rfl) (by kernel_rfl) (by kernel_rfl) (by kernel_rfl) (fun _ _ _ h => h) (Or.inl ⟨by rfl, ?_⟩) (by assumption) ?_
            rotate_left
            · (intro w hSw; (try dsimp only at hSw); (try simp only [List.getElem_toArray, List.getElem_cons_succ, List.getElem_cons_zero]); first | (go_simp; done) | (go_simp; with_reducible rfl))
            try simp only [Act.put, List.getElem_toArray, List.getElem_cons_succ, List.getElem_cons_zero, List.setIfInBounds_toArray, List.set_cons_zero, List.set_cons_succ]
            refine AnyZ.take (i := 11) (oi := ⟨_, _, _, _, _, _⟩) (v := ?_) rfl (by kernel_rfl) (by kernel_rfl) (by kernel_rfl) (by kernel_rfl) (fun _ _ _ h => h) (Or.inl ⟨by rfl, ?_⟩) (by assumption) ?_
            rotate_left
            · (intro w hSw; (try dsimp only at hSw); (try simp only [List.getElem_toArray, List.getElem_cons_succ, List.getElem_cons_zero]); first | (go_simp; done) | (go_simp; with_reducible rfl))
            try simp only [Act.put, List.getElem_toArray, List.getElem_cons_succ, List.getElem_cons_zero, List.setIfInBounds_toArray, List.set_cons_zero, List.set_cons_succ]
            refine AnyZ.take (i := 12) (oi := ⟨_, _, _, _, _, _⟩) (v := ?_) rfl (by kernel_rfl) (by kernel_rfl) (by kernel_rfl) (by kernel_rfl) (fun _ _ _ h => h) (Or.inl ⟨by rfl, ?_⟩) (by assumption) ?_
            rotate_left
            · (intro w hSw; (try dsimp only at hSw); (try simp only [List.getElem_toArray, List.getElem_cons_succ, List.getElem_cons_zero]); first | (go_simp; done) | (go_simp; with_reducible rfl))
            try simp only [Act.put, List.getElem_toArray, List.getElem_cons_succ, List.getElem_cons_zero, List.setIfInBounds_toArray, List.set_cons_zero, List.set_cons_succ]
            refine AnyZ.take (i := 13) (oi := ⟨_, _, _, _, _, _⟩) (v := ?_) rfl (by kernel_rfl) (by kernel_rfl) (by kernel_rfl) (by kernel_rfl) (fun _ _ _ h => h) (Or.inl ⟨by rfl, ?_⟩) (by assumption) ?_
            rotate_left
            · (intro w hSw; (try dsimp only at hSw); (try simp only [List.getElem_toArray, List.getElem_cons_succ, List.getElem_cons_zero]); first | (go_simp; done) | (go_simp; with_reducible rfl))
            try simp only [Act.put, List.getElem_toArray, List.getElem_cons_succ, List.getElem_cons_zero, List.setIfInBounds_toArray, List.set_cons_zero, List.set_cons_succ]
            refine AnyZ.step (i := 14) (o := ⟨_, _, _, _, _, _⟩) (by kernel_rfl) rfl (fun K hK => ?_)
            go_simp
            refine hK.out _ _ (fun h => absurd rfl h) (fun _ => ?_)
            clear hK K
            try simp only [Act.put, List.getElem_toArray, List.getElem_cons_succ, List.getElem_cons_zero, List.setIfInBounds_toArray, List.set_cons_zero, List.set_cons_succ]
            refine AnyZ.done (by kernel_rfl) ?_ _
            clear hv1 hv2
            go_wp2_with fail
            go_roundw
            case rel =>
              have hrow9 : RowG (wr.drew.setCell ⟨w.heap.size + 1, x, none⟩ (.int .i64 (F + 1))) (w.heap.size + 1) 3 k (fun i => cntL (c.take (k' + 1)) (i : Int)) := (RowG.put (w := wr.drew) ⟨HROW.out.blk⟩ hxm (F + 1)).congr (fun i _ => by
                rw [HSTEP.out (i : Int)]
                by_cases e1 : i = x
                · subst e1; rw [if_pos rfl, if_pos rfl, HF.out]
                · rw [if_neg e1, if_neg (by omega)]; simp)
              exact ⟨k' + 1, by omega, by go_num, hrow9, (HB.out.drew).setCell (p := ⟨w.heap.size + 1, x, none⟩) (by simp) _⟩
            case measure => (simp [intOf]) <;> omega
          · obtain rfl : k' = c.length := by omega
            have HROW1 : Hid (RowG wr (w.heap.size + 1) 3 k (fun i => cntL c (i : Int))) := hrow.congr (fun i _ => by rw [List.take_length])
            have hRw := hrow.lt
            clear hrow HROW hb
            go_wp2_with fail
            go_loopw [6, 10] (fun vo i wr => ∃ (q : Nat) (f : Int → Int) (out : List (Int × Int)) (g co : Nat), q ≤ c.length ∧ i = .int .i64 (q : Int) ∧ vo = .slice (some ⟨g, 0, none⟩) out.length co ∧ treeGo k (c.drop q) f out = some LT ∧ (∀ v : Int, -(q : Int) ≤ f v ∧ f v ≤ 7) ∧ RowG wr (w.heap.size + 1) 3 k (fun i => f (i : Int)) ∧ RC wr wr.heap.size (some ⟨g, 0, none⟩) out ∧ out.length = q ∧ out.length ≤ co ∧ co ≤ maxLen ∧ g ≠ w.heap.size + 1 ∧ Below w.heap.size w wr ∧ w.heap.size + 1 < wr.heap.size) (fun _ i _ => c.length - (intOf i).toNat)
            case atStart => exact ⟨0, cntL c, [], w.heap.size, 0, Nat.zero_le _, rfl, rfl, HGO.out, HCB.out, HROW1.out, RC.nil_ _ _, rfl, Nat.le_refl _, by unfold maxLen; omega, by omega, HB.out, hRw⟩
            case round =>
              clear HROW1 HB hRw HGO HCB HCK
              obtain ⟨q, f, out, g, co, hq, rfl, rfl, hgo, hfb, hrow, hrc, hol, hco, hcm, hgR, hb, hRW⟩ := hrel
              have HROW := Lib.hid hrow
              have HB := Lib.hid hb
              have HRC := Lib.hid hrc
              have HFB := Lib.hid hfb
              have HOL := Lib.hid hol
              have HGO := Lib.hid hgo
              have HPUT : Hid (∀ (a b9 : Int), Calls Try.prog 34 #[.slice (some ⟨g, 0, none⟩) out.length co, .int .i64 a, .int .i64 b9] wr (NewPut (putL out (mkP a b9)) wr)) := fun a b9 => l12Put_any a b9 g 0 co out wr hrc (by omega) hco hcm
              have hq0 : (0 : Int) ≤ (q : Int) := by omega
              clear hrow hb hrc hfb hol hgo hco hcm
              by_cases hlq : q < c.length
              · have hq1 : (q : Int) < (c.length : Int) := by omega
                obtain ⟨xi, hxi⟩ : ∃ x, c[q]? = some x := ⟨_, List.getElem?_eq_getElem hlq⟩
                obtain ⟨x0, x1⟩ := HIN.out xi (List.mem_of_getElem? hxi)
                obtain ⟨x, rfl⟩ := Int.eq_ofNat_of_zero_le x0
                have hxm : x < k := by omega
                have hdr : c.drop q = (x : Int) :: c.drop (q + 1) := by rw [List.drop_eq_getElem_cons hlq]; congr 1; exact (List.getElem?_eq_some_iff.1 hxi).2
                obtain ⟨hlf, hnx⟩ := treeGo_step (by rw [← hdr]; exact HGO.out)
                obtain ⟨lf, hlfe⟩ : ∃ lf, leafOf k f = lf := ⟨_, rfl⟩
                obtain ⟨hne, hone⟩ := leafOf_at hlfe (by omega)
                rw [hlfe] at hlf hnx
                have HNX := Lib.hid hnx
                have HNE : Hid (∀ j : Nat, 0 ≤ j → j < lf → f (j : Int) ≠ 1) := fun j _ hj => hne j hj
                have HONE := Lib.hid hone
                have HX : Hid (c.getD q 0 = (x : Int)) := getD_at hxi
                obtain ⟨b, o, rfl, hB, c9⟩ := (HI.out.below HB.out).at_ hlq
                rw [HX.out] at c9
                clear hxi x0 x1 hdr hnx hlfe hne hone
                go_wp2_with fail
                go_loopw [11] (fun vj w9 => ∃ j : Nat, vj = .int .i64 (j : Int) ∧ 0 ≤ j ∧ j ≤ lf ∧ w9 = wr) (fun vj _ => lf - (intOf vj).toNat)
                case atStart => exact ⟨0, by first | rfl | go_num, Nat.le_refl _, by omega, rfl⟩
                case round =>
                  obtain ⟨j, rfl, hjlo, hj, rfl⟩ := hrel
                  have hjm : j < k := by omega
                  have cj := HROW.out.cell hjm
                  have hj0 : (0 : Int) ≤ (j : Int) := by omega
                  have hj1 : (j : Int) < (k : Int) := by omega
                  by_cases hjl : j < lf
                  · have e1 : (f (j : Int) != 1) = true := by rw [bne_iff_ne]; exact HNE.out j hjlo hjl
                    go_wp2_with fail
                    go_roundw
                    case rel => exact ⟨j + 1, by go_num, by omega, by omega, by first | rfl | trivial⟩
                    case measure => (simp [intOf]) <;> omega
                  · have HJE : Hid (j = lf) := by show _ = _; omega
                    have e1 : (f (j : Int) != 1) = false := by rw [bne_eq_false_iff_eq, HJE.out]; exact HONE.out
                    go_wp2_with fail
                    clear e1
                    have hjle : lf = j := HJE.out.symm
                    clear cj HJE
                    subst hjle
                    refine (HPUT.out (lf : Int) (x : Int)).mono ?_; rintro e7 w7 ⟨A7, c7, rfl, hown7, hb7⟩
                    have HB7 := Lib.hid hb7
                    obtain ⟨g7, hg7, hg7lo, -⟩ := own_some hown7 (by rw [putL_len]; omega)
                    have hc7 := own_cap hown7
                    have hm7 := own_max hown7 (by rw [putL_len]; omega)
                    subst hg7
                    have HRC7 := Lib.hid (rc_of_own hown7)
                    have HROW7 := Lib.hid (HROW.out.below hb7 hRW)
                    have hs7 := hb7.size
                    have HM7 := Lib.hid (And.intro hc7 hm7)
                    clear hb7 hown7 hc7 hm7
                    have d0 := HROW7.out.cell hjm
                    have fz0 := HROW7.out.frozen lf
                    go_wp2_with fail
                    clear d0 fz0
                    have HROW8 := Lib.hid (HROW7.out.put hjm 0)
                    obtain ⟨W8, hW8⟩ : ∃ W8, w7.setCell ⟨w.heap.size + 1, lf, none⟩ (.int .i64 0) = W8 := ⟨_, rfl⟩
                    have HB8 : Hid (Below w.heap.size w W8) := by
                      show Below _ _ _
                      rw [← hW8]
                      exact (bstep (B := w.heap.size) (W := w) HB.out HB.out.size HB7.out).setCell (p := ⟨w.heap.size + 1, lf, none⟩) (by simp) _
                    have hs8 : w7.heap.size = W8.heap.size := by rw [← hW8]; simp [World.setCell]
                    have HRC8 : Hid (RC W8 W8.heap.size (some ⟨g7, 0, none⟩) (putL out (mkP lf x))) := by
                      show RC _ _ _ _
                      rw [← hs8, ← hW8]
                      exact RC.keepb HRC7.out (Below.heap_setCell _ _ _ _ (by simp; omega))
                    rw [hW8] at HROW8 ⊢
                    have hg8 : g7 ≠ w.heap.size + 1 := by omega
                    clear hW8 hs8
                    obtain ⟨G, hG⟩ : ∃ G, (if x = lf then 0 else f (x : Int)) = G := ⟨_, rfl⟩
                    have q0 : W8.cell? ⟨w.heap.size + 1, x, none⟩ = some (.int .i64 G) := by
                      have := HROW8.out.cell hxm
                      simp only [hG] at this
                      exact this
                    have qf := HROW8.out.frozen x
                    obtain ⟨b', o', e9, hB', c0⟩ := (HI.out.below HB8.out).at_ hlq
                    injection e9 with e9; injection e9 with e91 e92; subst e91; subst e92
                    rw [HX.out] at c0
                    have hGb : -100000 ≤ G ∧ G ≤ 7 := by
                      have := HFB.out (x : Int)
                      rw [← hG]
                      split <;> omega
                    have HG := Lib.hid hG
                    have HV1 : Hid (IntKind.i64.wrap (G - 1) = G - 1) := IntWalk.i64_in _ ⟨by omega, by omega⟩
                    have HV2 : Hid (wrap64 (G - 1) = G - 1) := IntWalk.wrap64_in _ ⟨by omega, by omega⟩
                    clear hG hGb
                    have hv1 := HV1.out
                    have hv2 := HV2.out
                    go_wp2_with fail
                    refine AnyZ.region (S := (fun w' => w'.cell? ⟨b, o + q, none⟩ = some (.int .i64 (x : Int)) ∧ w'.cell? ⟨w.heap.size + 1, x, none⟩ = some (.int .i64 G))) (z := 14) (by kernel_rfl) ?_ (fun hHeld => ?_)
                    · exact ⟨c0, q0⟩
                    refine AnyZ.take (i := 0) (oi := ⟨_, _, _, _, _, _⟩) (v := ?_) rfl (by kernel_rfl) (by kernel_rfl) (by kernel_rfl) (by kernel_rfl) (fun _ _ _ h => h) (Or.inl ⟨by rfl, ?_⟩) (by assumption) ?_
                    rotate_left
                    · (intro w hSw; (try dsimp only at hSw); (try simp only [List.getElem_toArray, List.getElem_cons_succ, List.getElem_cons_zero]); first | (go_simp; done) | (go_simp; with_reducible rfl))
                    try simp only [Act.put, List.getElem_toArray, List.getElem_cons_succ, List.getElem_cons_zero, List.setIfInBounds_toArray, List.set_cons_zero, List.set_cons_succ]
                    refine AnyZ.take (i := 1) (oi := ⟨_, _, _, _, _, _⟩) (v := ?_) rfl (by kernel_rfl) (by kernel_rfl) (by kernel_rfl) (by kernel_rfl) (fun _ _ _ h => h) (Or.inl ⟨by rfl, ?_⟩) (by assumption) ?_
                    rotate_left
                    · (intro w hSw; (try dsimp only at hSw); (try simp only [List.getElem_toArray, List.getElem_cons_succ, List.getElem_cons_zero]); first | (go_simp; done) | (go_simp; with_reducible rfl))
                    try simp only [Act.put, List.getElem_toArray, List.getElem_cons_succ, List.getElem_cons_zero, List.setIfInBounds_toArray, List.set_cons_zero, List.set_cons_succ]
                    refine AnyZ.take (i := 2) (oi := ⟨_, _, _, _, _, _⟩) (v := ?_) rfl (by kernel_rfl) (by kernel_rfl) (by kernel_rfl) (by kernel_rfl) (fun _ _ _ h => h) (Or.inl ⟨by rfl, ?_⟩) (by assumption) ?_
                    rotate_left
                    · (intro w hSw; (try dsimp only at hSw); (try simp only [List.getElem_toArray, List.getElem_cons_succ, List.getElem_cons_zero]); first | (go_simp; done) | (go_simp; with_reducible rfl))
                    try simp only [Act.put, List.getElem_toArray, List.getElem_cons_succ, List.getElem_cons_zero, List.setIfInBounds_toArray, List.set_cons_zero, List.set_cons_succ]
                    refine AnyZ.take (i := 3) (oi := ⟨_, _, _, _, _, _⟩) (v := ?_) rfl (by kernel_rfl) (by kernel_rfl) (by kernel_rfl) (by kernel_rfl) (fun _ _ _ h => h) (Or.inl ⟨by rfl, ?_⟩) (by assumption) ?_
                    rotate_left
                    · (intro w hSw; (try dsimp only at hSw); (try simp only [List.getElem_toArray, List.getElem_cons_succ, List.getElem_cons_zero]); first | (go_simp; done) | (go_simp; with_reducible rfl))
                    try simp only [Act.put, List.getElem_toArray, List.getElem_cons_succ, List.getElem_cons_zero, List.setIfInBounds_toArray, List.set_cons_zero, List.set_cons_succ]
                    refine AnyZ.take (i := 4) (oi := ⟨_, _, _, _, _, _⟩) (v := ?_) rfl (by kernel_rfl) (by kernel_rfl) (by kernel_rfl) (by kernel_rfl) (fun _ _ _ h => h) (Or.inl ⟨by rfl, ?_⟩) (by assumption) ?_
                    rotate_left
                    · (intro w hSw; (try dsimp only at hSw); (try simp only [List.getElem_toArray, List.getElem_cons_succ, List.getElem_cons_zero]); first | (go_simp; done) | (go_simp; with_reducible rfl))
                    try simp only [Act.put, List.getElem_toArray, List.getElem_cons_succ, List.getElem_cons_zero, List.setIfInBounds_toArray, List.set_cons_zero, List.set_cons_succ]
                    refine AnyZ.take (i := 5) (oi := ⟨_, _, _, _, _, _⟩) (v := ?_) rfl (by kernel_rfl) (by kernel_rfl) (by kernel_rfl) (by kernel_rfl) (fun _ _ _ h => h) (Or.inl ⟨by rfl, ?_⟩) (by assumption) ?_
                    rotate_left
                    · (intro w hSw; (try dsimp only at hSw); (try simp only [List.getElem_toArray, List.getElem_cons_succ, List.getElem_cons_zero]); first | (go_simp; done) | (go_simp; with_reducible rfl))
                    try simp only [Act.put, List.getElem_toArray, List.getElem_cons_succ, List.getElem_cons_zero, List.setIfInBounds_toArray, List.set_cons_zero, List.set_cons_succ]
                    refine AnyZ.take (i := 6) (oi := ⟨_, _, _, _, _, _⟩) (v := ?_) rfl (by kernel_rfl) (by kernel_rfl) (by kernel_rfl) (by kernel_rfl) (fun _ _ _ h => h) (Or.inl ⟨by rfl, ?_⟩) (by assumption) ?_
                    rotate_left
                    · (intro w hSw; (try dsimp only at hSw); (try simp only [List.getElem_toArray, List.getElem_cons_succ, List.getElem_cons_zero]); first | (go_simp; done) | (go_simp; with_reducible rfl))
                    try simp only [Act.put, List.getElem_toArray, List.getElem_cons_succ, List.getElem_cons_zero, List.setIfInBounds_toArray, List.set_cons_zero, List.set_cons_succ]
                    refine AnyZ.take (i := 7) (oi := ⟨_, _, _, _, _, _⟩) (v := ?_) rfl (by kernel_rfl) (by kernel_rfl) (by kernel_rfl) (by kernel_rfl) (fun _ _ _ h => h) (Or.inl ⟨by rfl, ?_⟩) (by assumption) ?_
                    rotate_left
                    · (intro w hSw; (try dsimp only at hSw); (try simp only [List.getElem_toArray, List.getElem_cons_succ, List.getElem_cons_zero]); first | (go_simp; done) | (go_simp; with_reducible rfl))
                    try simp only [Act.put, List.getElem_toArray, List.getElem_cons_succ, List.getElem_cons_zero, List.setIfInBounds_toArray, List.set_cons_zero, List.set_cons_succ]
                    refine AnyZ.take (i := 8) (oi := ⟨_, _, _, _, _, _⟩) (v := ?_) rfl (by kernel_rfl) (by kernel_rfl) (by kernel_rfl) (by kernel_rfl) (fun _ _ _ h => h) (Or.inl ⟨by rfl, ?_⟩) (by assumption) ?_
                    rotate_left
                    · (intro w hSw; (try dsimp only at hSw); (try simp only [List.getElem_toArray, List.getElem_cons_succ, List.getElem_cons_zero]); first | (go_simp; done) | (go_simp; with_reducible rfl))
                    try simp only [Act.put, List.getElem_toArray, List.getElem_cons_succ, List.getElem_cons_zero, List.setIfInBounds_toArray, List.set_cons_zero, List.set_cons_succ]
                    refine AnyZ.take (i := 9) (oi := ⟨_, _, _, _, _, _⟩) (v := ?_) rfl (by kernel_rfl) (by kernel_rfl) (by kernel_rfl) (by kernel_rfl) (fun _ _ _ h => h) (Or.inl ⟨by rfl, ?_⟩) (by assumption) ?_
                    rotate_left
                    · (intro w hSw; (try dsimp only at hSw); (try simp only [List.getElem_toArray, List.getElem_cons_succ, List.getElem_cons_zero]); first | (go_simp; done) | (go_simp; with_reducible rfl))
                    try simp only [Act.put, List.getElem_toArray, List.getElem_cons_succ, List.getElem_cons_zero, List.setIfInBounds_toArray, List.set_cons_zero, List.set_cons_succ]
                    refine AnyZ.take (i := 10) (oi := ⟨_, _, _, _, _, _⟩) (v := ?_) rfl (by kernel_rfl) (by kernel_rfl) (by kernel_rfl) (by kernel_rfl) (fun _ _ _ h => h) (Or.inl ⟨by rfl, ?_⟩) (by assumption) ?_
                    rotate_left
                    · (intro w hSw; (try dsimp only at hSw); (try simp only [List.getElem_toArray, List.getElem_cons_succ, List.getElem_cons_zero]); first | (go_simp; done) | (go_simp; with_reducible rfl))
                    try simp only [Act.put, List.getElem_toArray, List.getElem_cons_succ, List.getElem_cons_zero, List.setIfInBounds_toArray, List.set_cons_zero, List.set_cons_succ]
                    refine AnyZ.take (i := 11) (oi := ⟨_, _, _, _, _, _⟩) (v := ?_) rfl (by kernel_rfl) (by kernel_rfl) (by kernel_rfl) (by kernel_rfl) (fun _ _ _ h => h) (Or.inl ⟨by rfl, ?_⟩) (by assumption) ?_
                    rotate_left
                    · (intro w hSw; (try dsimp only at hSw); (try simp only [List.getElem_toArray, List.getElem_cons_succ, List.getElem_cons_zero]); first | (go_simp; done) | (go_simp; with_reducible rfl))
                    try simp only [Act.put, List.getElem_toArray, List.getElem_cons_succ, List.getElem_cons_zero, List.setIfInBounds_toArray, List.set_cons_zero, List.set_cons_succ]
                    refine AnyZ.take (i := 12) (oi := ⟨_, _, _, _, _, _⟩) (v := ?_) rfl (by kernel_rfl) (by kernel_rfl) (by kernel_rfl) (by kernel_rfl) (fun _ _ _ h => h) (Or.inl ⟨by rfl, ?_⟩) (by assumption) ?_
                    rotate_left
                    · (intro w hSw; (try dsimp only at hSw); (try simp only [List.getElem_toArray, List.getElem_cons_succ, List.getElem_cons_zero]); first | (go_simp; done) | (go_simp; with_reducible rfl))
                    try simp only [Act.put, List.getElem_toArray, List.getElem_cons_succ, List.getElem_cons_zero, List.setIfInBounds_toArray, List.set_cons_zero, List.set_cons_succ]
                    refine AnyZ.take (i := 13) (oi := ⟨_, _, _, _, _, _⟩) (v := ?_) rfl (by kernel_rfl) (by kernel_rfl) (by kernel_rfl) (by kernel_rfl) (fun _ _ _ h => h) (Or.inl ⟨by rfl, ?_⟩) (by assumption) ?_
                    rotate_left
                    · (intro w hSw; (try dsimp only at hSw); (try simp only [List.getElem_toArray, List.getElem_cons_succ, List.getElem_cons_zero]); first | (go_simp; done) | (go_simp; with_reducible rfl))
                    try simp only [Act.put, List.getElem_toArray, List.getElem_cons_succ, List.getElem_cons_zero, List.setIfInBounds_toArray, List.set_cons_zero, List.set_cons_succ]
                    refine AnyZ.step (i := 14) (o := ⟨_, _, _, _, _, _⟩) (by kernel_rfl) rfl (fun K hK => ?_)
                    go_simp
                    refine hK.out _ _ (fun h => absurd rfl h) (fun _ => ?_)
                    clear hK K
                    try simp only [Act.put, List.getElem_toArray, List.getElem_cons_succ, List.getElem_cons_zero, List.setIfInBounds_toArray, List.set_cons_zero, List.set_cons_succ]
                    refine AnyZ.done (by kernel_rfl) ?_ _
                    clear hv1 hv2
                    go_wp2_with fail
                    go_roundw
                    case rel =>
                      have HST : ∀ i : Nat, (if i = x then G - 1 else if i = lf then 0 else f (i : Int)) = stepF f (lf : Int) (x : Int) (i : Int) := fun i => by
                        rw [← HG.out]
                        unfold stepF
                        by_cases e1 : i = x
                        · subst e1
                          by_cases e2 : i = lf
                          · subst e2; simp
                          · have e3 : ¬ ((i : Int) = (lf : Int)) := by omega
                            simp [e2, e3]
                        · have e4 : ¬ ((i : Int) = (x : Int)) := by omega
                          by_cases e2 : i = lf
                          · subst e2; simp [e1, e4]
                          · have e3 : ¬ ((i : Int) = (lf : Int)) := by omega
                            simp [e1, e2, e3, e4]
                      have hrow9 : RowG (W8.drew.setCell ⟨w.heap.size + 1, x, none⟩ (.int .i64 (G - 1))) (w.heap.size + 1) 3 k (fun i => stepF f (lf : Int) (x : Int) (i : Int)) := (RowG.put (w := W8.drew) ⟨HROW8.out.blk⟩ hxm (G - 1)).congr (fun i _ => HST i)
                      exact ⟨q + 1, stepF f (lf : Int) (x : Int), putL out (mkP lf x), g7, c7, by omega, by go_num, rfl, HNX.out, stepF_bd HFB.out, hrow9, RC.keepb (w := W8) (by have h9 := HRC8.out; exact h9.more (by simp [World.setCell])) (Below.heap_setCell _ _ _ _ (by simp; omega)), by rw [putL_len, HOL.out], HM7.out.1, HM7.out.2, hg8, (HB8.out.drew).setCell (p := ⟨w.heap.size + 1, x, none⟩) (by simp) _, by have h9 := HROW8.out.lt; simp [World.setCell]; omega⟩
                    case measure => (simp [intOf]) <;> omega
              · obtain rfl : q = c.length := by omega
                obtain ⟨h1, hlb2, hLTe⟩ := treeGo_end (by have := HGO.out; rw [List.drop_length] at this; exact this)
                obtain ⟨la, hlae⟩ : ∃ la, leafOf k f = la := ⟨_, rfl⟩
                obtain ⟨hne, hone⟩ := leafOf_at hlae (by omega)
                rw [hlae] at h1 hlb2 hLTe
                obtain ⟨lb, hlbe⟩ : ∃ lb, leafFrom f (k - la - 1) (la + 1) = lb := ⟨_, rfl⟩
                rw [hlbe] at hlb2 hLTe
                have HLB := Lib.hid hlbe
                have HLT := Lib.hid hLTe
                have HNE : Hid (∀ j : Nat, 0 ≤ j → j < la → f (j : Int) ≠ 1) := fun j _ hj => hne j hj
                have HONE := Lib.hid hone
                clear hlae hne hone hlbe hLTe
                go_wp2_with fail
                go_loopw [12] (fun vj w9 => ∃ j : Nat, vj = .int .i64 (j : Int) ∧ 0 ≤ j ∧ j ≤ la ∧ w9 = wr) (fun vj _ => la - (intOf vj).toNat)
                case atStart => exact ⟨0, by first | rfl | go_num, Nat.le_refl _, by omega, rfl⟩
                case round =>
                  obtain ⟨j, rfl, hjlo, hj, rfl⟩ := hrel
                  have hjm : j < k := by omega
                  have cj := HROW.out.cell hjm
                  have hj0 : (0 : Int) ≤ (j : Int) := by omega
                  have hj1 : (j : Int) < (k : Int) := by omega
                  by_cases hjl : j < la
                  · have e1 : (f (j : Int) != 1) = true := by rw [bne_iff_ne]; exact HNE.out j hjlo hjl
                    go_wp2_with fail
                    go_roundw
                    case rel => exact ⟨j + 1, by go_num, by omega, by omega, by first | rfl | trivial⟩
                    case measure => (simp [intOf]) <;> omega
                  · have HJE : Hid (j = la) := by show _ = _; omega
                    have e1 : (f (j : Int) != 1) = false := by rw [bne_eq_false_iff_eq, HJE.out]; exact HONE.out
                    go_wp2_with fail
                    clear e1
                    have hjle : la = j := HJE.out.symm
                    clear cj HJE
                    subst hjle
                    have hla := hjm
                    clear HNE HONE hjlo hj hjl hj0 hj1 hjm
                    obtain ⟨hb1, hb2, hb3⟩ := leafFrom_at HLB.out hla hlb2
                    have HNE : Hid (∀ j' : Nat, la + 1 ≤ j' → j' < lb → f j' ≠ 1) := hb2
                    have HONE : Hid (f (lb : Int) = 1) := hb3
                    clear hb2 hb3
                    go_wp2_with fail
                    go_loopw [13] (fun vj w9 => ∃ j : Nat, vj = .int .i64 (j : Int) ∧ la + 1 ≤ j ∧ j ≤ lb ∧ w9 = wr) (fun vj _ => lb - (intOf vj).toNat)
                    case atStart => exact ⟨la + 1, by first | rfl | go_num, Nat.le_refl _, by omega, rfl⟩
                    case round =>
                      obtain ⟨j, rfl, hjlo, hj, rfl⟩ := hrel
                      have hjm : j < k := by omega
                      have cj := HROW.out.cell hjm
                      have hj0 : (0 : Int) ≤ (j : Int) := by omega
                      have hj1 : (j : Int) < (k : Int) := by omega
                      by_cases hjl : j < lb
                      · have e1 : (f (j : Int) != 1) = true := by rw [bne_iff_ne]; exact HNE.out j hjlo hjl
                        go_wp2_with fail
                        go_roundw
                        case rel => exact ⟨j + 1, by go_num, by omega, by omega, by first | rfl | trivial⟩
                        case measure => (simp [intOf]) <;> omega
                      · have HJE : Hid (j = lb) := by show _ = _; omega
                        have e1 : (f (j : Int) != 1) = false := by rw [bne_eq_false_iff_eq, HJE.out]; exact HONE.out
                        go_wp2_with fail
                        clear e1
                        have hjle : lb = j := HJE.out.symm
                        clear cj HJE
                        subst hjle
                        refine (HPUT.out (la : Int) (lb : Int)).mono ?_; rintro e7 w7 ⟨A7, c7, rfl, hown7, hb7⟩
                        have HB7 := Lib.hid hb7
                        have HO7 := Lib.hid hown7
                        clear hb7 hown7
                        go_wp2_with fail
                        refine bodyPost_ret (v := .tuple #[.slice A7 (putL out (mkP la lb)).length c7, .bool true]) (by simp [results, Try.results17, go_sem]) rfl ?_
                        rw [HLT.out]
                        exact ⟨A7, c7, rfl, own_base HO7.out HB.out.size, bstep (B := w.heap.size) (W := w) HB.out HB.out.size HB7.out⟩
theorem sTreeOfCode_any (n : Int) (Ar : Option Addr) (cr : Nat) (c : List Int) (w : World) (hi : RI w w.heap.size Ar c) (hlm : c.length ≤ 1073741824) :
    Calls Try.prog 17 #[.int .i64 n, .slice Ar c.length cr] w (NewCuts (treeOfCode n c) w) := (sTreeOfCode_own n Ar cr c w hi hlm).mono fun _ _ h => h.cuts
end Go.Proofs.Ytimccjmphdkbjaa
namespace Go.Proofs.Ytimccjmphdkbjaa
open Go.ChangeShapes Go.WideShapes Go.ChangeAt Go.RowKit

/-- new memory that holds a code, if it is told -/
def NewCode (o : Option (List Int)) (w : World) (en : Ending) (w' : World) : Prop := match o with
  | none => ∃ A1 c1, en = .returned (.tuple #[.slice A1 0 c1, .bool false]) ∧ Below w.heap.size w w'
  | some L => ∃ A1 c1 lo hi, en = .returned (.tuple #[.slice A1 L.length c1, .bool true]) ∧ RowF w' lo hi A1 L.length (fun j => L.getD j 0) ∧ w.heap.size ≤ lo ∧ Below w.heap.size w w'
theorem below_app3 {w0 W w3 : World} {base size n : Nat} {e : TypeId} {v : Value} {xs : List Value} (h : Below w0.heap.size w0 W) (hg : W.grownBy w3 v.ownBlock) (ho : W.ownsRow base e size v n xs) (hB : w0.heap.size ≤ base) : Below w0.heap.size w0 w3 :=
  ⟨hg.os.trans h.os, hg.tape.trans h.tape, hg.output.trans h.output, Nat.le_trans h.size hg.size, fun k hk => (hg.block k (Nat.lt_of_lt_of_le hk h.size) (fun e9 => by have := (ho.lt k e9.symm).1; omega)).trans (h.block k hk)⟩
theorem codeOf_none {n : Int} {L : List (Int × Int)} (h : linksOk n L = false) : codeOf n L = none := by unfold codeOf; rw [h]; rfl
theorem codeGo_stop {m g : Nat} {L : List (Int × Int)} {out c : List Int} (h : codeGo m g L out = some c) (hl : L.length ≤ 1) : out = c := by
  cases g with
  | zero => unfold codeGo at h; rw [if_pos hl] at h; exact Option.some.inj h
  | succ g => unfold codeGo at h; rw [if_pos hl] at h; exact Option.some.inj h
theorem codeGo_go {m g : Nat} {L : List (Int × Int)} {out c : List Int} (h : codeGo m g L out = some c) (hl : ¬ L.length ≤ 1) : ∃ g', g = g' + 1 ∧ leafOf m (degL L) < m ∧ codeGo m g' (nextL L (leafOf m (degL L))) (out ++ outL L (leafOf m (degL L))) = some c := by
  cases g with
  | zero => unfold codeGo at h; rw [if_neg hl] at h; cases h
  | succ g =>
    unfold codeGo at h
    rw [if_neg hl] at h
    by_cases h9 : leafOf m (degL L) < m
    · rw [if_pos h9] at h; exact ⟨g, rfl, h9, h⟩
    · rw [if_neg h9] at h; cases h
theorem nextL_mem {L : List (Int × Int)} {l : Int} {p : Int × Int} (h : p ∈ nextL L l) : p ∈ L := (List.mem_filter.1 h).1
theorem nextL_len (L : List (Int × Int)) (l : Int) : (nextL L l).length ≤ L.length := List.length_filter_le _ _
theorem outL_len (L : List (Int × Int)) (l : Int) : (outL L l).length ≤ L.length := List.length_filterMap_le _ _
theorem take_deg0 (L : List (Int × Int)) (v : Int) : degL (L.take 0) v = 0 := rfl
end Go.Proofs.Ytimccjmphdkbjaa
