/- The program's codes of trees: LinksOk, CodeOf. -/
import Derived.Test.YtimccjmphdkbjaaDoorPcJ
import Derived.Test.YtimccjmphdkbjaaDoorME
import Derived.Test.YtimccjmphdkbjaaDoorPcE
set_option linter.unusedSimpArgs false
set_option linter.unusedVariables false
attribute [local go_sem ↓] Go.wp_at_zero Go.wp_at_succ
namespace Go.Proofs.YtimccjmphdkbjaaDoor
open Go.ChangeShapes Go.WideShapes Go.ChangeAt Go.RowKit

theorem compareB_any (xa xb ya yb : Int) (w : World) :
    Calls Tryd.prog 37 #[.agg #[.int .i64 xa, .int .i64 xb], .agg #[.int .i64 ya, .int .i64 yb]] w fun e w' => e = .returned (.int .i64 (cmpP (xa, xb) (ya, yb))) ∧ Below w.heap.size w w' :=
  (compareLinks_any xa xb ya yb w).mono fun e w' h => by
    obtain ⟨h1, o1, o2, o3, h2⟩ := h
    refine ⟨h1, ?_⟩
    rw [h2]
    exact ((((Below.refl _ _).alloc (Nat.le_refl _) _).alloc (by simp) _).alloc (by simp; omega) _).drew
/-! ### pairs in order -/
def SortAns (L : List (Int × Int)) (w : World) (e : Ending) (w' : World) : Prop := ∃ r, e = .returned (.bool r) ∧ (r = true → ∀ k p q, L[k]? = some p → L[k + 1]? = some q → gtP p q = false) ∧ (r = false → ∃ k p q, L[k]? = some p ∧ L[k + 1]? = some q ∧ gtP p q = true) ∧ Below w.heap.size w w'
set_option maxRecDepth 100000 in
set_option maxHeartbeats 2000000 in
theorem isSorted_any (b o cp : Nat) (L : List (Int × Int)) (w : World) (hp : RC w w.heap.size (some ⟨b, o, none⟩) L) (hbw : b < w.heap.size) (hl : L.length ≤ 5) (hl1 : 0 < L.length) :
    Calls Tryd.prog 36 #[.slice (some ⟨b, o, none⟩) L.length cp, .func (.func 37) #[] #[]] w (SortAns L w) := by
  have HP := Lib.hid hp
  have eg : ∀ args w, (callFunc 37 args).run Tryd.prog w = .ok (.enter 37 args) w := enters_of Tryd.func37 (by kernel_rfl) rfl
  obtain ⟨l, hll⟩ : ∃ l, L.length = l + 1 := ⟨L.length - 1, by omega⟩
  have hw1 : IntKind.i64.wrap ((L.length : Int) - 1) = (l : Int) := by rw [IntKind.wrap_i64]; omega
  have hw2 : wrap64 ((L.length : Int) - 1) = (l : Int) := (IntWalk.wrap64_in _ ⟨by omega, by omega⟩).trans (by omega)
  have HLL := Lib.hid hll
  have hl5 : l < L.length := by omega
  clear hp hll
  go_enter Tryd.func36, Tryd.ntmps36
  go_wp2_with fail
  clear hw1 hw2
  go_loopw [5] (fun v wr => ∃ i : Nat, i ≤ l ∧ v = .int .i64 i ∧ (∀ k p q, i ≤ k → L[k]? = some p → L[k + 1]? = some q → gtP p q = false) ∧ Below w.heap.size w wr) (fun v _ => (intOf v).toNat)
  case atStart => exact ⟨l, Nat.le_refl _, rfl, fun k p q hk _ h => by have := (List.getElem?_eq_some_iff.1 h).1; have h7 := HLL.out; omega, Below.refl _ _⟩
  case round =>
    obtain ⟨i, hil, rfl, hall, hb⟩ := hrel
    have HALL := Lib.hid hall
    have HB := Lib.hid hb
    have hi0 : (0 : Int) ≤ (i : Int) := by omega
    clear hall
    by_cases hz : i = 0
    · subst hz
      have t0 : ¬ (0 : Int) < ((0 : Nat) : Int) := by omega
      clear hb
      go_wp2_with fail
      go_ret
      exact ⟨true, rfl, fun _ k p q h1 h2 => HALL.out k p q (Nat.zero_le _) h1 h2, fun h => by (cases h), HB.out⟩
    · have t0 : (0 : Int) < (i : Int) := by omega
      obtain ⟨im, him⟩ : ∃ im, i = im + 1 := ⟨i - 1, by omega⟩
      have hwa : IntKind.i64.wrap ((i : Int) - 1) = (im : Int) := by rw [IntKind.wrap_i64]; omega
      have hwb : wrap64 ((i : Int) - 1) = (im : Int) := (IntWalk.wrap64_in _ ⟨by omega, by omega⟩).trans (by omega)
      have hi1 : (i : Int) < (L.length : Int) := by omega
      have hm0 : (0 : Int) ≤ (im : Int) := by omega
      have hm1 : (im : Int) < (L.length : Int) := by omega
      obtain ⟨⟨xa, xb⟩, hx⟩ : ∃ x, L[i]? = some x := ⟨_, List.getElem?_eq_getElem (by omega)⟩
      obtain ⟨⟨ya, yb⟩, hy⟩ : ∃ x, L[im]? = some x := ⟨_, List.getElem?_eq_getElem (by omega)⟩
      obtain ⟨b', o', e9, -, c0, c1⟩ := (HP.out.below hb) i _ hx
      injection e9 with e9; injection e9 with e91 e92; subst e91; subst e92
      obtain ⟨b', o', e9, -, d0, d1⟩ := (HP.out.below hb) im _ hy
      injection e9 with e9; injection e9 with e91 e92; subst e91; subst e92
      simp only at c0 c1 d0 d1
      have HBW : Hid (b < wr.drew.heap.size) := Nat.lt_of_lt_of_le hbw hb.size
      obtain ⟨cv, hcv⟩ : ∃ c, cmpP (xa, xb) (ya, yb) = c := ⟨_, rfl⟩
      have hcm : ∀ W, Calls Tryd.prog 37 #[.agg #[.int .i64 xa, .int .i64 xb], .agg #[.int .i64 ya, .int .i64 yb]] W fun e w' => e = .returned (.int .i64 cv) ∧ Below W.heap.size W w' := fun W => by have := compareB_any xa xb ya yb W; rwa [hcv] at this
      have HCMP := Lib.hid hcm
      have hlt := cmpP_lt (xa, xb) (ya, yb)
      rw [hcv] at hlt
      have HX := Lib.hid hx
      have HY := Lib.hid hy
      have HIM := Lib.hid him
      by_cases hc : cv < 0
      · have t1 : decide (cv < 0) = true := decide_eq_true hc
        rw [t1] at hlt
        have HG := Lib.hid hlt
        clear hb hcv hcm hx hy hlt him hc
        go_wp2_with fail
        refine wp_region_held_drew (S := (fun w' => w'.cell? ⟨b, o + i * 2, none⟩ = some (.int .i64 xa) ∧ w'.cell? ⟨b, o + i * 2 + 1, none⟩ = some (.int .i64 xb) ∧ w'.cell? ⟨b, o + im * 2, none⟩ = some (.int .i64 ya) ∧ w'.cell? ⟨b, o + im * 2 + 1, none⟩ = some (.int .i64 yb))) (by kernel_rfl) ?_ (fun hHeld => ?_)
        · exact ⟨c0, c1, d0, d1⟩
        refine wpAnyH_take (i := 0) (v := ?_) rfl (by kernel_rfl) (by kernel_rfl) (by kernel_rfl) (fun _ _ _ h => h) (Or.inl ⟨by rfl, ?_⟩) (by assumption) ?_
        rotate_left
        · (intro w hSw; (try dsimp only at hSw); (try simp only [List.getElem_toArray, List.getElem_cons_succ, List.getElem_cons_zero]); first | (go_simp; done) | (go_simp; with_reducible rfl))
        try simp only [Act.put, List.getElem_toArray, List.getElem_cons_succ, List.getElem_cons_zero, List.setIfInBounds_toArray, List.set_cons_zero, List.set_cons_succ]
        refine wpAnyH_take (i := 1) (v := ?_) rfl (by kernel_rfl) (by kernel_rfl) (by kernel_rfl) (fun _ _ _ h => h) (Or.inl ⟨by rfl, ?_⟩) (by assumption) ?_
        rotate_left
        · (intro w hSw; (try dsimp only at hSw); (try simp only [List.getElem_toArray, List.getElem_cons_succ, List.getElem_cons_zero]); first | (go_simp; done) | (go_simp; with_reducible rfl))
        try simp only [Act.put, List.getElem_toArray, List.getElem_cons_succ, List.getElem_cons_zero, List.setIfInBounds_toArray, List.set_cons_zero, List.set_cons_succ]
        refine wpAnyH_take (i := 2) (v := ?_) rfl (by kernel_rfl) (by kernel_rfl) (by kernel_rfl) (fun _ _ _ h => h) (Or.inl ⟨by rfl, ?_⟩) (by assumption) ?_
        rotate_left
        · (intro w hSw; (try dsimp only at hSw); (try simp only [List.getElem_toArray, List.getElem_cons_succ, List.getElem_cons_zero]); first | (go_simp; done) | (go_simp; with_reducible rfl))
        try simp only [Act.put, List.getElem_toArray, List.getElem_cons_succ, List.getElem_cons_zero, List.setIfInBounds_toArray, List.set_cons_zero, List.set_cons_succ]
        refine wpAnyH_take (i := 3) (v := ?_) rfl (by kernel_rfl) (by kernel_rfl) (by kernel_rfl) (fun _ _ _ h => h) (Or.inl ⟨by rfl, ?_⟩) (by assumption) ?_
        rotate_left
        · (intro w hSw; (try dsimp only at hSw); (try simp only [List.getElem_toArray, List.getElem_cons_succ, List.getElem_cons_zero]); first | (go_simp; done) | (go_simp; with_reducible rfl))
        try simp only [Act.put, List.getElem_toArray, List.getElem_cons_succ, List.getElem_cons_zero, List.setIfInBounds_toArray, List.set_cons_zero, List.set_cons_succ]
        refine wpAnyH_take (i := 4) (v := ?_) rfl (by kernel_rfl) (by kernel_rfl) (by kernel_rfl) (fun _ _ _ h => h) (Or.inl ⟨by rfl, ?_⟩) (by assumption) ?_
        rotate_left
        · (intro w hSw; (try dsimp only at hSw); (try simp only [List.getElem_toArray, List.getElem_cons_succ, List.getElem_cons_zero]); first | (go_simp; done) | (go_simp; with_reducible rfl))
        try simp only [Act.put, List.getElem_toArray, List.getElem_cons_succ, List.getElem_cons_zero, List.setIfInBounds_toArray, List.set_cons_zero, List.set_cons_succ]
        refine wpAnyH_take (i := 5) (v := ?_) rfl (by kernel_rfl) (by kernel_rfl) (by kernel_rfl) (fun _ _ _ h => h) (Or.inl ⟨by rfl, ?_⟩) (by assumption) ?_
        rotate_left
        · (intro w hSw; (try dsimp only at hSw); (try simp only [List.getElem_toArray, List.getElem_cons_succ, List.getElem_cons_zero]); first | (go_simp; done) | (go_simp; with_reducible rfl))
        try simp only [Act.put, List.getElem_toArray, List.getElem_cons_succ, List.getElem_cons_zero, List.setIfInBounds_toArray, List.set_cons_zero, List.set_cons_succ]
        refine wpAnyH_take (i := 6) (v := ?_) rfl (by kernel_rfl) (by kernel_rfl) (by kernel_rfl) (fun _ _ _ h => h) (Or.inl ⟨by rfl, ?_⟩) (by assumption) ?_
        rotate_left
        · (intro w hSw; (try dsimp only at hSw); (try simp only [List.getElem_toArray, List.getElem_cons_succ, List.getElem_cons_zero]); first | (go_simp; done) | (go_simp; with_reducible rfl))
        try simp only [Act.put, List.getElem_toArray, List.getElem_cons_succ, List.getElem_cons_zero, List.setIfInBounds_toArray, List.set_cons_zero, List.set_cons_succ]
        refine wpAnyH_take (i := 7) (v := ?_) rfl (by kernel_rfl) (by kernel_rfl) (by kernel_rfl) (fun _ _ _ h => h) (Or.inl ⟨by rfl, ?_⟩) (by assumption) ?_
        rotate_left
        · (intro w hSw; (try dsimp only at hSw); (try simp only [List.getElem_toArray, List.getElem_cons_succ, List.getElem_cons_zero]); first | (go_simp; done) | (go_simp; with_reducible rfl))
        try simp only [Act.put, List.getElem_toArray, List.getElem_cons_succ, List.getElem_cons_zero, List.setIfInBounds_toArray, List.set_cons_zero, List.set_cons_succ]
        refine wpAnyH_take (i := 8) (v := ?_) rfl (by kernel_rfl) (by kernel_rfl) (by kernel_rfl) (fun _ _ _ h => h) (Or.inl ⟨by rfl, ?_⟩) (by assumption) ?_
        rotate_left
        · (intro w hSw; (try dsimp only at hSw); (try simp only [List.getElem_toArray, List.getElem_cons_succ, List.getElem_cons_zero]); first | (go_simp; done) | (go_simp; with_reducible rfl))
        try simp only [Act.put, List.getElem_toArray, List.getElem_cons_succ, List.getElem_cons_zero, List.setIfInBounds_toArray, List.set_cons_zero, List.set_cons_succ]
        refine wpAnyH_take (i := 9) (v := ?_) rfl (by kernel_rfl) (by kernel_rfl) (by kernel_rfl) (fun _ _ _ h => h) (Or.inl ⟨by rfl, ?_⟩) (by assumption) ?_
        rotate_left
        · (intro w hSw; (try dsimp only at hSw); (try simp only [List.getElem_toArray, List.getElem_cons_succ, List.getElem_cons_zero]); first | (go_simp; done) | (go_simp; with_reducible rfl))
        try simp only [Act.put, List.getElem_toArray, List.getElem_cons_succ, List.getElem_cons_zero, List.setIfInBounds_toArray, List.set_cons_zero, List.set_cons_succ]
        refine wpAnyH_ready (rs := [10]) (by kernel_rfl) (by simp) ?_
        refine AllReadyH.cons rfl (fun K hK => ?_) AllReadyH.nil
        try simp only [List.getElem_toArray, List.getElem_cons_succ, List.getElem_cons_zero]
        go_simp
        refine (HCMP.out _).mono ?_; rintro e9 w9 ⟨rfl, hb9⟩
        refine hK.out _ _ ?_ (fun hHeld => ?_)
        · exact ⟨(hb9.cell (p := ⟨b, o + i * 2, none⟩) HBW.out).trans hHeld.1, (hb9.cell (p := ⟨b, o + i * 2 + 1, none⟩) HBW.out).trans hHeld.2.1, (hb9.cell (p := ⟨b, o + im * 2, none⟩) HBW.out).trans hHeld.2.2.1, (hb9.cell (p := ⟨b, o + im * 2 + 1, none⟩) HBW.out).trans hHeld.2.2.2⟩
        clear hK K
        try simp only [Act.put, List.getElem_toArray, List.getElem_cons_succ, List.getElem_cons_zero, List.setIfInBounds_toArray, List.set_cons_zero, List.set_cons_succ]
        refine wpAnyH_take (i := 11) (v := ?_) rfl (by kernel_rfl) (by kernel_rfl) (by kernel_rfl) (fun _ _ _ h => h) (Or.inl ⟨by rfl, ?_⟩) (by assumption) ?_
        rotate_left
        · (intro w hSw; (try dsimp only at hSw); (try simp only [List.getElem_toArray, List.getElem_cons_succ, List.getElem_cons_zero]); first | (go_simp; done) | (go_simp; with_reducible rfl))
        try simp only [Act.put, List.getElem_toArray, List.getElem_cons_succ, List.getElem_cons_zero, List.setIfInBounds_toArray, List.set_cons_zero, List.set_cons_succ]
        refine wpAnyH_done (by kernel_rfl) ?_ _
        go_wp2_with fail
        go_ret
        exact ⟨false, rfl, fun h => by (cases h), fun _ => ⟨im, (ya, yb), (xa, xb), HY.out, by rw [← HIM.out]; exact HX.out, HG.out.symm⟩, HB.out.trans ((und hb9).mono HB.out.size)⟩
      · have t1 : decide (cv < 0) = false := decide_eq_false hc
        rw [t1] at hlt
        have HG := Lib.hid hlt
        clear hb hcv hcm hx hy hlt him hc
        go_wp2_with fail
        refine wp_region_held_drew (S := (fun w' => w'.cell? ⟨b, o + i * 2, none⟩ = some (.int .i64 xa) ∧ w'.cell? ⟨b, o + i * 2 + 1, none⟩ = some (.int .i64 xb) ∧ w'.cell? ⟨b, o + im * 2, none⟩ = some (.int .i64 ya) ∧ w'.cell? ⟨b, o + im * 2 + 1, none⟩ = some (.int .i64 yb))) (by kernel_rfl) ?_ (fun hHeld => ?_)
        · exact ⟨c0, c1, d0, d1⟩
        refine wpAnyH_take (i := 0) (v := ?_) rfl (by kernel_rfl) (by kernel_rfl) (by kernel_rfl) (fun _ _ _ h => h) (Or.inl ⟨by rfl, ?_⟩) (by assumption) ?_
        rotate_left
        · (intro w hSw; (try dsimp only at hSw); (try simp only [List.getElem_toArray, List.getElem_cons_succ, List.getElem_cons_zero]); first | (go_simp; done) | (go_simp; with_reducible rfl))
        try simp only [Act.put, List.getElem_toArray, List.getElem_cons_succ, List.getElem_cons_zero, List.setIfInBounds_toArray, List.set_cons_zero, List.set_cons_succ]
        refine wpAnyH_take (i := 1) (v := ?_) rfl (by kernel_rfl) (by kernel_rfl) (by kernel_rfl) (fun _ _ _ h => h) (Or.inl ⟨by rfl, ?_⟩) (by assumption) ?_
        rotate_left
        · (intro w hSw; (try dsimp only at hSw); (try simp only [List.getElem_toArray, List.getElem_cons_succ, List.getElem_cons_zero]); first | (go_simp; done) | (go_simp; with_reducible rfl))
        try simp only [Act.put, List.getElem_toArray, List.getElem_cons_succ, List.getElem_cons_zero, List.setIfInBounds_toArray, List.set_cons_zero, List.set_cons_succ]
        refine wpAnyH_take (i := 2) (v := ?_) rfl (by kernel_rfl) (by kernel_rfl) (by kernel_rfl) (fun _ _ _ h => h) (Or.inl ⟨by rfl, ?_⟩) (by assumption) ?_
        rotate_left
        · (intro w hSw; (try dsimp only at hSw); (try simp only [List.getElem_toArray, List.getElem_cons_succ, List.getElem_cons_zero]); first | (go_simp; done) | (go_simp; with_reducible rfl))
        try simp only [Act.put, List.getElem_toArray, List.getElem_cons_succ, List.getElem_cons_zero, List.setIfInBounds_toArray, List.set_cons_zero, List.set_cons_succ]
        refine wpAnyH_take (i := 3) (v := ?_) rfl (by kernel_rfl) (by kernel_rfl) (by kernel_rfl) (fun _ _ _ h => h) (Or.inl ⟨by rfl, ?_⟩) (by assumption) ?_
        rotate_left
        · (intro w hSw; (try dsimp only at hSw); (try simp only [List.getElem_toArray, List.getElem_cons_succ, List.getElem_cons_zero]); first | (go_simp; done) | (go_simp; with_reducible rfl))
        try simp only [Act.put, List.getElem_toArray, List.getElem_cons_succ, List.getElem_cons_zero, List.setIfInBounds_toArray, List.set_cons_zero, List.set_cons_succ]
        refine wpAnyH_take (i := 4) (v := ?_) rfl (by kernel_rfl) (by kernel_rfl) (by kernel_rfl) (fun _ _ _ h => h) (Or.inl ⟨by rfl, ?_⟩) (by assumption) ?_
        rotate_left
        · (intro w hSw; (try dsimp only at hSw); (try simp only [List.getElem_toArray, List.getElem_cons_succ, List.getElem_cons_zero]); first | (go_simp; done) | (go_simp; with_reducible rfl))
        try simp only [Act.put, List.getElem_toArray, List.getElem_cons_succ, List.getElem_cons_zero, List.setIfInBounds_toArray, List.set_cons_zero, List.set_cons_succ]
        refine wpAnyH_take (i := 5) (v := ?_) rfl (by kernel_rfl) (by kernel_rfl) (by kernel_rfl) (fun _ _ _ h => h) (Or.inl ⟨by rfl, ?_⟩) (by assumption) ?_
        rotate_left
        · (intro w hSw; (try dsimp only at hSw); (try simp only [List.getElem_toArray, List.getElem_cons_succ, List.getElem_cons_zero]); first | (go_simp; done) | (go_simp; with_reducible rfl))
        try simp only [Act.put, List.getElem_toArray, List.getElem_cons_succ, List.getElem_cons_zero, List.setIfInBounds_toArray, List.set_cons_zero, List.set_cons_succ]
        refine wpAnyH_take (i := 6) (v := ?_) rfl (by kernel_rfl) (by kernel_rfl) (by kernel_rfl) (fun _ _ _ h => h) (Or.inl ⟨by rfl, ?_⟩) (by assumption) ?_
        rotate_left
        · (intro w hSw; (try dsimp only at hSw); (try simp only [List.getElem_toArray, List.getElem_cons_succ, List.getElem_cons_zero]); first | (go_simp; done) | (go_simp; with_reducible rfl))
        try simp only [Act.put, List.getElem_toArray, List.getElem_cons_succ, List.getElem_cons_zero, List.setIfInBounds_toArray, List.set_cons_zero, List.set_cons_succ]
        refine wpAnyH_take (i := 7) (v := ?_) rfl (by kernel_rfl) (by kernel_rfl) (by kernel_rfl) (fun _ _ _ h => h) (Or.inl ⟨by rfl, ?_⟩) (by assumption) ?_
        rotate_left
        · (intro w hSw; (try dsimp only at hSw); (try simp only [List.getElem_toArray, List.getElem_cons_succ, List.getElem_cons_zero]); first | (go_simp; done) | (go_simp; with_reducible rfl))
        try simp only [Act.put, List.getElem_toArray, List.getElem_cons_succ, List.getElem_cons_zero, List.setIfInBounds_toArray, List.set_cons_zero, List.set_cons_succ]
        refine wpAnyH_take (i := 8) (v := ?_) rfl (by kernel_rfl) (by kernel_rfl) (by kernel_rfl) (fun _ _ _ h => h) (Or.inl ⟨by rfl, ?_⟩) (by assumption) ?_
        rotate_left
        · (intro w hSw; (try dsimp only at hSw); (try simp only [List.getElem_toArray, List.getElem_cons_succ, List.getElem_cons_zero]); first | (go_simp; done) | (go_simp; with_reducible rfl))
        try simp only [Act.put, List.getElem_toArray, List.getElem_cons_succ, List.getElem_cons_zero, List.setIfInBounds_toArray, List.set_cons_zero, List.set_cons_succ]
        refine wpAnyH_take (i := 9) (v := ?_) rfl (by kernel_rfl) (by kernel_rfl) (by kernel_rfl) (fun _ _ _ h => h) (Or.inl ⟨by rfl, ?_⟩) (by assumption) ?_
        rotate_left
        · (intro w hSw; (try dsimp only at hSw); (try simp only [List.getElem_toArray, List.getElem_cons_succ, List.getElem_cons_zero]); first | (go_simp; done) | (go_simp; with_reducible rfl))
        try simp only [Act.put, List.getElem_toArray, List.getElem_cons_succ, List.getElem_cons_zero, List.setIfInBounds_toArray, List.set_cons_zero, List.set_cons_succ]
        refine wpAnyH_ready (rs := [10]) (by kernel_rfl) (by simp) ?_
        refine AllReadyH.cons rfl (fun K hK => ?_) AllReadyH.nil
        try simp only [List.getElem_toArray, List.getElem_cons_succ, List.getElem_cons_zero]
        go_simp
        refine (HCMP.out _).mono ?_; rintro e9 w9 ⟨rfl, hb9⟩
        refine hK.out _ _ ?_ (fun hHeld => ?_)
        · exact ⟨(hb9.cell (p := ⟨b, o + i * 2, none⟩) HBW.out).trans hHeld.1, (hb9.cell (p := ⟨b, o + i * 2 + 1, none⟩) HBW.out).trans hHeld.2.1, (hb9.cell (p := ⟨b, o + im * 2, none⟩) HBW.out).trans hHeld.2.2.1, (hb9.cell (p := ⟨b, o + im * 2 + 1, none⟩) HBW.out).trans hHeld.2.2.2⟩
        clear hK K
        try simp only [Act.put, List.getElem_toArray, List.getElem_cons_succ, List.getElem_cons_zero, List.setIfInBounds_toArray, List.set_cons_zero, List.set_cons_succ]
        refine wpAnyH_take (i := 11) (v := ?_) rfl (by kernel_rfl) (by kernel_rfl) (by kernel_rfl) (fun _ _ _ h => h) (Or.inl ⟨by rfl, ?_⟩) (by assumption) ?_
        rotate_left
        · (intro w hSw; (try dsimp only at hSw); (try simp only [List.getElem_toArray, List.getElem_cons_succ, List.getElem_cons_zero]); first | (go_simp; done) | (go_simp; with_reducible rfl))
        try simp only [Act.put, List.getElem_toArray, List.getElem_cons_succ, List.getElem_cons_zero, List.setIfInBounds_toArray, List.set_cons_zero, List.set_cons_succ]
        refine wpAnyH_done (by kernel_rfl) ?_ _
        go_wp2_with fail
        go_roundw
        case rel => exact ⟨im, by have := HIM.out; omega, by first | rfl | go_num, fun k p q hk h1 h2 => by
          by_cases e : im = k
          · subst e
            rw [HY.out] at h1
            rw [← HIM.out, HX.out] at h2
            injection h1 with h1; injection h2 with h2; subst h1; subst h2
            exact HG.out.symm
          · exact HALL.out k p q (by have := HIM.out; omega) h1 h2, HB.out.trans ((und hb9).mono HB.out.size)⟩
        case measure => have := HIM.out; (simp [intOf]) <;> omega
/-! ### the net of the pairs -/
set_option maxRecDepth 100000 in
set_option maxHeartbeats 4000000 in
theorem linksJoin_any (m : Nat) (h2 : 2 ≤ m) (h6 : m ≤ 6) (Ap : Option Addr) (cp : Nat) (L : List (Int × Int)) (w : World) (hT : Tab w) (hp : RC w w.heap.size Ap L) (hl : L.length ≤ 5) (hn : NetIs (m : Int) (lw L)) :
    Calls Tryd.prog 38 #[.int .i64 m, .slice Ap L.length cp] w fun e w' => e = .returned (.bool (joins (lw L) (full L.length) (allPl m))) ∧ Below w.heap.size w w' := by
  have HP := Lib.hid hp
  have HT := Lib.hid hT
  have HN := Lib.hid hn
  obtain ⟨an, han⟩ : ∃ a, joins (lw L) (full L.length) (allPl (m : Int)) = a := ⟨_, rfl⟩
  have HAN := Lib.hid han
  rw [han]
  have hst0 : BoxSt w (w.alloc (.cells #[.int .i64 (m : Int), .slice none 0 0] 45)) w.heap.size 45 47 (m : Int) (.slice none 0 0) (lw (L.take 0)) :=
    ⟨(Below.refl _ _).alloc (Nat.le_refl _) _, heap_alloc_new _ _, World.ownsRow_nil _ _ _ _⟩
  have ST0 := Lib.hid hst0
  obtain ⟨i0, hi0, hz0, hz1', hz2⟩ := info_parts infoWy
  clear hp hT hn han hst0
  go_enter Tryd.func38, Tryd.ntmps38
  go_wp2_with fail
  go_loopw [12] (fun i wr => ∃ (k : Nat) (v : Value), k ≤ L.length ∧ i = .int .i64 k ∧ BoxSt w wr w.heap.size 45 47 (m : Int) v (lw (L.take k))) (fun i _ => L.length - (intOf i).toNat)
  case atStart => exact ⟨0, _, Nat.zero_le _, rfl, ST0.out⟩
  case round =>
    clear ST0
    obtain ⟨k, v, hk, rfl, hst⟩ := hrel
    have ST := Lib.hid hst
    obtain ⟨b0, b1, bf⟩ := hst.cells
    have hlt0 := hst.lt
    have HB := Lib.hid hst.low
    have hk0 : (0 : Int) ≤ (k : Int) := by omega
    by_cases hlk : k < L.length
    · have hk1 : (k : Int) < (L.length : Int) := by omega
      obtain ⟨⟨pa, pb⟩, hx⟩ : ∃ x, L[k]? = some x := ⟨_, List.getElem?_eq_getElem hlk⟩
      obtain ⟨b, o, rfl, hB, c0, c1⟩ := (HP.out.below hst.low).at_ hx
      simp only at c0 c1
      have ST2 := Lib.hid (ST.out.alloc_ (.cells #[.int .i64 pa, .int .i64 pb] 28))
      have hvb : (wr.alloc (.cells #[.int .i64 pa, .int .i64 pb] 28)).heap[wr.heap.size]? = some (.cells #[.int .i64 pa, .int .i64 pb] 28 (0, 0)) := heap_alloc_new _ _
      obtain ⟨V, hV⟩ : ∃ V, wr.alloc (.cells #[.int .i64 pa, .int .i64 pb] 28) = V := ⟨_, rfl⟩
      rw [hV] at ST2 hvb
      have p0 : V.cell? ⟨wr.heap.size, 0, none⟩ = some (.int .i64 pa) := cell_of_row _ _ 0 _ _ (0, 0) hvb
      have p1 : V.cell? ⟨wr.heap.size, 1, none⟩ = some (.int .i64 pb) := cell_of_row _ _ 1 _ _ (0, 0) hvb
      obtain ⟨y0, y1, yf⟩ := ST2.out.cells
      have hzV := ST2.out.lt
      obtain ⟨X, hX⟩ : ∃ X, lw (L.take k) = X := ⟨_, rfl⟩
      have hgl : X.length ≤ 5 := by rw [← hX, lw_len, List.length_take]; omega
      have HST : Hid (lw (L.take (k + 1)) = X ++ [⟨pa, pb, 0⟩]) := by show _ = _; rw [lw_take hx, hX]
      rw [hX] at ST ST2
      have hVs : V.heap.size = wr.heap.size + 1 := by rw [← hV]; simp
      have HVS := Lib.hid hVs
      clear hst hx hX hvb b0 b1 bf hVs
      go_wp2_with (at_builtin; refine wpList_append_lies _ rfl _ _ _ rfl (w.heap.size + 1) 47 i0 _ 3 24 Tryd.underlying43 hi0 hz0 hz1' hz2 rfl (by decide) v _ (wyCells X) rfl (World.ownsRow.alloc ST2.out.own _) ⟨V.heap.size, 0, none⟩ 1 1 [.int .i64 pa, .int .i64 pb, .int .i64 0] rfl rfl (World.news_of_block (cs := #[.int .i64 pa, .int .i64 pb, .int .i64 0]) (t := 47) (fr := (0, 0)) (heap_alloc_new _ _)) (by simp [Value.oneCell']) (by omega) (by unfold maxLen; omega) (by omega) (by (simp; omega)) (V.heap.size + 1) (by simp) ?_; intro gg cc w5 hown5 hgrow5 hat5 hlt5; have hlow5 := ST2.out.app_low hgrow5; obtain ⟨cc5, cf5⟩ := ST2.out.app_cells hgrow5; have S5 := Lib.hid (BoxSt.append ST2.out ⟨pa, pb, 0⟩ hown5 hgrow5); clear hown5 hgrow5 hat5 hlt5 hlow5)
      go_roundw
      case rel => exact ⟨k + 1, _, by omega, by go_num, by rw [HST.out]; exact S5.out⟩
      case measure => (simp [intOf]) <;> omega
    · obtain rfl : k = L.length := by omega
      rw [List.take_length] at hst
      obtain ⟨A1, c9, rfl⟩ := hst.form
      have HRW := Lib.hid hst.rw
      have hnl : ¬ (L.length : Int) < (L.length : Int) := by omega
      have hfb := full_bd L.length (by omega)
      obtain ⟨al0, al1, al2⟩ := allPl_bd HN.out
      have HALL : Hid (∀ W, Calls Tryd.prog 55 #[.agg #[.int .i64 (m : Int), .slice A1 (lw L).length c9]] W fun e w' => e = .returned (.int .i64 (full L.length)) ∧ Below W.heap.size W w') := fun W => by
        have h9 := allWays_any (m : Int) A1 (lw L).length c9 (by rw [lw_len]; omega) W
        rwa [show full (lw L).length = full L.length by rw [lw_len]] at h9
      have HAPL : Hid (∀ W, Calls Tryd.prog 58 #[.agg #[.int .i64 (m : Int), .slice A1 (lw L).length c9]] W fun e w' => e = .returned (.int .i64 (allPl (m : Int))) ∧ Below W.heap.size W w') := fun W => allPlaces_any (m : Int) _ (by omega) (by omega) W
      have HJN : Hid (∀ W, RW W W.heap.size A1 (lw L) → Tab W → Calls Tryd.prog 57 #[.agg #[.int .i64 (m : Int), .slice A1 (lw L).length c9], .int .i64 (full L.length), .int .i64 (allPl (m : Int))] W fun e w' => e = .returned (.bool an) ∧ Below W.heap.size W w') := fun W h h9 => by
        have h8 := setJoins_any (m : Int) (full L.length) (allPl (m : Int)) A1 c9 (lw L) W h HN.out hfb.1 (by omega) (by omega) al2 h9
        rwa [HAN.out] at h8
      have HTB : Hid (Tab wr) := HT.out.later HB.out
      have HLT : Hid (w.heap.size < wr.heap.size) := hlt0
      obtain ⟨b0, b1, -⟩ := hst.cells
      clear hst hfb al0 al1 al2
      go_wp2_with fail
      refine wp_region_held_drew (S := (fun w' => w'.cell? ⟨w.heap.size, 0, none⟩ = some (.int .i64 (m : Int)) ∧ w'.cell? ⟨w.heap.size, 1, none⟩ = some (.slice A1 (lw L).length c9))) (by kernel_rfl) ?_ (fun hHeld => ?_)
      · exact ⟨b0, b1⟩
      refine wpAnyH_take (i := 0) (v := ?_) rfl (by kernel_rfl) (by kernel_rfl) (by kernel_rfl) (fun _ _ _ h => h) (Or.inl ⟨by rfl, ?_⟩) (by assumption) ?_
      rotate_left
      · (intro w hSw; (try dsimp only at hSw); (try simp only [List.getElem_toArray, List.getElem_cons_succ, List.getElem_cons_zero]); first | (go_simp; done) | (go_simp; with_reducible rfl))
      try simp only [Act.put, List.getElem_toArray, List.getElem_cons_succ, List.getElem_cons_zero, List.setIfInBounds_toArray, List.set_cons_zero, List.set_cons_succ]
      refine wpAnyH_take (i := 1) (v := ?_) rfl (by kernel_rfl) (by kernel_rfl) (by kernel_rfl) (fun _ _ _ h => h) (Or.inl ⟨by rfl, ?_⟩) (by assumption) ?_
      rotate_left
      · (intro w hSw; (try dsimp only at hSw); (try simp only [List.getElem_toArray, List.getElem_cons_succ, List.getElem_cons_zero]); first | (go_simp; done) | (go_simp; with_reducible rfl))
      try simp only [Act.put, List.getElem_toArray, List.getElem_cons_succ, List.getElem_cons_zero, List.setIfInBounds_toArray, List.set_cons_zero, List.set_cons_succ]
      refine wpAnyH_take (i := 3) (v := ?_) rfl (by kernel_rfl) (by kernel_rfl) (by kernel_rfl) (fun _ _ _ h => h) (Or.inl ⟨by rfl, ?_⟩) (by assumption) ?_
      rotate_left
      · (intro w hSw; (try dsimp only at hSw); (try simp only [List.getElem_toArray, List.getElem_cons_succ, List.getElem_cons_zero]); first | (go_simp; done) | (go_simp; with_reducible rfl))
      try simp only [Act.put, List.getElem_toArray, List.getElem_cons_succ, List.getElem_cons_zero, List.setIfInBounds_toArray, List.set_cons_zero, List.set_cons_succ]
      refine wpAnyH_ready (rs := [2]) (by kernel_rfl) (by simp) ?_
      refine AllReadyH.cons rfl (fun K hK => ?_) AllReadyH.nil
      try simp only [List.getElem_toArray, List.getElem_cons_succ, List.getElem_cons_zero]
      go_simp
      refine (HALL.out _).mono ?_; rintro e7 w7 ⟨rfl, hb7⟩; have g7 : Below wr.heap.size wr w7 := und hb7
      refine hK.out _ _ ?_ (fun hHeld => ?_)
      · exact ⟨(g7.cell (p := ⟨w.heap.size, 0, none⟩) HLT.out).trans b0, (g7.cell (p := ⟨w.heap.size, 1, none⟩) HLT.out).trans b1⟩
      clear hK K
      try simp only [Act.put, List.getElem_toArray, List.getElem_cons_succ, List.getElem_cons_zero, List.setIfInBounds_toArray, List.set_cons_zero, List.set_cons_succ]
      refine wpAnyH_ready (rs := [4]) (by kernel_rfl) (by simp) ?_
      refine AllReadyH.cons rfl (fun K hK => ?_) AllReadyH.nil
      try simp only [List.getElem_toArray, List.getElem_cons_succ, List.getElem_cons_zero]
      go_simp
      refine (HAPL.out _).mono ?_; rintro e8 w8 ⟨rfl, hb8⟩; have g8 : Below wr.heap.size wr w8 := bstep g7 g7.size hb8
      refine hK.out _ _ ?_ (fun hHeld => ?_)
      · exact ⟨(g8.cell (p := ⟨w.heap.size, 0, none⟩) HLT.out).trans b0, (g8.cell (p := ⟨w.heap.size, 1, none⟩) HLT.out).trans b1⟩
      clear hK K
      try simp only [Act.put, List.getElem_toArray, List.getElem_cons_succ, List.getElem_cons_zero, List.setIfInBounds_toArray, List.set_cons_zero, List.set_cons_succ]
      refine wpAnyH_ready (rs := [5]) (by kernel_rfl) (by simp) ?_
      refine AllReadyH.cons rfl (fun K hK => ?_) AllReadyH.nil
      try simp only [List.getElem_toArray, List.getElem_cons_succ, List.getElem_cons_zero]
      go_simp
      refine (HJN.out _ (HRW.out.later g8) (HTB.out.later g8)).mono ?_; rintro e9 w9 ⟨rfl, hb9⟩; have g9 : Below wr.heap.size wr w9 := bstep g8 g8.size hb9
      refine hK.out _ _ ?_ (fun hHeld => ?_)
      · exact ⟨(g9.cell (p := ⟨w.heap.size, 0, none⟩) HLT.out).trans b0, (g9.cell (p := ⟨w.heap.size, 1, none⟩) HLT.out).trans b1⟩
      clear hK K
      try simp only [Act.put, List.getElem_toArray, List.getElem_cons_succ, List.getElem_cons_zero, List.setIfInBounds_toArray, List.set_cons_zero, List.set_cons_succ]
      refine wpAnyH_take (i := 6) (v := ?_) rfl (by kernel_rfl) (by kernel_rfl) (by kernel_rfl) (fun _ _ _ h => h) (Or.inl ⟨by rfl, ?_⟩) (by assumption) ?_
      rotate_left
      · (intro w hSw; (try dsimp only at hSw); (try simp only [List.getElem_toArray, List.getElem_cons_succ, List.getElem_cons_zero]); first | (go_simp; done) | (go_simp; with_reducible rfl))
      try simp only [Act.put, List.getElem_toArray, List.getElem_cons_succ, List.getElem_cons_zero, List.setIfInBounds_toArray, List.set_cons_zero, List.set_cons_succ]
      refine wpAnyH_done (by kernel_rfl) ?_ _
      go_wp2_with fail
      go_ret
      exact ⟨rfl, by have h9 := bstep (B := w.heap.size) (W := w) HB.out (Nat.le_of_lt hlt0) g9; first | exact h9 | exact h9.drew⟩
/-! ### LinksOk -/
set_option maxRecDepth 100000 in
set_option maxHeartbeats 4000000 in
theorem LinksOk_any (n : Int) (Ap : Option Addr) (cp : Nat) (L : List (Int × Int)) (w : World) (hT : Tab w) (hp : RC w w.heap.size Ap L) (hpm : L.length ≤ 1073741824) :
    Calls Tryd.prog 10 #[.int .i64 n, .slice Ap L.length cp] w fun e w' => e = .returned (.bool (linksOk n L)) ∧ Below w.heap.size w w' := by
  have HP := Lib.hid hp
  have HT := Lib.hid hT
  clear hp hT
  cases hin : inB n 2 6
  · have HIN := Lib.hid hin
    rw [linksOk_no1 hin]
    clear hin
    go_enter Tryd.func10, Tryd.ntmps10
    go_wp2_with fail
    refine (treeSizeOk_any n _).mono ?_; rintro e2 w2 ⟨rfl, rfl⟩; rw [HIN.out]
    go_wp2_with fail
    go_ret
    exact ⟨rfl, Below.refl _ _⟩
  · have HIN := Lib.hid hin
    obtain ⟨n2, n6⟩ := inB_t hin
    obtain ⟨m, rfl⟩ := Int.eq_ofNat_of_zero_le (show 0 ≤ n by omega)
    have HW1 : Hid (IntKind.i64.wrap ((m : Int) - 1) = (m : Int) - 1) := IntWalk.i64_in _ ⟨by omega, by omega⟩
    have HW2 : Hid (wrap64 ((m : Int) - 1) = (m : Int) - 1) := IntWalk.wrap64_in _ ⟨by omega, by omega⟩
    clear hin
    by_cases hlm : L.length + 1 = m
    · have hbne : ((L.length : Int) != (m : Int) - 1) = false := by rw [bne_eq_false_iff_eq]; omega
      have hl5 : L.length ≤ 5 := by omega
      have hl1 : 0 < L.length := by omega
      have h2 : 2 ≤ m := by omega
      have h6 : m ≤ 6 := by omega
      have HLM := Lib.hid hlm
      obtain ⟨an, han⟩ : ∃ a, linksOk (m : Int) L = a := ⟨_, rfl⟩
      have HANS := Lib.hid han
      rw [han]
      obtain ⟨b, o, rfl, hbw, -, -⟩ := HP.out.at_ (List.getElem?_eq_getElem hl1)
      clear hlm han
      have hw1 := HW1.out
      have hw2 := HW2.out
      go_enter Tryd.func10, Tryd.ntmps10
      go_wp2_with fail
      refine (treeSizeOk_any (m : Int) _).mono ?_; rintro e2 w2 ⟨rfl, rfl⟩; rw [HIN.out]
      go_wp2_with fail
      clear hw1 hw2 hbne
      go_loopw [19] (fun i wr => ∃ k : Nat, k ≤ L.length ∧ i = .int .i64 k ∧ (∀ j p, j < k → L[j]? = some p → InP m p) ∧ Below w.heap.size w wr) (fun i _ => L.length - (intOf i).toNat)
      case atStart => exact ⟨0, Nat.zero_le _, rfl, fun j p hj => by omega, Below.refl _ _⟩
      case round =>
        obtain ⟨k, hk, rfl, hall, hb⟩ := hrel
        have HALL := Lib.hid hall
        have HB := Lib.hid hb
        have hk0 : (0 : Int) ≤ (k : Int) := by omega
        clear hall
        by_cases hlk : k < L.length
        · have hk1 : (k : Int) < (L.length : Int) := by omega
          obtain ⟨⟨pa, pb⟩, hx⟩ : ∃ x, L[k]? = some x := ⟨_, List.getElem?_eq_getElem hlk⟩
          obtain ⟨b', o', e9, -, c0, c1⟩ := (HP.out.below hb) k _ hx
          injection e9 with e9; injection e9 with e91 e92; subst e91; subst e92
          simp only at c0 c1
          have HX := Lib.hid hx
          have hvb : (wr.alloc (.cells #[.int .i64 pa, .int .i64 pb] 28)).heap[wr.heap.size]? = some (.cells #[.int .i64 pa, .int .i64 pb] 28 (0, 0)) := heap_alloc_new _ _
          have HBV : Hid (Below w.heap.size w (wr.alloc (.cells #[.int .i64 pa, .int .i64 pb] 28))) := hb.alloc hb.size _
          obtain ⟨V, hV⟩ : ∃ V, wr.alloc (.cells #[.int .i64 pa, .int .i64 pb] 28) = V := ⟨_, rfl⟩
          rw [hV] at hvb HBV
          have p0 : V.cell? ⟨wr.heap.size, 0, none⟩ = some (.int .i64 pa) := cell_of_row _ _ 0 _ _ (0, 0) hvb
          have p1 : V.cell? ⟨wr.heap.size, 1, none⟩ = some (.int .i64 pb) := cell_of_row _ _ 1 _ _ (0, 0) hvb
          clear hb hx hvb
          by_cases a0 : pa < 0
          · have HF : Hid (an = false) := by show _ = _; rw [← HANS.out]; exact linksOk_in HX.out (by simp only; omega)
            go_wp2_with fail
            go_ret
            exact ⟨ret_bool HF.out.symm, HBV.out⟩
          · by_cases a1 : pb ≤ pa
            · have HF : Hid (an = false) := by show _ = _; rw [← HANS.out]; exact linksOk_in HX.out (by simp only; omega)
              go_wp2_with fail
              go_ret
              exact ⟨ret_bool HF.out.symm, HBV.out⟩
            · by_cases a2 : (m : Int) ≤ pb
              · have HF : Hid (an = false) := by show _ = _; rw [← HANS.out]; exact linksOk_in HX.out (by simp only; omega)
                go_wp2_with fail
                go_ret
                exact ⟨ret_bool HF.out.symm, HBV.out⟩
              · have HI : Hid (InP m (pa, pb)) := ⟨by omega, by omega, by omega⟩
                go_wp2_with fail
                go_roundw
                case rel => exact ⟨k + 1, by omega, by go_num, fun j p hj hjp => by
                  by_cases e : j = k
                  · subst e; rw [HX.out] at hjp; injection hjp with hjp; subst hjp; exact HI.out
                  · exact HALL.out j p (by omega) hjp, HBV.out⟩
                case measure => (simp [intOf]) <;> omega
        · obtain rfl : k = L.length := by omega
          have hnl : ¬ (L.length : Int) < (L.length : Int) := by omega
          have hin : ∀ p ∈ L, InP m p := fun p hp => by
            obtain ⟨j, hj⟩ := List.getElem?_of_mem hp
            exact HALL.out j p (List.getElem?_eq_some_iff.1 hj).1 hj
          have HIN2 := Lib.hid hin
          have hnet := lw_net2 h2 h6 HLM.out hin
          have hs : b < wr.heap.size := Nat.lt_of_lt_of_le hbw hb.size
          have HSRT := Lib.hid (isSorted_any b o cp L wr ((HP.out.later hb)) hs hl5 hl1)
          have HJN := Lib.hid (fun W (h1 : Tab W) (h9 : RC W W.heap.size (some ⟨b, o, none⟩) L) => linksJoin_any m h2 h6 (some ⟨b, o, none⟩) cp L W h1 h9 hl5 hnet)
          clear hb hin hnet
          go_wp2_with fail
          refine HSRT.out.mono ?_; rintro e8 w8 ⟨r, rfl, hr1, hr2, hb8⟩
          have HB8 := Lib.hid (bstep (B := w.heap.size) (W := w) HB.out HB.out.size hb8)
          cases r
          · obtain ⟨k9, p9, q9, z1, z2, z3⟩ := hr2 rfl
            have HF : Hid (an = false) := by show _ = _; rw [← HANS.out]; exact linksOk_ord z1 z2 z3
            clear hr1 hr2 hb8 z1 z2 z3
            go_wp2_with fail
            go_ret
            exact ⟨ret_bool HF.out.symm, HB8.out⟩
          · have HF : Hid (joins (lw L) (full L.length) (allPl (m : Int)) = an) := by show _ = _; rw [← HANS.out]; exact (links_weak h2 h6 HLM.out HIN2.out (hr1 rfl)).symm
            clear hr1 hr2 hb8
            go_wp2_with fail
            refine (HJN.out _ (HT.out.later HB8.out) (HP.out.later HB8.out)).mono ?_; rintro e9 w9 ⟨rfl, hb9⟩; rw [HF.out]
            have HB9 := Lib.hid (bstep (B := w.heap.size) (W := w) HB8.out HB8.out.size hb9)
            clear hb9
            go_wp2_with fail
            go_ret
            exact ⟨rfl, HB9.out⟩
    · have HF : Hid (linksOk (m : Int) L = false) := linksOk_len hlm
      have hbne : ((L.length : Int) != (m : Int) - 1) = true := by rw [bne_iff_ne]; omega
      rw [HF.out]
      clear hlm
      have hw1 := HW1.out
      have hw2 := HW2.out
      go_enter Tryd.func10, Tryd.ntmps10
      go_wp2_with fail
      refine (treeSizeOk_any (m : Int) _).mono ?_; rintro e2 w2 ⟨rfl, rfl⟩; rw [HIN.out]
      go_wp2_with fail
      go_ret
      exact ⟨rfl, Below.refl _ _⟩
end Go.Proofs.YtimccjmphdkbjaaDoor
