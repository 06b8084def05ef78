/- Tables of numbers in memory; lower and shorten of the program. -/
import Derived.Test.YtbbomajgmgmigaaDoorRo
import Derived.Test.YtbbomajgmgmigaaDoorLO
import Derived.Deep.DrawnRows
import Derived.Test.YtbbomajgmgmigaaDoorOrd
set_option linter.unusedSimpArgs false
set_option linter.unusedVariables false
attribute [local go_sem ↓] Go.wp_at_zero Go.wp_at_succ
namespace Go.Proofs.YtbbomajgmgmigaaDoor
open Go.ChangeShapes Go.WideShapes Go.ChangeAt Go.RowKit

/-- block T holds m rows, row a in block R a; they hold f -/
structure TabM (w : World) (lo hi T m : Nat) (R C : Nat → Nat) (f : Nat → Nat → Int) : Prop where
  top : ∀ a, a < m → w.cell? ⟨T, a, none⟩ = some (.slice (some ⟨R a, 0, none⟩) m (C a))
  row : ∀ a b, a < m → b < m → w.cell? ⟨R a, b, none⟩ = some (.int .i64 (f a b)) ∧ w.frozen? ⟨R a, b, none⟩ = false
  inj : ∀ a b, a < m → b < m → R a = R b → a = b
  neT : ∀ a, a < m → R a ≠ T
  los : lo ≤ T ∧ T < hi
  rlo : ∀ a, a < m → lo ≤ R a ∧ R a < hi
  his : hi ≤ w.heap.size
section
variable {w w' : World} {lo hi T m : Nat} {R C : Nat → Nat} {f g : Nat → Nat → Int}
theorem TabM.keep (h : TabM w lo hi T m R C f) (hb : ∀ k, lo ≤ k → k < hi → w'.heap[k]? = w.heap[k]?) (hs : w.heap.size ≤ w'.heap.size) : TabM w' lo hi T m R C f :=
  ⟨fun a ha => (World.cell?_of_block (w := w) (hb T h.los.1 h.los.2)).trans (h.top a ha), fun a b ha hb' => ⟨(World.cell?_of_block (w := w) (hb (R a) (h.rlo a ha).1 (h.rlo a ha).2)).trans (h.row a b ha hb').1, (World.frozen?_of_block (w := w) (hb (R a) (h.rlo a ha).1 (h.rlo a ha).2)).trans (h.row a b ha hb').2⟩, h.inj, h.neT, h.los, h.rlo, Nat.le_trans h.his hs⟩
theorem TabM.below (h : TabM w lo hi T m R C f) (hb : Below w.heap.size w w') : TabM w' lo hi T m R C f :=
  h.keep (fun k _ hk => hb.block k (Nat.lt_of_lt_of_le hk h.his)) hb.size
theorem TabM.only {lo' hi' : Nat} (h : TabM w lo hi T m R C f) (ho : Only lo' hi' w w') (hd : hi ≤ lo' ∨ hi' ≤ lo) : TabM w' lo hi T m R C f :=
  h.keep (fun k h1 h2 => ho.block k (Nat.lt_of_lt_of_le h2 h.his) (by omega)) ho.size
theorem TabM.congr (h : TabM w lo hi T m R C f) (he : ∀ a b, a < m → b < m → f a b = g a b) : TabM w lo hi T m R C g :=
  ⟨h.top, fun a b ha hb => by rw [← he a b ha hb]; exact h.row a b ha hb, h.inj, h.neT, h.los, h.rlo, h.his⟩
theorem TabM.put (h : TabM w lo hi T m R C f) {a b : Nat} (ha : a < m) (hb : b < m) (x : Int) : TabM (w.setCell ⟨R a, b, none⟩ (.int .i64 x)) lo hi T m R C (fun i j => if i = a ∧ j = b then x else f i j) := by
  refine ⟨fun i hi' => ?_, fun i j hi' hj => ?_, h.inj, h.neT, h.los, h.rlo, by simpa [World.setCell] using h.his⟩
  · rw [World.cell?_setCell_other _ _ _ _ (by intro e; simp only [Addr.mk.injEq] at e; exact h.neT a ha e.1)]
    exact h.top i hi'
  · rw [World.frozen?_setCell]
    refine ⟨?_, (h.row i j hi' hj).2⟩
    by_cases e : i = a ∧ j = b
    · obtain ⟨rfl, rfl⟩ := e
      rw [if_pos ⟨rfl, rfl⟩]
      exact World.cell?_setCell_same _ _ _ (h.row i j hi' hj).1
    · rw [if_neg e, World.cell?_setCell_other _ _ _ _ (by
        intro e'; simp only [Addr.mk.injEq] at e'
        exact e ⟨(h.inj a i ha hi' e'.1).symm, e'.2.1.symm⟩)]
      exact (h.row i j hi' hj).1
end
/-- a cost that is lower is laid down -/
def lowF (f : Nat → Nat → Int) (a b : Nat) (c : Int) : Nat → Nat → Int := fun i j => if i = a ∧ j = b ∧ (f a b < 0 ∨ c < f a b) then c else f i j
theorem lowF_yes {f : Nat → Nat → Int} {a b : Nat} {c : Int} (h : f a b < 0 ∨ c < f a b) (i j : Nat) : (if i = a ∧ j = b then c else f i j) = lowF f a b c i j := by
  unfold lowF
  by_cases e : i = a ∧ j = b
  · rw [if_pos e, if_pos ⟨e.1, e.2, h⟩]
  · rw [if_neg e, if_neg (fun e' => e ⟨e'.1, e'.2.1⟩)]
theorem lowF_no {f : Nat → Nat → Int} {a b : Nat} {c : Int} (h : ¬ (f a b < 0 ∨ c < f a b)) (i j : Nat) : f i j = lowF f a b c i j := by
  unfold lowF
  rw [if_neg (fun e => h e.2.2)]
/-- over a place -/
def shF (f : Nat → Nat → Int) (a o b : Nat) : Nat → Nat → Int := if 0 ≤ f a o ∧ 0 ≤ f o b then lowF f a b (f a o + f o b) else f

set_option maxHeartbeats 1000000 in
theorem lower_any (lo hi T m cT : Nat) (R C : Nat → Nat) (f : Nat → Nat → Int) (a b : Nat) (c : Int) (w : World) (h : TabM w lo hi T m R C f) (ha : a < m) (hb : b < m) :
    Calls Tryd.prog 61 #[.slice (some ⟨T, 0, none⟩) m cT, .int .i64 a, .int .i64 b, .int .i64 c] w fun e w' => e = .returned (.tuple #[]) ∧ TabM w' lo hi T m R C (lowF f a b c) ∧ Only lo hi w w' := by
  have H := Lib.hid h
  have h1 := h.top a ha
  obtain ⟨h2, h3⟩ := h.row a b ha hb
  have a0 : (0 : Int) ≤ (a : Int) := by omega
  have b0 : (0 : Int) ≤ (b : Int) := by omega
  have a1 : (a : Int) < (m : Int) := by omega
  have b1 : (b : Int) < (m : Int) := by omega
  clear h
  by_cases hneg : f a b < 0
  · go_enter Tryd.func61, Tryd.ntmps61
    go_wp2_with fail
    go_end0
    exact ⟨rfl, (H.out.put ha hb c).congr (fun i j _ _ => lowF_yes (.inl hneg) i j), (Only.refl _ _ _).setCell (H.out.rlo a ha) _⟩
  · by_cases hlt : c < f a b
    · go_enter Tryd.func61, Tryd.ntmps61
      go_wp2_with fail
      go_end0
      exact ⟨rfl, (H.out.put ha hb c).congr (fun i j _ _ => lowF_yes (.inr hlt) i j), (Only.refl _ _ _).setCell (H.out.rlo a ha) _⟩
    · go_enter Tryd.func61, Tryd.ntmps61
      go_wp2_with fail
      go_end0
      exact ⟨rfl, H.out.congr (fun i j _ _ => lowF_no (by omega) i j), Only.refl _ _ _⟩
set_option maxHeartbeats 2000000 in
theorem shorten_any (lo hi T m cT : Nat) (R C : Nat → Nat) (f : Nat → Nat → Int) (a o b : Nat) (w : World) (h : TabM w lo hi T m R C f) (ha : a < m) (ho : o < m) (hb : b < m) (hB1 : f a o ≤ 1000000) (hB2 : f o b ≤ 1000000) :
    Calls Tryd.prog 40 #[.slice (some ⟨T, 0, none⟩) m cT, .int .i64 a, .int .i64 o, .int .i64 b] w fun e w' => e = .returned (.tuple #[]) ∧ TabM w' lo hi T m R C (shF f a o b) ∧ Only lo hi w w' := by
  have H := Lib.hid h
  have h1 := h.top a ha
  have h1o := h.top o ho
  have h2 := (h.row a o ha ho).1
  have h3 := (h.row o b ho hb).1
  have a0 : (0 : Int) ≤ (a : Int) := by omega
  have b0 : (0 : Int) ≤ (b : Int) := by omega
  have o0 : (0 : Int) ≤ (o : Int) := by omega
  have a1 : (a : Int) < (m : Int) := by omega
  have b1 : (b : Int) < (m : Int) := by omega
  have o1 : (o : Int) < (m : Int) := by omega
  clear h
  by_cases hx : 0 ≤ f a o
  · by_cases hy : 0 ≤ f o b
    · have hk1 : lowF f a b (f a o + f o b) a o = f a o := by
        unfold lowF
        by_cases e : o = b
        · subst e; rw [if_neg (by omega)]
        · rw [if_neg (by omega)]
      have hk2 : lowF f a b (f a o + f o b) o b = f o b := by
        unfold lowF
        by_cases e : o = a
        · subst e; rw [if_neg (by omega)]
        · rw [if_neg (by omega)]
      have HK1 := Lib.hid hk1
      have HK2 := Lib.hid hk2
      clear hk1 hk2
      have hwr : IntKind.i64.wrap (f a o + f o b) = f a o + f o b := IntWalk.i64_in _ ⟨by omega, by omega⟩
      have hwr2 : wrap64 (f a o + f o b) = f a o + f o b := IntWalk.wrap64_in _ ⟨by omega, by omega⟩
      have HE : Hid (shF f a o b = lowF f a b (f a o + f o b)) := by show shF f a o b = _; unfold shF; rw [if_pos ⟨hx, hy⟩]
      go_enter Tryd.func40, Tryd.ntmps40
      go_wp2_with fail
      refine wp_region_held_drew (S := (fun w' => w'.cell? ⟨T, a, none⟩ = some (.slice (some ⟨R a, 0, none⟩) m (C a)) ∧ w'.cell? ⟨T, o, none⟩ = some (.slice (some ⟨R o, 0, none⟩) m (C o)) ∧ w'.cell? ⟨R a, o, none⟩ = some (.int .i64 (f a o)) ∧ w'.cell? ⟨R o, b, none⟩ = some (.int .i64 (f o b)))) (by kernel_rfl) ?_ (fun hHeld => ?_)
      · exact ⟨h1, h1o, h2, h3⟩
      refine wpAnyH_take (i := 0) (v := ?_) rfl (by kernel_rfl) (by kernel_rfl) (by kernel_rfl) (fun _ _ _ h => h) (Or.inl ⟨by rfl, ?_⟩) (by assumption) ?_
      rotate_left
      · (intro w hSw; (try dsimp only at hSw); (try simp only [List.getElem_toArray, List.getElem_cons_succ, List.getElem_cons_zero]); first | (go_simp; done) | (go_simp; with_reducible rfl))
      try simp only [Act.put, List.getElem_toArray, List.getElem_cons_succ, List.getElem_cons_zero, List.setIfInBounds_toArray, List.set_cons_zero, List.set_cons_succ]
      refine wpAnyH_take (i := 1) (v := ?_) rfl (by kernel_rfl) (by kernel_rfl) (by kernel_rfl) (fun _ _ _ h => h) (Or.inl ⟨by rfl, ?_⟩) (by assumption) ?_
      rotate_left
      · (intro w hSw; (try dsimp only at hSw); (try simp only [List.getElem_toArray, List.getElem_cons_succ, List.getElem_cons_zero]); first | (go_simp; done) | (go_simp; with_reducible rfl))
      try simp only [Act.put, List.getElem_toArray, List.getElem_cons_succ, List.getElem_cons_zero, List.setIfInBounds_toArray, List.set_cons_zero, List.set_cons_succ]
      refine wpAnyH_take (i := 2) (v := ?_) rfl (by kernel_rfl) (by kernel_rfl) (by kernel_rfl) (fun _ _ _ h => h) (Or.inl ⟨by rfl, ?_⟩) (by assumption) ?_
      rotate_left
      · (intro w hSw; (try dsimp only at hSw); (try simp only [List.getElem_toArray, List.getElem_cons_succ, List.getElem_cons_zero]); first | (go_simp; done) | (go_simp; with_reducible rfl))
      try simp only [Act.put, List.getElem_toArray, List.getElem_cons_succ, List.getElem_cons_zero, List.setIfInBounds_toArray, List.set_cons_zero, List.set_cons_succ]
      refine wpAnyH_take (i := 3) (v := ?_) rfl (by kernel_rfl) (by kernel_rfl) (by kernel_rfl) (fun _ _ _ h => h) (Or.inl ⟨by rfl, ?_⟩) (by assumption) ?_
      rotate_left
      · (intro w hSw; (try dsimp only at hSw); (try simp only [List.getElem_toArray, List.getElem_cons_succ, List.getElem_cons_zero]); first | (go_simp; done) | (go_simp; with_reducible rfl))
      try simp only [Act.put, List.getElem_toArray, List.getElem_cons_succ, List.getElem_cons_zero, List.setIfInBounds_toArray, List.set_cons_zero, List.set_cons_succ]
      refine wpAnyH_take (i := 4) (v := ?_) rfl (by kernel_rfl) (by kernel_rfl) (by kernel_rfl) (fun _ _ _ h => h) (Or.inl ⟨by rfl, ?_⟩) (by assumption) ?_
      rotate_left
      · (intro w hSw; (try dsimp only at hSw); (try simp only [List.getElem_toArray, List.getElem_cons_succ, List.getElem_cons_zero]); first | (go_simp; done) | (go_simp; with_reducible rfl))
      try simp only [Act.put, List.getElem_toArray, List.getElem_cons_succ, List.getElem_cons_zero, List.setIfInBounds_toArray, List.set_cons_zero, List.set_cons_succ]
      refine wpAnyH_take (i := 5) (v := ?_) rfl (by kernel_rfl) (by kernel_rfl) (by kernel_rfl) (fun _ _ _ h => h) (Or.inl ⟨by rfl, ?_⟩) (by assumption) ?_
      rotate_left
      · (intro w hSw; (try dsimp only at hSw); (try simp only [List.getElem_toArray, List.getElem_cons_succ, List.getElem_cons_zero]); first | (go_simp; done) | (go_simp; with_reducible rfl))
      try simp only [Act.put, List.getElem_toArray, List.getElem_cons_succ, List.getElem_cons_zero, List.setIfInBounds_toArray, List.set_cons_zero, List.set_cons_succ]
      refine wpAnyH_take (i := 6) (v := ?_) rfl (by kernel_rfl) (by kernel_rfl) (by kernel_rfl) (fun _ _ _ h => h) (Or.inl ⟨by rfl, ?_⟩) (by assumption) ?_
      rotate_left
      · (intro w hSw; (try dsimp only at hSw); (try simp only [List.getElem_toArray, List.getElem_cons_succ, List.getElem_cons_zero]); first | (go_simp; done) | (go_simp; with_reducible rfl))
      try simp only [Act.put, List.getElem_toArray, List.getElem_cons_succ, List.getElem_cons_zero, List.setIfInBounds_toArray, List.set_cons_zero, List.set_cons_succ]
      refine wpAnyH_take (i := 7) (v := ?_) rfl (by kernel_rfl) (by kernel_rfl) (by kernel_rfl) (fun _ _ _ h => h) (Or.inl ⟨by rfl, ?_⟩) (by assumption) ?_
      rotate_left
      · (intro w hSw; (try dsimp only at hSw); (try simp only [List.getElem_toArray, List.getElem_cons_succ, List.getElem_cons_zero]); first | (go_simp; done) | (go_simp; with_reducible rfl))
      try simp only [Act.put, List.getElem_toArray, List.getElem_cons_succ, List.getElem_cons_zero, List.setIfInBounds_toArray, List.set_cons_zero, List.set_cons_succ]
      refine wpAnyH_take (i := 8) (v := ?_) rfl (by kernel_rfl) (by kernel_rfl) (by kernel_rfl) (fun _ _ _ h => h) (Or.inl ⟨by rfl, ?_⟩) (by assumption) ?_
      rotate_left
      · (intro w hSw; (try dsimp only at hSw); (try simp only [List.getElem_toArray, List.getElem_cons_succ, List.getElem_cons_zero]); first | (go_simp; done) | (go_simp; with_reducible rfl))
      try simp only [Act.put, List.getElem_toArray, List.getElem_cons_succ, List.getElem_cons_zero, List.setIfInBounds_toArray, List.set_cons_zero, List.set_cons_succ]
      refine wpAnyH_take (i := 9) (v := ?_) rfl (by kernel_rfl) (by kernel_rfl) (by kernel_rfl) (fun _ _ _ h => h) (Or.inl ⟨by rfl, ?_⟩) (by assumption) ?_
      rotate_left
      · (intro w hSw; (try dsimp only at hSw); (try simp only [List.getElem_toArray, List.getElem_cons_succ, List.getElem_cons_zero]); first | (go_simp; done) | (go_simp; with_reducible rfl))
      try simp only [Act.put, List.getElem_toArray, List.getElem_cons_succ, List.getElem_cons_zero, List.setIfInBounds_toArray, List.set_cons_zero, List.set_cons_succ]
      refine wpAnyH_take (i := 10) (v := ?_) rfl (by kernel_rfl) (by kernel_rfl) (by kernel_rfl) (fun _ _ _ h => h) (Or.inl ⟨by rfl, ?_⟩) (by assumption) ?_
      rotate_left
      · (intro w hSw; (try dsimp only at hSw); (try simp only [List.getElem_toArray, List.getElem_cons_succ, List.getElem_cons_zero]); first | (go_simp; done) | (go_simp; with_reducible rfl))
      try simp only [Act.put, List.getElem_toArray, List.getElem_cons_succ, List.getElem_cons_zero, List.setIfInBounds_toArray, List.set_cons_zero, List.set_cons_succ]
      refine wpAnyH_take (i := 11) (v := ?_) rfl (by kernel_rfl) (by kernel_rfl) (by kernel_rfl) (fun _ _ _ h => h) (Or.inl ⟨by rfl, ?_⟩) (by assumption) ?_
      rotate_left
      · (intro w hSw; (try dsimp only at hSw); (try simp only [List.getElem_toArray, List.getElem_cons_succ, List.getElem_cons_zero]); first | (go_simp; done) | (go_simp; with_reducible rfl))
      try simp only [Act.put, List.getElem_toArray, List.getElem_cons_succ, List.getElem_cons_zero, List.setIfInBounds_toArray, List.set_cons_zero, List.set_cons_succ]
      refine wpAnyH_take (i := 12) (v := ?_) rfl (by kernel_rfl) (by kernel_rfl) (by kernel_rfl) (fun _ _ _ h => h) (Or.inl ⟨by rfl, ?_⟩) (by assumption) ?_
      rotate_left
      · (intro w hSw; (try dsimp only at hSw); (try simp only [List.getElem_toArray, List.getElem_cons_succ, List.getElem_cons_zero]); first | (go_simp; done) | (go_simp; with_reducible rfl))
      try simp only [Act.put, List.getElem_toArray, List.getElem_cons_succ, List.getElem_cons_zero, List.setIfInBounds_toArray, List.set_cons_zero, List.set_cons_succ]
      refine wpAnyH_take (i := 13) (v := ?_) rfl (by kernel_rfl) (by kernel_rfl) (by kernel_rfl) (fun _ _ _ h => h) (Or.inl ⟨by rfl, ?_⟩) (by assumption) ?_
      rotate_left
      · (intro w hSw; (try dsimp only at hSw); (try simp only [List.getElem_toArray, List.getElem_cons_succ, List.getElem_cons_zero]); first | (go_simp; done) | (go_simp; with_reducible rfl))
      try simp only [Act.put, List.getElem_toArray, List.getElem_cons_succ, List.getElem_cons_zero, List.setIfInBounds_toArray, List.set_cons_zero, List.set_cons_succ]
      refine wpAnyH_take (i := 14) (v := ?_) rfl (by kernel_rfl) (by kernel_rfl) (by kernel_rfl) (fun _ _ _ h => h) (Or.inl ⟨by rfl, ?_⟩) (by assumption) ?_
      rotate_left
      · (intro w hSw; (try dsimp only at hSw); (try simp only [List.getElem_toArray, List.getElem_cons_succ, List.getElem_cons_zero]); first | (go_simp; done) | (go_simp; with_reducible rfl))
      try simp only [Act.put, List.getElem_toArray, List.getElem_cons_succ, List.getElem_cons_zero, List.setIfInBounds_toArray, List.set_cons_zero, List.set_cons_succ]
      refine wpAnyH_take (i := 15) (v := ?_) rfl (by kernel_rfl) (by kernel_rfl) (by kernel_rfl) (fun _ _ _ h => h) (Or.inl ⟨by rfl, ?_⟩) (by assumption) ?_
      rotate_left
      · (intro w hSw; (try dsimp only at hSw); (try simp only [List.getElem_toArray, List.getElem_cons_succ, List.getElem_cons_zero]); first | (go_simp; done) | (go_simp; with_reducible rfl))
      try simp only [Act.put, List.getElem_toArray, List.getElem_cons_succ, List.getElem_cons_zero, List.setIfInBounds_toArray, List.set_cons_zero, List.set_cons_succ]
      refine wpAnyH_take (i := 16) (v := ?_) rfl (by kernel_rfl) (by kernel_rfl) (by kernel_rfl) (fun _ _ _ h => h) (Or.inl ⟨by rfl, ?_⟩) (by assumption) ?_
      rotate_left
      · (intro w hSw; (try dsimp only at hSw); (try simp only [List.getElem_toArray, List.getElem_cons_succ, List.getElem_cons_zero]); first | (go_simp; done) | (go_simp; with_reducible rfl))
      try simp only [Act.put, List.getElem_toArray, List.getElem_cons_succ, List.getElem_cons_zero, List.setIfInBounds_toArray, List.set_cons_zero, List.set_cons_succ]
      refine wpAnyH_take (i := 17) (v := ?_) rfl (by kernel_rfl) (by kernel_rfl) (by kernel_rfl) (fun _ _ _ h => h) (Or.inl ⟨by rfl, ?_⟩) (by assumption) ?_
      rotate_left
      · (intro w hSw; (try dsimp only at hSw); (try simp only [List.getElem_toArray, List.getElem_cons_succ, List.getElem_cons_zero]); first | (go_simp; done) | (go_simp; with_reducible rfl))
      try simp only [Act.put, List.getElem_toArray, List.getElem_cons_succ, List.getElem_cons_zero, List.setIfInBounds_toArray, List.set_cons_zero, List.set_cons_succ]
      refine wpAnyH_ready (rs := [18]) (by kernel_rfl) (by simp) ?_
      refine AllReadyH.cons rfl (fun K hK => ?_) AllReadyH.nil
      try simp only [List.getElem_toArray, List.getElem_cons_succ, List.getElem_cons_zero]
      go_simp
      go_at_call 61; refine (lower_any lo hi T m cT R C f a b _ _ (H.out.keep (w' := w.drew) (fun _ _ _ => rfl) (Nat.le_refl _)) ha hb).mono ?_; rintro e2 w2 ⟨rfl, ht2, ho2⟩; have HT2 := Lib.hid ht2; have HO2 : Hid (Only lo hi w w2) := ⟨ho2.os, ho2.tape, ho2.output, ho2.size, ho2.block⟩; have k2 : w2.cell? ⟨T, a, none⟩ = some (.slice (some ⟨R a, 0, none⟩) m (C a)) ∧ w2.cell? ⟨T, o, none⟩ = some (.slice (some ⟨R o, 0, none⟩) m (C o)) ∧ w2.cell? ⟨R a, o, none⟩ = some (.int .i64 (f a o)) ∧ w2.cell? ⟨R o, b, none⟩ = some (.int .i64 (f o b)) := ⟨ht2.top a ha, ht2.top o ho, by rw [(ht2.row a o ha ho).1, HK1.out], by rw [(ht2.row o b ho hb).1, HK2.out]⟩; clear ht2 ho2
      refine hK.out _ _ ?_ (fun hHeld => ?_)
      · exact k2
      clear hK K
      try simp only [Act.put, List.getElem_toArray, List.getElem_cons_succ, List.getElem_cons_zero, List.setIfInBounds_toArray, List.set_cons_zero, List.set_cons_succ]
      refine wpAnyH_done (by kernel_rfl) ?_ _
      go_wp2_with fail
      go_end0
      exact ⟨rfl, by rw [HE.out]; exact HT2.out, HO2.out⟩
    · have HE : Hid (shF f a o b = f) := by show shF f a o b = _; unfold shF; rw [if_neg (fun e => hy e.2)]
      go_enter Tryd.func40, Tryd.ntmps40
      go_wp2_with fail
      go_end0
      exact ⟨rfl, by rw [HE.out]; exact H.out, Only.refl _ _ _⟩
  · have HE : Hid (shF f a o b = f) := by show shF f a o b = _; unfold shF; rw [if_neg (fun e => hx e.1)]
    go_enter Tryd.func40, Tryd.ntmps40
    go_wp2_with fail
    go_end0
    exact ⟨rfl, by rw [HE.out]; exact H.out, Only.refl _ _ _⟩
end Go.Proofs.YtbbomajgmgmigaaDoor
