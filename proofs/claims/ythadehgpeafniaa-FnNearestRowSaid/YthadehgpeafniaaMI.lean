/- Tables of numbers in memory; lower and shorten of the program. The table of least costs of the program: the first table, and the way over each place. Least costs between places: what the table over each place comes to, and that a least set of ways costs it. Plain mathematics. The least set that joins two places: it joins them, no way of it is needless, and it costs what the table tells. -/
import Derived.Test.YthadehgpeafniaaMH
import Derived.Test.YthadehgpeafniaaMC
import Derived.Deep.DrawnRows
import Derived.Test.YthadehgpeafniaaOrd
import Derived.Test.YthadehgpeafniaaMA
import Derived.Test.YthadehgpeafniaaMG
set_option linter.unusedSimpArgs false
set_option linter.unusedVariables false
attribute [local go_sem ↓] Go.wp_at_zero Go.wp_at_succ
namespace Go.Proofs.Ythadehgpeafniaa
open Go.ChangeShapes Go.WideShapes Go.ChangeAt Go.RowKit

/-- block T holds m rows, row a in block R a; they hold f -/
structure TabM (w : World) (lo hi T m : Nat) (R C : Nat → Nat) (f : Nat → Nat → Int) : Prop where
  top : ∀ a, a < m → w.cell? ⟨T, a, none⟩ = some (.slice (some ⟨R a, 0, none⟩) m (C a))
  row : ∀ a b, a < m → b < m → w.cell? ⟨R a, b, none⟩ = some (.int .i64 (f a b)) ∧ w.frozen? ⟨R a, b, none⟩ = false
  inj : ∀ a b, a < m → b < m → R a = R b → a = b
  neT : ∀ a, a < m → R a ≠ T
  los : lo ≤ T ∧ T < hi
  rlo : ∀ a, a < m → lo ≤ R a ∧ R a < hi
  his : hi ≤ w.heap.size
section
variable {w w' : World} {lo hi T m : Nat} {R C : Nat → Nat} {f g : Nat → Nat → Int}
theorem TabM.keep (h : TabM w lo hi T m R C f) (hb : ∀ k, lo ≤ k → k < hi → w'.heap[k]? = w.heap[k]?) (hs : w.heap.size ≤ w'.heap.size) : TabM w' lo hi T m R C f :=
  ⟨fun a ha => (World.cell?_of_block (w := w) (hb T h.los.1 h.los.2)).trans (h.top a ha), fun a b ha hb' => ⟨(World.cell?_of_block (w := w) (hb (R a) (h.rlo a ha).1 (h.rlo a ha).2)).trans (h.row a b ha hb').1, (World.frozen?_of_block (w := w) (hb (R a) (h.rlo a ha).1 (h.rlo a ha).2)).trans (h.row a b ha hb').2⟩, h.inj, h.neT, h.los, h.rlo, Nat.le_trans h.his hs⟩
theorem TabM.below (h : TabM w lo hi T m R C f) (hb : Below w.heap.size w w') : TabM w' lo hi T m R C f :=
  h.keep (fun k _ hk => hb.block k (Nat.lt_of_lt_of_le hk h.his)) hb.size
theorem TabM.only {lo' hi' : Nat} (h : TabM w lo hi T m R C f) (ho : Only lo' hi' w w') (hd : hi ≤ lo' ∨ hi' ≤ lo) : TabM w' lo hi T m R C f :=
  h.keep (fun k h1 h2 => ho.block k (Nat.lt_of_lt_of_le h2 h.his) (by omega)) ho.size
theorem TabM.congr (h : TabM w lo hi T m R C f) (he : ∀ a b, a < m → b < m → f a b = g a b) : TabM w lo hi T m R C g :=
  ⟨h.top, fun a b ha hb => by rw [← he a b ha hb]; exact h.row a b ha hb, h.inj, h.neT, h.los, h.rlo, h.his⟩
theorem TabM.put (h : TabM w lo hi T m R C f) {a b : Nat} (ha : a < m) (hb : b < m) (x : Int) : TabM (w.setCell ⟨R a, b, none⟩ (.int .i64 x)) lo hi T m R C (fun i j => if i = a ∧ j = b then x else f i j) := by
  refine ⟨fun i hi' => ?_, fun i j hi' hj => ?_, h.inj, h.neT, h.los, h.rlo, by simpa [World.setCell] using h.his⟩
  · rw [World.cell?_setCell_other _ _ _ _ (by intro e; simp only [Addr.mk.injEq] at e; exact h.neT a ha e.1)]
    exact h.top i hi'
  · rw [World.frozen?_setCell]
    refine ⟨?_, (h.row i j hi' hj).2⟩
    by_cases e : i = a ∧ j = b
    · obtain ⟨rfl, rfl⟩ := e
      rw [if_pos ⟨rfl, rfl⟩]
      exact World.cell?_setCell_same _ _ _ (h.row i j hi' hj).1
    · rw [if_neg e, World.cell?_setCell_other _ _ _ _ (by
        intro e'; simp only [Addr.mk.injEq] at e'
        exact e ⟨(h.inj a i ha hi' e'.1).symm, e'.2.1.symm⟩)]
      exact (h.row i j hi' hj).1
end
/-- a cost that is lower is laid down -/
def lowF (f : Nat → Nat → Int) (a b : Nat) (c : Int) : Nat → Nat → Int := fun i j => if i = a ∧ j = b ∧ (f a b < 0 ∨ c < f a b) then c else f i j
theorem lowF_yes {f : Nat → Nat → Int} {a b : Nat} {c : Int} (h : f a b < 0 ∨ c < f a b) (i j : Nat) : (if i = a ∧ j = b then c else f i j) = lowF f a b c i j := by
  unfold lowF
  by_cases e : i = a ∧ j = b
  · rw [if_pos e, if_pos ⟨e.1, e.2, h⟩]
  · rw [if_neg e, if_neg (fun e' => e ⟨e'.1, e'.2.1⟩)]
theorem lowF_no {f : Nat → Nat → Int} {a b : Nat} {c : Int} (h : ¬ (f a b < 0 ∨ c < f a b)) (i j : Nat) : f i j = lowF f a b c i j := by
  unfold lowF
  rw [if_neg (fun e => h e.2.2)]
/-- over a place -/
def shF (f : Nat → Nat → Int) (a o b : Nat) : Nat → Nat → Int := if 0 ≤ f a o ∧ 0 ≤ f o b then lowF f a b (f a o + f o b) else f

set_option maxHeartbeats 1000000 in
theorem lower_any (lo hi T m cT : Nat) (R C : Nat → Nat) (f : Nat → Nat → Int) (a b : Nat) (c : Int) (w : World) (h : TabM w lo hi T m R C f) (ha : a < m) (hb : b < m) :
    Calls Try.prog 63 #[.slice (some ⟨T, 0, none⟩) m cT, .int .i64 a, .int .i64 b, .int .i64 c] w fun e w' => e = .returned (.tuple #[]) ∧ TabM w' lo hi T m R C (lowF f a b c) ∧ Only lo hi w w' := by
  have H := Lib.hid h
  have h1 := h.top a ha
  obtain ⟨h2, h3⟩ := h.row a b ha hb
  have a0 : (0 : Int) ≤ (a : Int) := by omega
  have b0 : (0 : Int) ≤ (b : Int) := by omega
  have a1 : (a : Int) < (m : Int) := by omega
  have b1 : (b : Int) < (m : Int) := by omega
  clear h
  by_cases hneg : f a b < 0
  · go_enter Try.func63, Try.ntmps63
    go_wp2_with fail
    go_end0
    exact ⟨rfl, (H.out.put ha hb c).congr (fun i j _ _ => lowF_yes (.inl hneg) i j), (Only.refl _ _ _).setCell (H.out.rlo a ha) _⟩
  · by_cases hlt : c < f a b
    · go_enter Try.func63, Try.ntmps63
      go_wp2_with fail
      go_end0
      exact ⟨rfl, (H.out.put ha hb c).congr (fun i j _ _ => lowF_yes (.inr hlt) i j), (Only.refl _ _ _).setCell (H.out.rlo a ha) _⟩
    · go_enter Try.func63, Try.ntmps63
      go_wp2_with fail
      go_end0
      exact ⟨rfl, H.out.congr (fun i j _ _ => lowF_no (by omega) i j), Only.refl _ _ _⟩
set_option maxHeartbeats 2000000 in
theorem shorten_any (lo hi T m cT : Nat) (R C : Nat → Nat) (f : Nat → Nat → Int) (a o b : Nat) (w : World) (h : TabM w lo hi T m R C f) (ha : a < m) (ho : o < m) (hb : b < m) (hB1 : f a o ≤ 1000000) (hB2 : f o b ≤ 1000000) :
    Calls Try.prog 48 #[.slice (some ⟨T, 0, none⟩) m cT, .int .i64 a, .int .i64 o, .int .i64 b] w fun e w' => e = .returned (.tuple #[]) ∧ TabM w' lo hi T m R C (shF f a o b) ∧ Only lo hi w w' := by
  have H := Lib.hid h
  have h1 := h.top a ha
  have h1o := h.top o ho
  have h2 := (h.row a o ha ho).1
  have h3 := (h.row o b ho hb).1
  have a0 : (0 : Int) ≤ (a : Int) := by omega
  have b0 : (0 : Int) ≤ (b : Int) := by omega
  have o0 : (0 : Int) ≤ (o : Int) := by omega
  have a1 : (a : Int) < (m : Int) := by omega
  have b1 : (b : Int) < (m : Int) := by omega
  have o1 : (o : Int) < (m : Int) := by omega
  clear h
  by_cases hx : 0 ≤ f a o
  · by_cases hy : 0 ≤ f o b
    · have hk1 : lowF f a b (f a o + f o b) a o = f a o := by
        unfold lowF
        by_cases e : o = b
        · subst e; rw [if_neg (by omega)]
        · rw [if_neg (by omega)]
      have hk2 : lowF f a b (f a o + f o b) o b = f o b := by
        unfold lowF
        by_cases e : o = a
        · subst e; rw [if_neg (by omega)]
        · rw [if_neg (by omega)]
      have HK1 := Lib.hid hk1
      have HK2 := Lib.hid hk2
      clear hk1 hk2
      have hwr : IntKind.i64.wrap (f a o + f o b) = f a o + f o b := IntWalk.i64_in _ ⟨by omega, by omega⟩
      have hwr2 : wrap64 (f a o + f o b) = f a o + f o b := IntWalk.wrap64_in _ ⟨by omega, by omega⟩
      have HE : Hid (shF f a o b = lowF f a b (f a o + f o b)) := by show shF f a o b = _; unfold shF; rw [if_pos ⟨hx, hy⟩]
      go_enter Try.func48, Try.ntmps48
      go_wp2_with fail
      refine wp_region_held_drew (S := (fun w' => w'.cell? ⟨T, a, none⟩ = some (.slice (some ⟨R a, 0, none⟩) m (C a)) ∧ w'.cell? ⟨T, o, none⟩ = some (.slice (some ⟨R o, 0, none⟩) m (C o)) ∧ w'.cell? ⟨R a, o, none⟩ = some (.int .i64 (f a o)) ∧ w'.cell? ⟨R o, b, none⟩ = some (.int .i64 (f o b)))) (by kernel_rfl) ?_ (fun hHeld => ?_)
      · exact ⟨h1, h1o, h2, h3⟩
      refine wpAnyH_take (i := 0) (v := ?_) rfl (by kernel_rfl) (by kernel_rfl) (by kernel_rfl) (fun _ _ _ h => h) (Or.inl ⟨by rfl, ?_⟩) (by assumption) ?_
      rotate_left
      · (intro w hSw; (try dsimp only at hSw); (try simp only [List.getElem_toArray, List.getElem_cons_succ, List.getElem_cons_zero]); first | (go_simp; done) | (go_simp; with_reducible rfl))
      try simp only [Act.put, List.getElem_toArray, List.getElem_cons_succ, List.getElem_cons_zero, List.setIfInBounds_toArray, List.set_cons_zero, List.set_cons_succ]
      refine wpAnyH_take (i := 1) (v := ?_) rfl (by kernel_rfl) (by kernel_rfl) (by kernel_rfl) (fun _ _ _ h => h) (Or.inl ⟨by rfl, ?_⟩) (by assumption) ?_
      rotate_left
      · (intro w hSw; (try dsimp only at hSw); (try simp only [List.getElem_toArray, List.getElem_cons_succ, List.getElem_cons_zero]); first | (go_simp; done) | (go_simp; with_reducible rfl))
      try simp only [Act.put, List.getElem_toArray, List.getElem_cons_succ, List.getElem_cons_zero, List.setIfInBounds_toArray, List.set_cons_zero, List.set_cons_succ]
      refine wpAnyH_take (i := 2) (v := ?_) rfl (by kernel_rfl) (by kernel_rfl) (by kernel_rfl) (fun _ _ _ h => h) (Or.inl ⟨by rfl, ?_⟩) (by assumption) ?_
      rotate_left
      · (intro w hSw; (try dsimp only at hSw); (try simp only [List.getElem_toArray, List.getElem_cons_succ, List.getElem_cons_zero]); first | (go_simp; done) | (go_simp; with_reducible rfl))
      try simp only [Act.put, List.getElem_toArray, List.getElem_cons_succ, List.getElem_cons_zero, List.setIfInBounds_toArray, List.set_cons_zero, List.set_cons_succ]
      refine wpAnyH_take (i := 3) (v := ?_) rfl (by kernel_rfl) (by kernel_rfl) (by kernel_rfl) (fun _ _ _ h => h) (Or.inl ⟨by rfl, ?_⟩) (by assumption) ?_
      rotate_left
      · (intro w hSw; (try dsimp only at hSw); (try simp only [List.getElem_toArray, List.getElem_cons_succ, List.getElem_cons_zero]); first | (go_simp; done) | (go_simp; with_reducible rfl))
      try simp only [Act.put, List.getElem_toArray, List.getElem_cons_succ, List.getElem_cons_zero, List.setIfInBounds_toArray, List.set_cons_zero, List.set_cons_succ]
      refine wpAnyH_take (i := 4) (v := ?_) rfl (by kernel_rfl) (by kernel_rfl) (by kernel_rfl) (fun _ _ _ h => h) (Or.inl ⟨by rfl, ?_⟩) (by assumption) ?_
      rotate_left
      · (intro w hSw; (try dsimp only at hSw); (try simp only [List.getElem_toArray, List.getElem_cons_succ, List.getElem_cons_zero]); first | (go_simp; done) | (go_simp; with_reducible rfl))
      try simp only [Act.put, List.getElem_toArray, List.getElem_cons_succ, List.getElem_cons_zero, List.setIfInBounds_toArray, List.set_cons_zero, List.set_cons_succ]
      refine wpAnyH_take (i := 5) (v := ?_) rfl (by kernel_rfl) (by kernel_rfl) (by kernel_rfl) (fun _ _ _ h => h) (Or.inl ⟨by rfl, ?_⟩) (by assumption) ?_
      rotate_left
      · (intro w hSw; (try dsimp only at hSw); (try simp only [List.getElem_toArray, List.getElem_cons_succ, List.getElem_cons_zero]); first | (go_simp; done) | (go_simp; with_reducible rfl))
      try simp only [Act.put, List.getElem_toArray, List.getElem_cons_succ, List.getElem_cons_zero, List.setIfInBounds_toArray, List.set_cons_zero, List.set_cons_succ]
      refine wpAnyH_take (i := 6) (v := ?_) rfl (by kernel_rfl) (by kernel_rfl) (by kernel_rfl) (fun _ _ _ h => h) (Or.inl ⟨by rfl, ?_⟩) (by assumption) ?_
      rotate_left
      · (intro w hSw; (try dsimp only at hSw); (try simp only [List.getElem_toArray, List.getElem_cons_succ, List.getElem_cons_zero]); first | (go_simp; done) | (go_simp; with_reducible rfl))
      try simp only [Act.put, List.getElem_toArray, List.getElem_cons_succ, List.getElem_cons_zero, List.setIfInBounds_toArray, List.set_cons_zero, List.set_cons_succ]
      refine wpAnyH_take (i := 7) (v := ?_) rfl (by kernel_rfl) (by kernel_rfl) (by kernel_rfl) (fun _ _ _ h => h) (Or.inl ⟨by rfl, ?_⟩) (by assumption) ?_
      rotate_left
      · (intro w hSw; (try dsimp only at hSw); (try simp only [List.getElem_toArray, List.getElem_cons_succ, List.getElem_cons_zero]); first | (go_simp; done) | (go_simp; with_reducible rfl))
      try simp only [Act.put, List.getElem_toArray, List.getElem_cons_succ, List.getElem_cons_zero, List.setIfInBounds_toArray, List.set_cons_zero, List.set_cons_succ]
      refine wpAnyH_take (i := 8) (v := ?_) rfl (by kernel_rfl) (by kernel_rfl) (by kernel_rfl) (fun _ _ _ h => h) (Or.inl ⟨by rfl, ?_⟩) (by assumption) ?_
      rotate_left
      · (intro w hSw; (try dsimp only at hSw); (try simp only [List.getElem_toArray, List.getElem_cons_succ, List.getElem_cons_zero]); first | (go_simp; done) | (go_simp; with_reducible rfl))
      try simp only [Act.put, List.getElem_toArray, List.getElem_cons_succ, List.getElem_cons_zero, List.setIfInBounds_toArray, List.set_cons_zero, List.set_cons_succ]
      refine wpAnyH_take (i := 9) (v := ?_) rfl (by kernel_rfl) (by kernel_rfl) (by kernel_rfl) (fun _ _ _ h => h) (Or.inl ⟨by rfl, ?_⟩) (by assumption) ?_
      rotate_left
      · (intro w hSw; (try dsimp only at hSw); (try simp only [List.getElem_toArray, List.getElem_cons_succ, List.getElem_cons_zero]); first | (go_simp; done) | (go_simp; with_reducible rfl))
      try simp only [Act.put, List.getElem_toArray, List.getElem_cons_succ, List.getElem_cons_zero, List.setIfInBounds_toArray, List.set_cons_zero, List.set_cons_succ]
      refine wpAnyH_take (i := 10) (v := ?_) rfl (by kernel_rfl) (by kernel_rfl) (by kernel_rfl) (fun _ _ _ h => h) (Or.inl ⟨by rfl, ?_⟩) (by assumption) ?_
      rotate_left
      · (intro w hSw; (try dsimp only at hSw); (try simp only [List.getElem_toArray, List.getElem_cons_succ, List.getElem_cons_zero]); first | (go_simp; done) | (go_simp; with_reducible rfl))
      try simp only [Act.put, List.getElem_toArray, List.getElem_cons_succ, List.getElem_cons_zero, List.setIfInBounds_toArray, List.set_cons_zero, List.set_cons_succ]
      refine wpAnyH_take (i := 11) (v := ?_) rfl (by kernel_rfl) (by kernel_rfl) (by kernel_rfl) (fun _ _ _ h => h) (Or.inl ⟨by rfl, ?_⟩) (by assumption) ?_
      rotate_left
      · (intro w hSw; (try dsimp only at hSw); (try simp only [List.getElem_toArray, List.getElem_cons_succ, List.getElem_cons_zero]); first | (go_simp; done) | (go_simp; with_reducible rfl))
      try simp only [Act.put, List.getElem_toArray, List.getElem_cons_succ, List.getElem_cons_zero, List.setIfInBounds_toArray, List.set_cons_zero, List.set_cons_succ]
      refine wpAnyH_take (i := 12) (v := ?_) rfl (by kernel_rfl) (by kernel_rfl) (by kernel_rfl) (fun _ _ _ h => h) (Or.inl ⟨by rfl, ?_⟩) (by assumption) ?_
      rotate_left
      · (intro w hSw; (try dsimp only at hSw); (try simp only [List.getElem_toArray, List.getElem_cons_succ, List.getElem_cons_zero]); first | (go_simp; done) | (go_simp; with_reducible rfl))
      try simp only [Act.put, List.getElem_toArray, List.getElem_cons_succ, List.getElem_cons_zero, List.setIfInBounds_toArray, List.set_cons_zero, List.set_cons_succ]
      refine wpAnyH_take (i := 13) (v := ?_) rfl (by kernel_rfl) (by kernel_rfl) (by kernel_rfl) (fun _ _ _ h => h) (Or.inl ⟨by rfl, ?_⟩) (by assumption) ?_
      rotate_left
      · (intro w hSw; (try dsimp only at hSw); (try simp only [List.getElem_toArray, List.getElem_cons_succ, List.getElem_cons_zero]); first | (go_simp; done) | (go_simp; with_reducible rfl))
      try simp only [Act.put, List.getElem_toArray, List.getElem_cons_succ, List.getElem_cons_zero, List.setIfInBounds_toArray, List.set_cons_zero, List.set_cons_succ]
      refine wpAnyH_take (i := 14) (v := ?_) rfl (by kernel_rfl) (by kernel_rfl) (by kernel_rfl) (fun _ _ _ h => h) (Or.inl ⟨by rfl, ?_⟩) (by assumption) ?_
      rotate_left
      · (intro w hSw; (try dsimp only at hSw); (try simp only [List.getElem_toArray, List.getElem_cons_succ, List.getElem_cons_zero]); first | (go_simp; done) | (go_simp; with_reducible rfl))
      try simp only [Act.put, List.getElem_toArray, List.getElem_cons_succ, List.getElem_cons_zero, List.setIfInBounds_toArray, List.set_cons_zero, List.set_cons_succ]
      refine wpAnyH_take (i := 15) (v := ?_) rfl (by kernel_rfl) (by kernel_rfl) (by kernel_rfl) (fun _ _ _ h => h) (Or.inl ⟨by rfl, ?_⟩) (by assumption) ?_
      rotate_left
      · (intro w hSw; (try dsimp only at hSw); (try simp only [List.getElem_toArray, List.getElem_cons_succ, List.getElem_cons_zero]); first | (go_simp; done) | (go_simp; with_reducible rfl))
      try simp only [Act.put, List.getElem_toArray, List.getElem_cons_succ, List.getElem_cons_zero, List.setIfInBounds_toArray, List.set_cons_zero, List.set_cons_succ]
      refine wpAnyH_take (i := 16) (v := ?_) rfl (by kernel_rfl) (by kernel_rfl) (by kernel_rfl) (fun _ _ _ h => h) (Or.inl ⟨by rfl, ?_⟩) (by assumption) ?_
      rotate_left
      · (intro w hSw; (try dsimp only at hSw); (try simp only [List.getElem_toArray, List.getElem_cons_succ, List.getElem_cons_zero]); first | (go_simp; done) | (go_simp; with_reducible rfl))
      try simp only [Act.put, List.getElem_toArray, List.getElem_cons_succ, List.getElem_cons_zero, List.setIfInBounds_toArray, List.set_cons_zero, List.set_cons_succ]
      refine wpAnyH_take (i := 17) (v := ?_) rfl (by kernel_rfl) (by kernel_rfl) (by kernel_rfl) (fun _ _ _ h => h) (Or.inl ⟨by rfl, ?_⟩) (by assumption) ?_
      rotate_left
      · (intro w hSw; (try dsimp only at hSw); (try simp only [List.getElem_toArray, List.getElem_cons_succ, List.getElem_cons_zero]); first | (go_simp; done) | (go_simp; with_reducible rfl))
      try simp only [Act.put, List.getElem_toArray, List.getElem_cons_succ, List.getElem_cons_zero, List.setIfInBounds_toArray, List.set_cons_zero, List.set_cons_succ]
      refine wpAnyH_ready (rs := [18]) (by kernel_rfl) (by simp) ?_
      refine AllReadyH.cons rfl (fun K hK => ?_) AllReadyH.nil
      try simp only [List.getElem_toArray, List.getElem_cons_succ, List.getElem_cons_zero]
      go_simp
      go_at_call 63; refine (lower_any lo hi T m cT R C f a b _ _ (H.out.keep (w' := w.drew) (fun _ _ _ => rfl) (Nat.le_refl _)) ha hb).mono ?_; rintro e2 w2 ⟨rfl, ht2, ho2⟩; have HT2 := Lib.hid ht2; have HO2 : Hid (Only lo hi w w2) := ⟨ho2.os, ho2.tape, ho2.output, ho2.size, ho2.block⟩; have k2 : w2.cell? ⟨T, a, none⟩ = some (.slice (some ⟨R a, 0, none⟩) m (C a)) ∧ w2.cell? ⟨T, o, none⟩ = some (.slice (some ⟨R o, 0, none⟩) m (C o)) ∧ w2.cell? ⟨R a, o, none⟩ = some (.int .i64 (f a o)) ∧ w2.cell? ⟨R o, b, none⟩ = some (.int .i64 (f o b)) := ⟨ht2.top a ha, ht2.top o ho, by rw [(ht2.row a o ha ho).1, HK1.out], by rw [(ht2.row o b ho hb).1, HK2.out]⟩; clear ht2 ho2
      refine hK.out _ _ ?_ (fun hHeld => ?_)
      · exact k2
      clear hK K
      try simp only [Act.put, List.getElem_toArray, List.getElem_cons_succ, List.getElem_cons_zero, List.setIfInBounds_toArray, List.set_cons_zero, List.set_cons_succ]
      refine wpAnyH_done (by kernel_rfl) ?_ _
      go_wp2_with fail
      go_end0
      exact ⟨rfl, by rw [HE.out]; exact HT2.out, HO2.out⟩
    · have HE : Hid (shF f a o b = f) := by show shF f a o b = _; unfold shF; rw [if_neg (fun e => hy e.2)]
      go_enter Try.func48, Try.ntmps48
      go_wp2_with fail
      go_end0
      exact ⟨rfl, by rw [HE.out]; exact H.out, Only.refl _ _ _⟩
  · have HE : Hid (shF f a o b = f) := by show shF f a o b = _; unfold shF; rw [if_neg (fun e => hx e.1)]
    go_enter Try.func48, Try.ntmps48
    go_wp2_with fail
    go_end0
    exact ⟨rfl, by rw [HE.out]; exact H.out, Only.refl _ _ _⟩
end Go.Proofs.Ythadehgpeafniaa
namespace Go.Proofs.Ythadehgpeafniaa
open Go.ChangeShapes Go.WideShapes Go.ChangeAt Go.RowKit

/-! ### the numbers -/
def nF0 (i j : Nat) : Int := if i = j then 0 else -1
def wayF (f : Nat → Nat → Int) (x : Wy) : Nat → Nat → Int := lowF (lowF f x.a.toNat x.b.toNat x.c) x.b.toNat x.a.toNat x.c
def nxTo (ws : List Wy) : Nat → Nat → Nat → Int
  | 0 => nF0
  | k + 1 => match ws[k]? with
    | some x => wayF (nxTo ws k) x
    | none => nxTo ws k
theorem nxTo_step {ws : List Wy} {k : Nat} {x : Wy} (hx : ws[k]? = some x) : nxTo ws (k + 1) = wayF (nxTo ws k) x := by rw [nxTo, hx]
def fwB (f : Nat → Nat → Int) (o a : Nat) : Nat → Nat → Nat → Int
  | 0 => f
  | b + 1 => shF (fwB f o a b) a o b
def fwA (f : Nat → Nat → Int) (o m : Nat) : Nat → Nat → Nat → Int
  | 0 => f
  | a + 1 => fwB (fwA f o m a) o a m
def fwO (f : Nat → Nat → Int) (m : Nat) : Nat → Nat → Nat → Int
  | 0 => f
  | o + 1 => fwA (fwO f m o) o m m
def farF (ws : List Wy) (m : Nat) : Nat → Nat → Int := fwO (nxTo ws ws.length) m m
/-- what holds of the table between two places -/
structure Fw (m : Nat) (B : Int) (f : Nat → Nat → Int) : Prop where
  diag : ∀ i, i < m → f i i = 0
  bd : ∀ i j, i < m → j < m → f i j ≤ B
structure FwAt (m o : Nat) (B : Int) (f0 f : Nat → Nat → Int) : Prop where
  diag : ∀ i, i < m → f i i = 0
  bd : ∀ i j, i < m → j < m → f i j ≤ 2 * B
  col : ∀ i, i < m → f i o = f0 i o
  rw_ : ∀ i, i < m → f o i = f0 o i
theorem FwAt.start {m o : Nat} {B : Int} {f : Nat → Nat → Int} (h : Fw m B f) (hB : 0 ≤ B) : FwAt m o B f f :=
  ⟨h.diag, fun i j hi hj => by have := h.bd i j hi hj; omega, fun _ _ => rfl, fun _ _ => rfl⟩
theorem FwAt.step {m o : Nat} {B : Int} {f0 f : Nat → Nat → Int} (h0 : Fw m B f0) (h : FwAt m o B f0 f) {a b : Nat} (ha : a < m) (hb : b < m) (ho : o < m) : FwAt m o B f0 (shF f a o b) := by
  unfold shF
  by_cases hc : 0 ≤ f a o ∧ 0 ≤ f o b
  · rw [if_pos hc]
    have e1 := h.col a ha
    have e2 := h.rw_ b hb
    have c1 := h0.bd a o ha ho
    have c2 := h0.bd o b ho hb
    refine ⟨fun i hi => ?_, fun i j hi hj => ?_, fun i hi => ?_, fun i hi => ?_⟩ <;> unfold lowF
    · have hd := h.diag i hi
      by_cases e : i = a ∧ i = b
      · obtain ⟨e3, e4⟩ := e
        subst e3
        subst e4
        rw [if_neg (by omega)]; exact hd
      · rw [if_neg (fun e' => e ⟨e'.1, e'.2.1⟩)]; exact hd
    · by_cases e : i = a ∧ j = b ∧ (f a b < 0 ∨ f a o + f o b < f a b)
      · rw [if_pos e]; omega
      · rw [if_neg e]; exact h.bd i j hi hj
    · by_cases e : i = a ∧ o = b
      · obtain ⟨e3, e4⟩ := e
        subst e3
        subst e4
        rw [if_neg (by omega)]; exact h.col i hi
      · rw [if_neg (fun e' => e ⟨e'.1, e'.2.1⟩)]; exact h.col i hi
    · by_cases e : o = a ∧ i = b
      · obtain ⟨e3, e4⟩ := e
        subst e3
        subst e4
        rw [if_neg (by omega)]; exact h.rw_ i hi
      · rw [if_neg (fun e' => e ⟨e'.1, e'.2.1⟩)]; exact h.rw_ i hi
  · rw [if_neg hc]; exact h
theorem fwB_at {m o : Nat} {B : Int} {f0 f : Nat → Nat → Int} (h0 : Fw m B f0) (h : FwAt m o B f0 f) {a : Nat} (ha : a < m) (ho : o < m) : ∀ b, b ≤ m → FwAt m o B f0 (fwB f o a b)
  | 0, _ => h
  | b + 1, hb => (fwB_at h0 h ha ho b (by omega)).step h0 ha (by omega) ho
theorem fwA_at {m o : Nat} {B : Int} {f0 f : Nat → Nat → Int} (h0 : Fw m B f0) (h : FwAt m o B f0 f) (ho : o < m) : ∀ a, a ≤ m → FwAt m o B f0 (fwA f o m a)
  | 0, _ => h
  | a + 1, ha => fwB_at h0 (fwA_at h0 h ho a (by omega)) (by omega) ho m (Nat.le_refl _)
theorem fwO_at {m : Nat} {B : Int} {f : Nat → Nat → Int} (hB : 0 ≤ B) (h : Fw m B f) : ∀ o, o ≤ m → Fw m (B * 2 ^ o) (fwO f m o)
  | 0, _ => ⟨h.diag, fun i j hi hj => by have := h.bd i j hi hj; simp only [Int.pow_zero, Int.mul_one]; exact this⟩
  | o + 1, ho => by
    have ih := fwO_at hB h o (by omega)
    have hp : (0 : Int) ≤ B * 2 ^ o := Int.mul_nonneg hB (Int.pow_nonneg (by omega))
    have h1 := fwA_at ih (FwAt.start (o := o) ih hp) (by omega) m (Nat.le_refl _)
    refine ⟨h1.diag, fun i j hi hj => ?_⟩
    have h2 := h1.bd i j hi hj
    have e : B * 2 ^ (o + 1) = 2 * (B * 2 ^ o) := by rw [Int.pow_succ, ← Int.mul_assoc]; omega
    show fwA (fwO f m o) o m m i j ≤ _
    omega
theorem lowF_fw {m : Nat} {B c : Int} {f : Nat → Nat → Int} (h : Fw m B f) {a b : Nat} (hab : a ≠ b) (hc : c ≤ B) : Fw m B (lowF f a b c) :=
  ⟨fun i hi => by unfold lowF; rw [if_neg (by omega)]; exact h.diag i hi, fun i j hi hj => by
    unfold lowF
    split
    · exact hc
    · exact h.bd i j hi hj⟩
theorem nxTo_fw {n : Int} {ws : List Wy} (hn : NetIs n ws) (m : Nat) : ∀ k, Fw m 9 (nxTo ws k)
  | 0 => ⟨fun i _ => by simp [nxTo, nF0], fun i j _ _ => by simp only [nxTo, nF0]; split <;> omega⟩
  | k + 1 => by
    have ih := nxTo_fw hn m k
    cases hx : ws[k]? with
    | none => rw [nxTo, hx]; exact ih
    | some x =>
      have hxa := hn.at_ hx
      rw [nxTo_step hx]
      exact lowF_fw (lowF_fw ih (by omega) (by omega)) (by omega) (by omega)
theorem fw_small {n : Int} {ws : List Wy} (hn : NetIs n ws) {m o : Nat} (hm : m ≤ 6) (ho : o ≤ m) : Fw m 1000 (fwO (nxTo ws ws.length) m o) := by
  have h := fwO_at (B := 9) (by omega) (nxTo_fw hn m ws.length) o ho
  refine ⟨h.diag, fun i j hi hj => ?_⟩
  have h1 := h.bd i j hi hj
  have h2 : 2 ^ o ≤ 2 ^ 6 := Nat.pow_le_pow_right (by omega) (by omega)
  have e : ((2 : Int) ^ o) = ((2 ^ o : Nat) : Int) := by simp
  rw [e] at h1
  omega

/-! ### the table is built -/
/-- a rows of the table in block T are laid; they lie behind it -/
structure TabP (w : World) (T m a : Nat) (f : Nat → Nat → Int) : Prop where
  sz : w.heap.size = T + 1 + a
  done : ∀ i, i < a → i < m → w.cell? ⟨T, i, none⟩ = some (.slice (some ⟨T + 1 + i, 0, none⟩) m m)
  todo : ∀ i, a ≤ i → i < m → w.cell? ⟨T, i, none⟩ = some (.slice none 0 0)
  fz : ∀ i, i < m → w.frozen? ⟨T, i, none⟩ = false
  row : ∀ i j, i < a → j < m → w.cell? ⟨T + 1 + i, j, none⟩ = some (.int .i64 (f i j)) ∧ w.frozen? ⟨T + 1 + i, j, none⟩ = false
section
variable {w : World} {T m a : Nat} {f g : Nat → Nat → Int}
theorem TabP.congr (h : TabP w T m a f) (he : ∀ i j, i < a → j < m → f i j = g i j) : TabP w T m a g :=
  ⟨h.sz, h.done, h.todo, h.fz, fun i j hi hj => by rw [← he i j hi hj]; exact h.row i j hi hj⟩
theorem TabP.put (h : TabP w T m a f) {i j : Nat} (hi : i < a) (hj : j < m) (x : Int) : TabP (w.setCell ⟨T + 1 + i, j, none⟩ (.int .i64 x)) T m a (fun i' j' => if i' = i ∧ j' = j then x else f i' j') := by
  refine ⟨by simpa [World.setCell] using h.sz, fun k hk hkm => ?_, fun k hk hkm => ?_, fun k hk => by rw [World.frozen?_setCell]; exact h.fz k hk, fun i' j' hi' hj' => ?_⟩
  · rw [World.cell?_setCell_other _ _ _ _ (by intro e; simp only [Addr.mk.injEq] at e; omega)]; exact h.done k hk hkm
  · rw [World.cell?_setCell_other _ _ _ _ (by intro e; simp only [Addr.mk.injEq] at e; omega)]; exact h.todo k hk hkm
  · rw [World.frozen?_setCell]
    refine ⟨?_, (h.row i' j' hi' hj').2⟩
    by_cases e : i' = i ∧ j' = j
    · obtain ⟨rfl, rfl⟩ := e
      rw [if_pos ⟨rfl, rfl⟩]
      exact World.cell?_setCell_same _ _ _ (h.row i' j' hi' hj').1
    · rw [if_neg e, World.cell?_setCell_other _ _ _ _ (by intro e'; simp only [Addr.mk.injEq] at e'; exact e ⟨by omega, by omega⟩)]
      exact (h.row i' j' hi' hj').1
/-- a row more, of zeros -/
theorem TabP.more (h : TabP w T m a f) (ha : a < m) (t : TypeId) : TabP ((w.alloc (.cells (Array.replicate m (.int .i64 0)) t)).setCell ⟨T, a, none⟩ (.slice (some ⟨w.heap.size, 0, none⟩) m m)) T m (a + 1) (fun i j => if i = a then 0 else f i j) := by
  have hs := h.sz
  have hT : T < w.heap.size := by omega
  refine ⟨by simp [World.setCell]; omega, fun k hk hkm => ?_, fun k hk hkm => ?_, fun k hk => ?_, fun i j hi hj => ?_⟩
  · by_cases e : k = a
    · subst e
      rw [show T + 1 + k = w.heap.size from by omega]
      exact World.cell?_setCell_same _ _ _ ((World.cell?_alloc_lt _ _ _ hT).trans (h.todo k (Nat.le_refl _) hkm))
    · rw [World.cell?_setCell_other _ _ _ _ (by intro e'; simp only [Addr.mk.injEq] at e'; omega), World.cell?_alloc_lt _ _ _ hT]
      exact h.done k (by omega) hkm
  · rw [World.cell?_setCell_other _ _ _ _ (by intro e'; simp only [Addr.mk.injEq] at e'; omega), World.cell?_alloc_lt _ _ _ hT]
    exact h.todo k (by omega) hkm
  · rw [World.frozen?_setCell, World.frozen?_of_block (w := w) (Below.heap_alloc w _ T hT)]; exact h.fz k hk
  · rw [World.frozen?_setCell, World.cell?_setCell_other _ _ _ _ (by intro e'; simp only [Addr.mk.injEq] at e'; omega)]
    by_cases e : i = a
    · subst e
      rw [if_pos rfl, show T + 1 + i = w.heap.size from by omega]
      have hh := heap_alloc_new w (.cells (Array.replicate m (.int .i64 0)) t)
      constructor
      · unfold World.cell?
        simp only [hh]
        simp [hj]
      · unfold World.frozen?
        simp only [hh]
        simp
    · rw [if_neg e]
      have hb := Below.heap_alloc w (.cells (Array.replicate m (.int .i64 0)) t) (T + 1 + i) (by omega)
      exact ⟨(World.cell?_of_block (w := w) hb).trans (h.row i j (by omega) hj).1, (World.frozen?_of_block (w := w) hb).trans (h.row i j (by omega) hj).2⟩
theorem TabP.all (h : TabP w T m m f) : TabM w T (T + 1 + m) T m (fun i => T + 1 + i) (fun _ => m) f :=
  ⟨fun i hi => h.done i hi hi, fun i j hi hj => h.row i j hi hj, fun i j _ _ e => by omega, fun i _ => by omega, ⟨Nat.le_refl _, by omega⟩, fun i hi => ⟨by omega, by omega⟩, Nat.le_of_eq h.sz.symm⟩
theorem TabP.first (w : World) (m : Nat) (t : TypeId) : TabP (w.alloc (.cells (Array.replicate m (.slice none 0 0)) t)) w.heap.size m 0 f := by
  have hh := heap_alloc_new w (.cells (Array.replicate m (.slice none 0 0)) t)
  refine ⟨by simp, fun i hi => by omega, fun i _ hi => ?_, fun i hi => ?_, fun i j hi => by omega⟩
  · unfold World.cell?
    simp only [hh]
    simp [hi]
  · unfold World.frozen?
    simp only [hh]
    simp
end
theorem mkRow0 (W : World) : (Instr.makeSlice 33 (.int .i64 ((0 : Nat) : Int)) (.int .i64 ((0 : Nat) : Int))).run Try.prog W = .ok (.slice (some ⟨W.heap.size, 0, none⟩) 0 0) (W.alloc (.cells (Array.replicate 0 (.int .i64 0)) 3)) := by kernel_rfl
theorem mkRow1 (W : World) : (Instr.makeSlice 33 (.int .i64 ((1 : Nat) : Int)) (.int .i64 ((1 : Nat) : Int))).run Try.prog W = .ok (.slice (some ⟨W.heap.size, 0, none⟩) 1 1) (W.alloc (.cells (Array.replicate 1 (.int .i64 0)) 3)) := by kernel_rfl
theorem mkRow2 (W : World) : (Instr.makeSlice 33 (.int .i64 ((2 : Nat) : Int)) (.int .i64 ((2 : Nat) : Int))).run Try.prog W = .ok (.slice (some ⟨W.heap.size, 0, none⟩) 2 2) (W.alloc (.cells (Array.replicate 2 (.int .i64 0)) 3)) := by kernel_rfl
theorem mkRow3 (W : World) : (Instr.makeSlice 33 (.int .i64 ((3 : Nat) : Int)) (.int .i64 ((3 : Nat) : Int))).run Try.prog W = .ok (.slice (some ⟨W.heap.size, 0, none⟩) 3 3) (W.alloc (.cells (Array.replicate 3 (.int .i64 0)) 3)) := by kernel_rfl
theorem mkRow4 (W : World) : (Instr.makeSlice 33 (.int .i64 ((4 : Nat) : Int)) (.int .i64 ((4 : Nat) : Int))).run Try.prog W = .ok (.slice (some ⟨W.heap.size, 0, none⟩) 4 4) (W.alloc (.cells (Array.replicate 4 (.int .i64 0)) 3)) := by kernel_rfl
theorem mkRow5 (W : World) : (Instr.makeSlice 33 (.int .i64 ((5 : Nat) : Int)) (.int .i64 ((5 : Nat) : Int))).run Try.prog W = .ok (.slice (some ⟨W.heap.size, 0, none⟩) 5 5) (W.alloc (.cells (Array.replicate 5 (.int .i64 0)) 3)) := by kernel_rfl
theorem mkRow6 (W : World) : (Instr.makeSlice 33 (.int .i64 ((6 : Nat) : Int)) (.int .i64 ((6 : Nat) : Int))).run Try.prog W = .ok (.slice (some ⟨W.heap.size, 0, none⟩) 6 6) (W.alloc (.cells (Array.replicate 6 (.int .i64 0)) 3)) := by kernel_rfl
theorem mkRow (W : World) : ∀ m : Nat, m ≤ 6 → (Instr.makeSlice 33 (.int .i64 ((m : Nat) : Int)) (.int .i64 ((m : Nat) : Int))).run Try.prog W = .ok (.slice (some ⟨W.heap.size, 0, none⟩) m m) (W.alloc (.cells (Array.replicate m (.int .i64 0)) 3))
  | 0, _ => mkRow0 W
  | 1, _ => mkRow1 W
  | 2, _ => mkRow2 W
  | 3, _ => mkRow3 W
  | 4, _ => mkRow4 W
  | 5, _ => mkRow5 W
  | 6, _ => mkRow6 W
  | m + 7, h => absurd h (by omega)
theorem mkTab0 (W : World) : (Instr.makeSlice 36 (.int .i64 ((0 : Nat) : Int)) (.int .i64 ((0 : Nat) : Int))).run Try.prog W = .ok (.slice (some ⟨W.heap.size, 0, none⟩) 0 0) (W.alloc (.cells (Array.replicate 0 (.slice none 0 0)) 33)) := by kernel_rfl
theorem mkTab1 (W : World) : (Instr.makeSlice 36 (.int .i64 ((1 : Nat) : Int)) (.int .i64 ((1 : Nat) : Int))).run Try.prog W = .ok (.slice (some ⟨W.heap.size, 0, none⟩) 1 1) (W.alloc (.cells (Array.replicate 1 (.slice none 0 0)) 33)) := by kernel_rfl
theorem mkTab2 (W : World) : (Instr.makeSlice 36 (.int .i64 ((2 : Nat) : Int)) (.int .i64 ((2 : Nat) : Int))).run Try.prog W = .ok (.slice (some ⟨W.heap.size, 0, none⟩) 2 2) (W.alloc (.cells (Array.replicate 2 (.slice none 0 0)) 33)) := by kernel_rfl
theorem mkTab3 (W : World) : (Instr.makeSlice 36 (.int .i64 ((3 : Nat) : Int)) (.int .i64 ((3 : Nat) : Int))).run Try.prog W = .ok (.slice (some ⟨W.heap.size, 0, none⟩) 3 3) (W.alloc (.cells (Array.replicate 3 (.slice none 0 0)) 33)) := by kernel_rfl
theorem mkTab4 (W : World) : (Instr.makeSlice 36 (.int .i64 ((4 : Nat) : Int)) (.int .i64 ((4 : Nat) : Int))).run Try.prog W = .ok (.slice (some ⟨W.heap.size, 0, none⟩) 4 4) (W.alloc (.cells (Array.replicate 4 (.slice none 0 0)) 33)) := by kernel_rfl
theorem mkTab5 (W : World) : (Instr.makeSlice 36 (.int .i64 ((5 : Nat) : Int)) (.int .i64 ((5 : Nat) : Int))).run Try.prog W = .ok (.slice (some ⟨W.heap.size, 0, none⟩) 5 5) (W.alloc (.cells (Array.replicate 5 (.slice none 0 0)) 33)) := by kernel_rfl
theorem mkTab6 (W : World) : (Instr.makeSlice 36 (.int .i64 ((6 : Nat) : Int)) (.int .i64 ((6 : Nat) : Int))).run Try.prog W = .ok (.slice (some ⟨W.heap.size, 0, none⟩) 6 6) (W.alloc (.cells (Array.replicate 6 (.slice none 0 0)) 33)) := by kernel_rfl
theorem mkTab (W : World) : ∀ m : Nat, m ≤ 6 → (Instr.makeSlice 36 (.int .i64 ((m : Nat) : Int)) (.int .i64 ((m : Nat) : Int))).run Try.prog W = .ok (.slice (some ⟨W.heap.size, 0, none⟩) m m) (W.alloc (.cells (Array.replicate m (.slice none 0 0)) 33))
  | 0, _ => mkTab0 W
  | 1, _ => mkTab1 W
  | 2, _ => mkTab2 W
  | 3, _ => mkTab3 W
  | 4, _ => mkTab4 W
  | 5, _ => mkTab5 W
  | 6, _ => mkTab6 W
  | m + 7, h => absurd h (by omega)

/-- a new table -/
def NewTab (m : Nat) (f : Nat → Nat → Int) (w : World) (e : Ending) (w' : World) : Prop :=
  ∃ T, w.heap.size ≤ T ∧ e = .returned (.slice (some ⟨T, 0, none⟩) m m) ∧ TabM w' T (T + 1 + m) T m (fun i => T + 1 + i) (fun _ => m) f ∧ Below w.heap.size w w'
set_option maxHeartbeats 4000000 in
theorem nextTable_any (m : Nat) (A : Option Addr) (cap : Nat) (ws : List Wy) (w : World) (hr : RW w w.heap.size A ws) (hn : NetIs (m : Int) ws) :
    Calls Try.prog 47 #[.agg #[.int .i64 m, .slice A ws.length cap]] w (NewTab m (nxTo ws ws.length) w) := by
  have HR := Lib.hid hr
  have HS := Lib.hid hn
  have hn6 := hn.hi
  have hl9 := hn.len
  have hmk1 := fun W => mkTab W m (by omega)
  have hmk2 := fun W => mkRow W m (by omega)
  clear hr hn
  go_enter Try.func47, Try.ntmps47
  go_wp2_with fail
  go_loopw [13] (fun i wr => ∃ a : Nat, a ≤ m ∧ i = .int .i64 a ∧ wr.cell? ⟨w.heap.size, 0, none⟩ = some (.int .i64 m) ∧ wr.cell? ⟨w.heap.size, 1, none⟩ = some (.slice A ws.length cap) ∧ Below w.heap.size w wr ∧ TabP wr (w.heap.size + 1) m a nF0) (fun i _ => m - (intOf i).toNat)
  case atStart =>
    refine ⟨0, Nat.zero_le _, rfl, by go_simp, by go_simp, by go_grown, ?_⟩
    have h := TabP.first (f := nF0) (w.alloc (.cells #[.int .i64 m, .slice A ws.length cap] 25)) m 33
    rw [World.size_alloc] at h
    exact h
  case round =>
    obtain ⟨a, ha, rfl, b0, b1, hb, htab⟩ := hrel
    have HB0 := Lib.hid hb
    have HTP := Lib.hid htab
    have hsz := htab.sz
    clear hb htab
    have a0 : (0 : Int) ≤ (a : Int) := by omega
    by_cases hlt : a < m
    · have a1 : (a : Int) < (m : Int) := by omega
      have ht := HTP.out.todo a (Nat.le_refl _) hlt
      have hf := HTP.out.fz a hlt
      have HM := Lib.hid (HTP.out.more hlt 3)
      have hzz : w.heap.size < wr.heap.size := by omega
      have hT : w.heap.size + 1 < wr.heap.size := by omega
      have hB2 : Below w.heap.size w ((wr.alloc (.cells (Array.replicate m (.int .i64 0)) 3)).setCell ⟨w.heap.size + 1, a, none⟩ (.slice (some ⟨wr.heap.size, 0, none⟩) m m)) := by have h9 := HB0.out; go_grown
      have c0 : ((wr.alloc (.cells (Array.replicate m (.int .i64 0)) 3)).setCell ⟨w.heap.size + 1, a, none⟩ (.slice (some ⟨wr.heap.size, 0, none⟩) m m)).cell? ⟨w.heap.size, 0, none⟩ = some (.int .i64 m) := (World.cell?_setCell_other _ _ _ _ (by intro e'; simp only [Addr.mk.injEq] at e'; omega)).trans ((World.cell?_alloc_lt _ _ _ hzz).trans b0)
      have c1 : ((wr.alloc (.cells (Array.replicate m (.int .i64 0)) 3)).setCell ⟨w.heap.size + 1, a, none⟩ (.slice (some ⟨wr.heap.size, 0, none⟩) m m)).cell? ⟨w.heap.size, 1, none⟩ = some (.slice A ws.length cap) := (World.cell?_setCell_other _ _ _ _ (by intro e'; simp only [Addr.mk.injEq] at e'; omega)).trans ((World.cell?_alloc_lt _ _ _ hzz).trans b1)
      have hf2 : (wr.alloc (.cells (Array.replicate m (.int .i64 0)) 3)).frozen? ⟨w.heap.size + 1, a, none⟩ = false := (World.frozen?_of_block (w := wr) (Below.heap_alloc wr _ (w.heap.size + 1) hT)).trans hf
      have HSZ := Lib.hid hsz
      clear hsz
      have ht2 := (World.cell?_alloc_lt wr (.cells (Array.replicate m (.int .i64 0)) 3) ⟨w.heap.size + 1, a, none⟩ hT).trans ht
      have hcm := World.setCell_alloc_past (w := wr) (.cells (Array.replicate m (.int .i64 0)) 3) (w.heap.size + 1) a (.slice (some ⟨wr.heap.size, 0, none⟩) m m) hT
      rw [hcm] at hB2 c0 c1 HM
      clear hcm
      go_wp2_with fail
      generalize hwg : (wr.setCell ⟨w.heap.size + 1, a, none⟩ (.slice (some ⟨wr.heap.size, 0, none⟩) m m)).alloc (.cells (Array.replicate m (.int .i64 0)) 3) = wg at hB2 c0 c1 HM ⊢
      have HB2 := Lib.hid hB2
      clear hB2 ht2 ht hf hf2 b0 b1 HB0 HTP hwg HSZ hT hzz
      go_loopw [27] (fun i wr => ∃ j : Nat, j ≤ m ∧ i = .int .i64 j ∧ wr.cell? ⟨w.heap.size, 0, none⟩ = some (.int .i64 m) ∧ wr.cell? ⟨w.heap.size, 1, none⟩ = some (.slice A ws.length cap) ∧ Below w.heap.size w wr ∧ TabP wr (w.heap.size + 1) m (a + 1) (fun i j' => if i = a then (if j' < j then nF0 a j' else 0) else nF0 i j')) (fun i _ => m - (intOf i).toNat)
      case atStart => exact ⟨0, Nat.zero_le _, rfl, c0, c1, HB2.out, HM.out.congr (fun i j' _ _ => by (try simp only [Nat.not_lt_zero, if_false]))⟩
      case round =>
        clear c0 c1 HB2 HM
        obtain ⟨j, hj, rfl, b0, b1, hb, htab⟩ := hrel
        have HB0 := Lib.hid hb
        have HTP := Lib.hid htab
        clear hb htab
        have j0 : (0 : Int) ≤ (j : Int) := by omega
        by_cases hlj : j < m
        · have j1 : (j : Int) < (m : Int) := by omega
          by_cases hja : j = a
          · have hne : ((j : Int) != (a : Int)) = false := by simp; omega
            have hne2 : ((j : Int) == (a : Int)) = true := by simp; omega
            go_wp2_with fail
            go_roundw
            case rel => exact ⟨j + 1, by omega, by go_num, b0, b1, HB0.out, HTP.out.congr (fun i j' _ _ => by
              by_cases e : i = a
              · rw [if_pos e, if_pos e]
                by_cases e2 : j' < j
                · rw [if_pos e2, if_pos (by omega)]
                · rw [if_neg e2]
                  by_cases e3 : j' = j
                  · rw [if_pos (by omega)]; unfold nF0; rw [if_pos (by omega)]
                  · rw [if_neg (by omega)]
              · rw [if_neg e, if_neg e])⟩
            case measure => simp [intOf]; omega
          · have hne : ((j : Int) != (a : Int)) = true := by simp; omega
            have hne2 : ((j : Int) == (a : Int)) = false := by simp; omega
            have hd := HTP.out.done a (by omega) hlt
            obtain ⟨r0, r1⟩ := HTP.out.row a j (by omega) hlj
            rw [if_pos rfl, if_neg (by omega)] at r0
            have hB3 : Below w.heap.size w (wr.setCell ⟨w.heap.size + 1 + 1 + a, j, none⟩ (.int .i64 (-1))) := by have h9 := HB0.out; go_grown
            have c0 : (wr.setCell ⟨w.heap.size + 1 + 1 + a, j, none⟩ (.int .i64 (-1))).cell? ⟨w.heap.size, 0, none⟩ = some (.int .i64 m) := (World.cell?_setCell_other _ _ _ _ (by intro e'; simp only [Addr.mk.injEq] at e'; omega)).trans b0
            have c1 : (wr.setCell ⟨w.heap.size + 1 + 1 + a, j, none⟩ (.int .i64 (-1))).cell? ⟨w.heap.size, 1, none⟩ = some (.slice A ws.length cap) := (World.cell?_setCell_other _ _ _ _ (by intro e'; simp only [Addr.mk.injEq] at e'; omega)).trans b1
            have HP := Lib.hid (HTP.out.put (i := a) (j := j) (by omega) hlj (-1))
            have HB3 := Lib.hid hB3
            clear hB3
            go_wp2_with fail
            go_roundw
            case rel => exact ⟨j + 1, by omega, by go_num, c0, c1, HB3.out, HP.out.congr (fun i j' _ _ => by
              by_cases e : i = a
              · subst e
                by_cases e3 : j' = j
                · subst e3
                  rw [if_pos ⟨rfl, rfl⟩, if_pos rfl, if_pos (by omega)]; unfold nF0; rw [if_neg (by omega)]
                · rw [if_neg (fun h => e3 h.2), if_pos rfl, if_pos rfl]
                  by_cases e2 : j' < j
                  · rw [if_pos e2, if_pos (by omega)]
                  · rw [if_neg e2, if_neg (by omega)]
              · rw [if_neg (fun h => e h.1), if_neg e, if_neg e])⟩
            case measure => simp [intOf]; omega
        · go_wp2_with fail
          go_roundw
          case rel => exact ⟨a + 1, by omega, by go_num, b0, b1, HB0.out, HTP.out.congr (fun i j' _ hj' => by
            by_cases e : i = a
            · subst e; rw [if_pos rfl, if_pos (by omega)]
            · rw [if_neg e])⟩
          case measure => simp [intOf]; omega
    · have ham : a = m := by omega
      subst ham
      have HTM := Lib.hid HTP.out.all
      have HRW := Lib.hid (HR.out.later HB0.out)
      go_wp2_with fail
      clear hmk1 hmk2
      go_loopw [44] (fun i wr => ∃ k : Nat, k ≤ ws.length ∧ i = .int .i64 k ∧ Below w.heap.size w wr ∧ TabM wr (w.heap.size + 1) (w.heap.size + 1 + 1 + a) (w.heap.size + 1) a (fun i => w.heap.size + 1 + 1 + i) (fun _ => a) (nxTo ws k)) (fun i _ => ws.length - (intOf i).toNat)
      case atStart => exact ⟨0, Nat.zero_le _, rfl, HB0.out, HTM.out⟩
      case round =>
        clear HB0 HTM HTP b0 b1 hsz
        obtain ⟨k, hk, rfl, hb, htab⟩ := hrel
        have HB0 := Lib.hid hb
        have HTP := Lib.hid htab
        have hk0 : (0 : Int) ≤ (k : Int) := by omega
        by_cases hlk : k < ws.length
        · have hk1 : (k : Int) < (ws.length : Int) := by omega
          obtain ⟨x, hx⟩ : ∃ x, ws[k]? = some x := ⟨_, List.getElem?_eq_getElem hlk⟩
          have hxa := HS.out.at_ hx
          obtain ⟨ia, hia⟩ := Int.eq_ofNat_of_zero_le hxa.1
          obtain ⟨ib, hib⟩ := Int.eq_ofNat_of_zero_le hxa.2.2.1
          have HN : Hid (nxTo ws (k + 1) = lowF (lowF (nxTo ws k) ia ib x.c) ib ia x.c) := by
            show nxTo ws (k + 1) = _
            rw [nxTo_step hx]; unfold wayF; rw [hia, hib]; rfl
          have hia2 : ia < a := by omega
          have hib2 : ib < a := by omega
          obtain ⟨b, o, rfl, hB, e0, e1, e2⟩ := HR.out.below hb k x hx
          rw [hia] at e0
          rw [hib] at e1
          have hhi := htab.his
          have HT1 := Lib.hid (htab.below ((Below.refl _ _).alloc (Nat.le_refl _) (.cells #[.int .i64 ia, .int .i64 ib, .int .i64 x.c] 31)))
          have HBA := Lib.hid (hb.alloc (show w.heap.size ≤ wr.heap.size by omega) (.cells #[.int .i64 ia, .int .i64 ib, .int .i64 x.c] 31))
          have y0 : (wr.alloc (.cells #[.int .i64 ia, .int .i64 ib, .int .i64 x.c] 31)).cell? ⟨wr.heap.size, 0, none⟩ = some (.int .i64 ia) := cell_of_row _ _ 0 _ _ (0, 0) (heap_alloc_new wr _)
          have y1 : (wr.alloc (.cells #[.int .i64 ia, .int .i64 ib, .int .i64 x.c] 31)).cell? ⟨wr.heap.size, 1, none⟩ = some (.int .i64 ib) := cell_of_row _ _ 1 _ _ (0, 0) (heap_alloc_new wr _)
          have y2 : (wr.alloc (.cells #[.int .i64 ia, .int .i64 ib, .int .i64 x.c] 31)).cell? ⟨wr.heap.size, 2, none⟩ = some (.int .i64 x.c) := cell_of_row _ _ 2 _ _ (0, 0) (heap_alloc_new wr _)
          have hsv : wr.heap.size < (wr.alloc (.cells #[.int .i64 ia, .int .i64 ib, .int .i64 x.c] 31)).heap.size := by simp
          clear hx hxa hia hib hb htab
          go_wp2_with fail
          refine (lower_any _ _ _ a a _ _ _ ia ib x.c _ HT1.out hia2 hib2).mono ?_; rintro e w1 ⟨rfl, ht1, ho1⟩
          have hblk := ho1.block wr.heap.size hsv (.inr (by omega))
          have u0 := (World.cell?_of_block (a := ⟨wr.heap.size, 0, none⟩) hblk).trans y0
          have u1 := (World.cell?_of_block (a := ⟨wr.heap.size, 1, none⟩) hblk).trans y1
          have u2 := (World.cell?_of_block (a := ⟨wr.heap.size, 2, none⟩) hblk).trans y2
          have HT2 := Lib.hid ht1
          have HB2 := Lib.hid (Below.only_ HBA.out (Nat.le_succ _) (by simp; omega) ho1)
          have hs1 := Nat.lt_of_lt_of_le hsv ho1.size
          clear ht1 ho1 hblk y0 y1 y2
          go_wp2_with fail
          refine (lower_any _ _ _ a a _ _ _ ib ia x.c _ HT2.out hib2 hia2).mono ?_; rintro e w2 ⟨rfl, ht2, ho2⟩
          have HT3 := Lib.hid ht2
          have HB3 := Lib.hid (Below.only_ HB2.out (Nat.le_succ _) (by omega) ho2)
          clear ht2 ho2
          go_wp2_with fail
          go_roundw
          case rel => exact ⟨k + 1, by omega, by go_num, HB3.out, by rw [HN.out]; exact HT3.out⟩
          case measure => simp [intOf]; omega
        · have hkl : k = ws.length := by omega
          subst hkl
          go_wp2_with fail
          go_ret
          exact ⟨w.heap.size + 1, Nat.le_succ _, rfl, HTP.out, HB0.out⟩
end Go.Proofs.Ythadehgpeafniaa
namespace Go.Proofs.Ythadehgpeafniaa
open Go.RowKit

/-! ### costs of sets -/
theorem cost_or {n : Int} {ws : List Wy} (hn : NetIs n ws) (s t : Int) : ∀ k, k ≤ ws.length → cost (ws.take k) (ior s t) ≤ cost (ws.take k) s + cost (ws.take k) t
  | 0, _ => by simp [cost, costFrom]
  | k + 1, h => by
    obtain ⟨x, hx⟩ : ∃ x, ws[k]? = some x := ⟨_, List.getElem?_eq_getElem (by omega)⟩
    have ih := cost_or hn s t k (by omega)
    have hxc := hn.at_ hx
    rw [cost_take ws _ k x hx, cost_take ws _ k x hx, cost_take ws _ k x hx, bit_ior]
    cases bit s k <;> cases bit t k <;> simp <;> omega
theorem cost_union {n : Int} {ws : List Wy} (hn : NetIs n ws) (s t : Int) : cost ws (ior s t) ≤ cost ws s + cost ws t := by
  have := cost_or hn s t ws.length (Nat.le_refl _)
  rwa [List.take_length] at this
theorem cost_sub {n : Int} {ws : List Wy} (hn : NetIs n ws) {u s : Int} (h : ∀ q, 0 ≤ q → bit u q = true → bit s q = true) : ∀ k, k ≤ ws.length → cost (ws.take k) u ≤ cost (ws.take k) s
  | 0, _ => Int.le_refl _
  | k + 1, hk => by
    obtain ⟨x, hx⟩ : ∃ x, ws[k]? = some x := ⟨_, List.getElem?_eq_getElem (by omega)⟩
    have ih := cost_sub hn h k (by omega)
    have hxc := hn.at_ hx
    rw [cost_take ws _ k x hx, cost_take ws _ k x hx]
    cases hu : bit u k
    · simp only [Bool.false_eq_true, if_false]; split <;> omega
    · rw [h k (by omega) hu]; simp only [if_true]; omega
theorem cost_mono {n : Int} {ws : List Wy} (hn : NetIs n ws) {u s : Int} (h : ∀ q, 0 ≤ q → bit u q = true → bit s q = true) : cost ws u ≤ cost ws s := by
  have := cost_sub hn h ws.length (Nat.le_refl _)
  rwa [List.take_length] at this
theorem cost_addTo {ws : List Wy} {u : Int} {k : Nat} {x : Wy} (hx : ws[k]? = some x) (hu : bit u k = false) : ∀ m, m ≤ ws.length → cost (ws.take m) (ior u (2 ^ k)) = cost (ws.take m) u + if k < m then x.c else 0
  | 0, _ => by simp [cost, costFrom]
  | m + 1, hm => by
    obtain ⟨y, hy⟩ : ∃ y, ws[m]? = some y := ⟨_, List.getElem?_eq_getElem (by omega)⟩
    rw [cost_take ws _ m y hy, cost_take ws _ m y hy, cost_addTo hx hu m (by omega), bit_ior, bit_pow k m (by omega)]
    by_cases e : m = k
    · subst e
      rw [hx] at hy; injection hy with hy; subst hy
      rw [hu]; simp
    · have : decide ((m : Int) = k) = false := by simp; omega
      rw [this, Bool.or_false]
      have hi : (if k < m + 1 then x.c else 0) = if k < m then x.c else 0 := by
        by_cases h2 : k < m
        · rw [if_pos h2, if_pos (by omega)]
        · rw [if_neg h2, if_neg (by omega)]
      rw [hi]
      omega
theorem cost_add {ws : List Wy} {u : Int} {k : Nat} {x : Wy} (hx : ws[k]? = some x) (hu : bit u k = false) : cost ws (ior u (2 ^ k)) = cost ws u + x.c := by
  have := cost_addTo hx hu ws.length (Nat.le_refl _)
  rwa [List.take_length, if_pos (List.getElem?_eq_some_iff.1 hx).1] at this

/-! ### a table that keeps the triangle -/
structure Tri (m : Nat) (F : Nat → Nat → Int) : Prop where
  diag : ∀ i, i < m → F i i = 0
  tri : ∀ i j c, i < m → j < m → c < m → 0 ≤ F i c → 0 ≤ F c j → 0 ≤ F i j ∧ F i j ≤ F i c + F c j
/-- what is told of one way -/
def WayLe (F : Nat → Nat → Int) (x : Wy) : Prop := (0 ≤ F x.a.toNat x.b.toNat ∧ F x.a.toNat x.b.toNat ≤ x.c) ∧ (0 ≤ F x.b.toNat x.a.toNat ∧ F x.b.toNat x.a.toNat ≤ x.c)
/-- from a place: what is come to, by which ways -/
structure Come (m : Nat) (ws : List Wy) (s : Int) (a : Nat) (F : Nat → Nat → Int) (r u : Int) : Prop where
  r0 : 0 ≤ r
  r1 : r < 64
  has : bit r a = true
  u0 : 0 ≤ u
  sub : ∀ q, 0 ≤ q → bit u q = true → bit s q = true
  ends : ∀ (k : Nat) (x : Wy), ws[k]? = some x → bit u k = true → bit r x.a = true ∧ bit r x.b = true
  far : ∀ q : Nat, bit r q = true → q < m ∧ 0 ≤ F a q ∧ F a q ≤ cost ws u
theorem come_ex {m : Nat} {ws : List Wy} (hn : NetIs (m : Int) ws) {s : Int} {a : Nat} (ha : a < m) {F : Nat → Nat → Int} (ht : Tri m F) (hw : ∀ (k : Nat) (x : Wy), ws[k]? = some x → WayLe F x) :
    ∀ (d : Nat) (r u : Int), (64 - r).toNat ≤ d → Come m ws s a F r u → ∃ r' u', Come m ws s a F r' u' ∧ Closed ws s (bit r')
  | 0, r, u, hd, h => by have := h.r1; omega
  | d + 1, r, u, hd, h => by
    by_cases hc : Closed ws s (bit r)
    · exact ⟨r, u, h, hc⟩
    · have hex : ∃ (k : Nat) (x : Wy), ws[k]? = some x ∧ bit s k = true ∧ bit r x.a ≠ bit r x.b := by
        apply Classical.byContradiction
        intro hno
        apply hc
        intro k x hx hb
        apply Classical.byContradiction
        intro hne
        exact hno ⟨k, x, hx, hb, hne⟩
      obtain ⟨k, x, hx, hb, hne⟩ := hex
      obtain ⟨a0, a1, b0, b1, hab, c0, c9⟩ := hn.at_ hx
      have h6 := hn.hi
      have huk : bit u k = false := by
        cases hq : bit u k
        · rfl
        · obtain ⟨e1, e2⟩ := h.ends k x hx hq
          exact absurd (e1.trans e2.symm) hne
      have pa := pow_bd x.a 5 (by omega)
      have pb := pow_bd x.b 5 (by omega)
      have hwb := ior_bd (2 ^ x.a.toNat) (2 ^ x.b.toNat) 6 (by omega) (by omega)
      have hrb := ior_bd r (ior (2 ^ x.a.toNat) (2 ^ x.b.toNat)) 6 (by have := h.r1; omega) (by omega)
      have hge := ior_ge r (ior (2 ^ x.a.toNat) (2 ^ x.b.toNat)) h.r0
      have hbits : ∀ q, 0 ≤ q → bit (ior r (ior (2 ^ x.a.toNat) (2 ^ x.b.toNat))) q = (bit r q || (decide (q = x.a) || decide (q = x.b))) := fun q hq => by
        rw [bit_ior, bit_ior, bit_shl _ _ a0 hq, bit_shl _ _ b0 hq]
      have hnew : ior r (ior (2 ^ x.a.toNat) (2 ^ x.b.toNat)) ≠ r := by
        intro e
        have e1 := hbits x.a a0
        have e2 := hbits x.b b0
        rw [e] at e1 e2
        simp at e1 e2
        exact hne (e1.trans e2.symm)
      have hca := cost_add hx huk
      obtain ⟨⟨w1, w2⟩, w3, w4⟩ := hw k x hx
      have hcu : cost ws u ≤ cost ws (ior u (2 ^ k)) := by omega
      have ea : ((x.a.toNat : Nat) : Int) = x.a := Int.toNat_of_nonneg a0
      have eb : ((x.b.toNat : Nat) : Int) = x.b := Int.toNat_of_nonneg b0
      refine come_ex hn ha ht hw d _ (ior u (2 ^ k)) (by have := h.r0; omega) ⟨hrb.1, hrb.2, by rw [hbits a (by omega), h.has]; rfl, by unfold ior; omega, fun q hq hbq => ?_, fun j y hy hbj => ?_, fun q hbq => ?_⟩
      · rw [bit_ior, bit_pow k q hq] at hbq
        simp only [Bool.or_eq_true, decide_eq_true_eq] at hbq
        rcases hbq with hbq | hbq
        · exact h.sub q hq hbq
        · rw [hbq]; exact hb
      · rw [bit_ior, bit_pow k (j : Int) (by omega)] at hbj
        simp only [Bool.or_eq_true, decide_eq_true_eq] at hbj
        have hyn := hn.at_ hy
        rcases hbj with hbj | hbj
        · obtain ⟨e1, e2⟩ := h.ends j y hy hbj
          rw [hbits y.a hyn.1, hbits y.b hyn.2.2.1, e1, e2]
          exact ⟨rfl, rfl⟩
        · have hjk : j = k := by omega
          subst hjk
          rw [hx] at hy; injection hy with hy; subst hy
          rw [hbits x.a a0, hbits x.b b0]
          simp
      · rw [hbits q (by omega)] at hbq
        simp only [Bool.or_eq_true, decide_eq_true_eq] at hbq
        rcases hbq with hbq | hbq | hbq
        · obtain ⟨g1, g2, g3⟩ := h.far q hbq
          exact ⟨g1, g2, by omega⟩
        · -- the place a of the way
          have hqa : q = x.a.toNat := by omega
          subst hqa
          by_cases hra : bit r x.a = true
          · obtain ⟨g1, g2, g3⟩ := h.far x.a.toNat (by rw [ea]; exact hra)
            exact ⟨g1, g2, by omega⟩
          · have hrb' : bit r x.b = true := by
              cases h2 : bit r x.b
              · cases h1 : bit r x.a
                · exact absurd (h1.trans h2.symm) hne
                · exact absurd h1 hra
              · rfl
            obtain ⟨g1, g2, g3⟩ := h.far x.b.toNat (by rw [eb]; exact hrb')
            have := ht.tri a x.a.toNat x.b.toNat ha (by omega) (by omega) g2 w3
            exact ⟨by omega, this.1, by omega⟩
        · have hqb : q = x.b.toNat := by omega
          subst hqb
          by_cases hrb2 : bit r x.b = true
          · obtain ⟨g1, g2, g3⟩ := h.far x.b.toNat (by rw [eb]; exact hrb2)
            exact ⟨g1, g2, by omega⟩
          · have hra' : bit r x.a = true := by
              cases h1 : bit r x.a
              · cases h2 : bit r x.b
                · exact absurd (h1.trans h2.symm) hne
                · exact absurd h2 hrb2
              · rfl
            obtain ⟨g1, g2, g3⟩ := h.far x.a.toNat (by rw [ea]; exact hra')
            have := ht.tri a x.b.toNat x.a.toNat ha (by omega) (by omega) g2 w1
            exact ⟨by omega, this.1, by omega⟩
/-- no set that joins two places costs less than the table tells -/
theorem far_le {m : Nat} {ws : List Wy} (hn : NetIs (m : Int) ws) {s : Int} {a q : Nat} (ha : a < m) {F : Nat → Nat → Int} (ht : Tri m F) (hw : ∀ (k : Nat) (x : Wy), ws[k]? = some x → WayLe F x) (h : bit (reach ws s a) q = true) : 0 ≤ F a q ∧ F a q ≤ cost ws s := by
  have h6 := hn.hi
  have pa := pow_bd (a : Int) 5 (by omega)
  rw [Int.toNat_natCast] at pa
  have hst : Come m ws s a F (2 ^ a) 0 := by
    refine ⟨by omega, by omega, by rw [bit_pow a a (by omega)]; simp, Int.le_refl _, fun q _ h => ?_, fun k x _ h => ?_, fun q hq => ?_⟩
    · rw [bit_zero_] at h; cases h
    · rw [bit_zero_] at h; cases h
    · rw [bit_pow a q (by omega)] at hq
      have : q = a := by simp at hq; omega
      subst this
      have := ht.diag q ha
      have hc0 : cost ws 0 = 0 := cost_zero ws
      rw [hc0]
      exact ⟨ha, by omega, by omega⟩
  obtain ⟨r, u, hco, hcl⟩ := come_ex hn ha ht hw 64 _ 0 (by omega) hst
  have R := reach_is (s := s) hn (show (0 : Int) ≤ (a : Int) by omega) (by omega)
  have hq := R.least (bit r) hco.has hcl q (by omega) h
  obtain ⟨_, g2, g3⟩ := hco.far q hq
  exact ⟨g2, Int.le_trans g3 (cost_mono hn hco.sub)⟩

/-! ### the table over each place keeps the triangle -/
def LeF (m : Nat) (f g : Nat → Nat → Int) : Prop := ∀ i j, i < m → j < m → 0 ≤ f i j → 0 ≤ g i j ∧ g i j ≤ f i j
theorem LeF.refl (m : Nat) (f : Nat → Nat → Int) : LeF m f f := fun _ _ _ _ h => ⟨h, Int.le_refl _⟩
theorem LeF.trans {m : Nat} {f g h : Nat → Nat → Int} (h1 : LeF m f g) (h2 : LeF m g h) : LeF m f h := fun i j hi hj h0 => by
  obtain ⟨a, b⟩ := h1 i j hi hj h0
  obtain ⟨c, d⟩ := h2 i j hi hj a
  exact ⟨c, by omega⟩
theorem lowF_le {m : Nat} {f : Nat → Nat → Int} {a b : Nat} {c : Int} (hc : 0 ≤ c) : LeF m f (lowF f a b c) := fun i j _ _ h0 => by
  unfold lowF
  by_cases e : i = a ∧ j = b ∧ (f a b < 0 ∨ c < f a b)
  · rw [if_pos e]; obtain ⟨rfl, rfl, h⟩ := e; omega
  · rw [if_neg e]; exact ⟨h0, Int.le_refl _⟩
theorem lowF_at {f : Nat → Nat → Int} {a b : Nat} {c : Int} (hc : 0 ≤ c) : 0 ≤ lowF f a b c a b ∧ lowF f a b c a b ≤ c := by
  unfold lowF
  by_cases e : f a b < 0 ∨ c < f a b
  · rw [if_pos ⟨rfl, rfl, e⟩]; omega
  · rw [if_neg (fun h => e h.2.2)]; omega
theorem shF_le {m : Nat} {f : Nat → Nat → Int} (a o b : Nat) : LeF m f (shF f a o b) := by
  unfold shF
  split
  · exact lowF_le (by omega)
  · exact LeF.refl _ _
theorem shF_at {f : Nat → Nat → Int} {a o b : Nat} (h1 : 0 ≤ f a o) (h2 : 0 ≤ f o b) : 0 ≤ shF f a o b a b ∧ shF f a o b a b ≤ f a o + f o b := by
  unfold shF
  rw [if_pos ⟨h1, h2⟩]
  exact lowF_at (by omega)
theorem fwB_le (m : Nat) (f : Nat → Nat → Int) (o a : Nat) : ∀ b, LeF m f (fwB f o a b)
  | 0 => LeF.refl _ _
  | b + 1 => (fwB_le m f o a b).trans (shF_le a o b)
theorem fwB_le2 (m : Nat) (f : Nat → Nat → Int) (o a b : Nat) : ∀ d, LeF m (fwB f o a b) (fwB f o a (b + d))
  | 0 => LeF.refl _ _
  | d + 1 => (fwB_le2 m f o a b d).trans (shF_le a o (b + d))
theorem fwA_le (m : Nat) (f : Nat → Nat → Int) (o k : Nat) : ∀ a, LeF m f (fwA f o k a)
  | 0 => LeF.refl _ _
  | a + 1 => (fwA_le m f o k a).trans (fwB_le m _ o a k)
theorem fwA_le2 (m : Nat) (f : Nat → Nat → Int) (o k a : Nat) : ∀ d, LeF m (fwA f o k a) (fwA f o k (a + d))
  | 0 => LeF.refl _ _
  | d + 1 => (fwA_le2 m f o k a d).trans (fwB_le m _ o (a + d) k)
theorem fwO_le (m : Nat) (f : Nat → Nat → Int) : ∀ o, LeF m f (fwO f m o)
  | 0 => LeF.refl _ _
  | o + 1 => (fwO_le m f o).trans (fwA_le m _ o m m)
/-- behind the place o each way over it is told -/
theorem fwA_up {m o : Nat} {B : Int} {f : Nat → Nat → Int} (h0 : Fw m B f) (hB : 0 ≤ B) (ho : o < m) {i j : Nat} (hi : i < m) (hj : j < m) (h1 : 0 ≤ f i o) (h2 : 0 ≤ f o j) : 0 ≤ fwA f o m m i j ∧ fwA f o m m i j ≤ f i o + f o j := by
  have hA := fwA_at h0 (FwAt.start h0 hB) ho i (by omega)
  have hBt := fwB_at h0 hA hi ho j (by omega)
  have e1 := hBt.col i hi
  have e2 := hBt.rw_ j hj
  have s1 := shF_at (f := fwB (fwA f o m i) o i j) (a := i) (o := o) (b := j) (by omega) (by omega)
  have l1 := fwB_le2 m (fwA f o m i) o i (j + 1) (m - (j + 1)) i j hi hj s1.1
  rw [show j + 1 + (m - (j + 1)) = m from by omega] at l1
  have l2 := fwA_le2 m f o m (i + 1) (m - (i + 1)) i j hi hj l1.1
  rw [show i + 1 + (m - (i + 1)) = m from by omega] at l2
  have s2 : fwB (fwA f o m i) o i (j + 1) i j ≤ f i o + f o j := by
    have := s1.2
    rw [e1, e2] at this
    exact this
  exact ⟨l2.1, Int.le_trans l2.2 (Int.le_trans l1.2 s2)⟩
/-- what stands there is what stood there, or the way over o -/
def Form (m o : Nat) (f0 f : Nat → Nat → Int) : Prop := ∀ i j, i < m → j < m → f i j = f0 i j ∨ (0 ≤ f0 i o ∧ 0 ≤ f0 o j ∧ f i j = f0 i o + f0 o j)
theorem shF_form {m o : Nat} {B : Int} {f0 f : Nat → Nat → Int} (h : FwAt m o B f0 f) (hf : Form m o f0 f) {a b : Nat} (ha : a < m) (hb : b < m) : Form m o f0 (shF f a o b) := fun i j hi hj => by
  unfold shF
  split
  · rename_i hc
    rw [h.col a ha, h.rw_ b hb] at hc ⊢
    unfold lowF
    by_cases e : i = a ∧ j = b ∧ (f a b < 0 ∨ f0 a o + f0 o b < f a b)
    · rw [if_pos e]
      obtain ⟨rfl, rfl, _⟩ := e
      exact .inr ⟨hc.1, hc.2, rfl⟩
    · rw [if_neg e]; exact hf i j hi hj
  · exact hf i j hi hj
theorem fwB_form {m o : Nat} {B : Int} {f0 f : Nat → Nat → Int} (h0 : Fw m B f0) (h : FwAt m o B f0 f) (hf : Form m o f0 f) {a : Nat} (ha : a < m) (ho : o < m) : ∀ b, b ≤ m → Form m o f0 (fwB f o a b)
  | 0, _ => hf
  | b + 1, hb => shF_form (fwB_at h0 h ha ho b (by omega)) (fwB_form h0 h hf ha ho b (by omega)) ha (by omega)
theorem fwA_form {m o : Nat} {B : Int} {f : Nat → Nat → Int} (h0 : Fw m B f) (hB : 0 ≤ B) (ho : o < m) : ∀ a, a ≤ m → Form m o f (fwA f o m a)
  | 0, _ => fun _ _ _ _ => .inl rfl
  | a + 1, ha => fwB_form h0 (fwA_at h0 (FwAt.start h0 hB) ho a (by omega)) (fwA_form h0 hB ho a (by omega)) (by omega) ho m (Nat.le_refl _)
/-- over the first places the triangle is kept -/
def TriTo (m k : Nat) (F : Nat → Nat → Int) : Prop := ∀ i j c, i < m → j < m → c < k → 0 ≤ F i c → 0 ≤ F c j → 0 ≤ F i j ∧ F i j ≤ F i c + F c j
theorem triTo_step {m o : Nat} {B : Int} {f : Nat → Nat → Int} (h0 : Fw m B f) (hB : 0 ≤ B) (ho : o < m) (ht : TriTo m o f) : TriTo m (o + 1) (fwA f o m m) := fun i j c hi hj hc h1 h2 => by
  have hl := fwA_le m f o m m
  have hf := fwA_form h0 hB ho m (Nat.le_refl _)
  have hA := fwA_at h0 (FwAt.start h0 hB) ho m (Nat.le_refl _)
  have up := fun hi' hj' => fwA_up (i := i) (j := j) h0 hB ho hi hj hi' hj'
  by_cases e : c = o
  · subst e
    rw [hA.col i hi] at h1 ⊢
    rw [hA.rw_ j hj] at h2 ⊢
    exact up h1 h2
  · have hco : c < o := by omega
    have hcm : c < m := by omega
    rcases hf i c hi hcm with e1 | ⟨a1, a2, e1⟩ <;> rcases hf c j hcm hj with e2 | ⟨b1, b2, e2⟩
    · rw [e1] at h1
      rw [e2] at h2
      have t := ht i j c hi hj hco h1 h2
      have l := hl i j hi hj t.1
      exact ⟨l.1, by rw [e1, e2]; omega⟩
    · rw [e1] at h1
      have t := ht i o c hi ho hco h1 b1
      have u := up t.1 b2
      exact ⟨u.1, by rw [e1, e2]; omega⟩
    · rw [e2] at h2
      have t := ht o j c ho hj hco a2 h2
      have u := up a1 t.1
      exact ⟨u.1, by rw [e1, e2]; omega⟩
    · have u := up a1 b2
      exact ⟨u.1, by rw [e1, e2]; omega⟩
theorem triTo_all {n : Int} {ws : List Wy} (hn : NetIs n ws) {m : Nat} (hm : m ≤ 6) : ∀ o, o ≤ m → TriTo m o (fwO (nxTo ws ws.length) m o)
  | 0, _ => fun _ _ c _ _ hc => by omega
  | o + 1, ho => triTo_step (fw_small hn hm (by omega)) (by omega) (by omega) (triTo_all hn hm o (by omega))
theorem farF_tri {n : Int} {ws : List Wy} (hn : NetIs n ws) {m : Nat} (hm : m ≤ 6) : Tri m (farF ws m) :=
  ⟨(fw_small hn hm (Nat.le_refl _)).diag, fun i j c hi hj hc => triTo_all hn hm m (Nat.le_refl _) i j c hi hj hc⟩
theorem wayF_le {m : Nat} {f : Nat → Nat → Int} {x : Wy} (hc : 0 ≤ x.c) : LeF m f (wayF f x) := (lowF_le hc).trans (lowF_le hc)
theorem nxTo_way {n : Int} {ws : List Wy} (hn : NetIs n ws) {m : Nat} (hm : n = m) {k : Nat} {x : Wy} (hx : ws[k]? = some x) : ∀ j, k < j → j ≤ ws.length → WayLe (nxTo ws j) x
  | 0, h, _ => by omega
  | j + 1, h, hj => by
    obtain ⟨y, hy⟩ : ∃ y, ws[j]? = some y := ⟨_, List.getElem?_eq_getElem (by omega)⟩
    have hxa := hn.at_ hx
    have hya := hn.at_ hy
    rw [nxTo_step hy]
    by_cases e : k = j
    · subst e
      rw [hx] at hy; injection hy with hy; subst hy
      have h1 := lowF_at (f := nxTo ws k) (a := x.a.toNat) (b := x.b.toNat) hxa.2.2.2.2.2.1
      have h2 := lowF_le (m := m) (f := lowF (nxTo ws k) x.a.toNat x.b.toNat x.c) (a := x.b.toNat) (b := x.a.toNat) hxa.2.2.2.2.2.1 x.a.toNat x.b.toNat (by omega) (by omega) h1.1
      have h3 := lowF_at (f := lowF (nxTo ws k) x.a.toNat x.b.toNat x.c) (a := x.b.toNat) (b := x.a.toNat) hxa.2.2.2.2.2.1
      exact ⟨⟨h2.1, Int.le_trans h2.2 h1.2⟩, h3⟩
    · obtain ⟨⟨g1, g2⟩, g3, g4⟩ := nxTo_way hn hm hx j (by omega) (by omega)
      have l := wayF_le (m := m) (f := nxTo ws j) (x := y) hya.2.2.2.2.2.1
      have l1 := l x.a.toNat x.b.toNat (by omega) (by omega) g1
      have l2 := l x.b.toNat x.a.toNat (by omega) (by omega) g3
      exact ⟨⟨l1.1, by omega⟩, l2.1, by omega⟩
theorem farF_way {m : Nat} {ws : List Wy} (hn : NetIs (m : Int) ws) {k : Nat} {x : Wy} (hx : ws[k]? = some x) : WayLe (farF ws m) x := by
  have hk := (List.getElem?_eq_some_iff.1 hx).1
  have hxa := hn.at_ hx
  obtain ⟨⟨g1, g2⟩, g3, g4⟩ := nxTo_way hn rfl hx ws.length hk (Nat.le_refl _)
  have l := fwO_le m (nxTo ws ws.length) m
  have l1 := l x.a.toNat x.b.toNat (by omega) (by omega) g1
  have l2 := l x.b.toNat x.a.toNat (by omega) (by omega) g3
  exact ⟨⟨l1.1, Int.le_trans l1.2 g2⟩, l2.1, Int.le_trans l2.2 g4⟩

/-! ### what is told there is some set of ways -/
def Rep (m : Nat) (ws : List Wy) (f : Nat → Nat → Int) : Prop := ∀ i j, i < m → j < m → 0 ≤ f i j → ∃ s, 0 ≤ s ∧ s ≤ full ws.length ∧ bit (reach ws s i) j = true ∧ cost ws s ≤ f i j
theorem ior_full {len : Nat} {s t : Int} (hs0 : 0 ≤ s) (hs : s ≤ full len) (ht0 : 0 ≤ t) (ht : t ≤ full len) : 0 ≤ ior s t ∧ ior s t ≤ full len := by
  unfold full at *
  have := ior_bd s t len (by omega) (by omega)
  omega
theorem rep_low {m : Nat} {ws : List Wy} (hn : NetIs (m : Int) ws) {f : Nat → Nat → Int} (h : Rep m ws f) {a b : Nat} {c s : Int} (s0 : 0 ≤ s) (s1 : s ≤ full ws.length) (hr : bit (reach ws s a) b = true) (hc : cost ws s ≤ c) : Rep m ws (lowF f a b c) := fun i j hi hj h0 => by
  unfold lowF at h0 ⊢
  by_cases e : i = a ∧ j = b ∧ (f a b < 0 ∨ c < f a b)
  · rw [if_pos e] at h0 ⊢
    obtain ⟨rfl, rfl, _⟩ := e
    exact ⟨s, s0, s1, hr, hc⟩
  · rw [if_neg e] at h0 ⊢
    exact h i j hi hj h0
theorem rep_sh {m : Nat} {ws : List Wy} (hn : NetIs (m : Int) ws) {f : Nat → Nat → Int} (h : Rep m ws f) {a o b : Nat} (ha : a < m) (ho : o < m) (hb : b < m) : Rep m ws (shF f a o b) := by
  unfold shF
  split
  · rename_i hc
    obtain ⟨s, s0, s1, s2, s3⟩ := h a o ha ho hc.1
    obtain ⟨t, t0, t1, t2, t3⟩ := h o b ho hb hc.2
    have hf := ior_full s0 s1 t0 t1
    refine rep_low hn h hf.1 hf.2 ?_ (Int.le_trans (cost_union hn s t) (by omega))
    have r1 := re_mono (t := ior s t) hn (show (0 : Int) ≤ (a : Int) by omega) (by omega) (show (0 : Int) ≤ (o : Int) by omega) (fun q _ hq => by rw [bit_ior, hq]; rfl) s2
    have r2 := re_mono (t := ior s t) hn (show (0 : Int) ≤ (o : Int) by omega) (by omega) (show (0 : Int) ≤ (b : Int) by omega) (fun q _ hq => by rw [bit_ior, hq]; simp) t2
    exact re_trans hn (by omega) (by omega) (by omega) r1 r2
  · exact h
theorem rep_nx {m : Nat} {ws : List Wy} (hn : NetIs (m : Int) ws) : ∀ k, k ≤ ws.length → Rep m ws (nxTo ws k)
  | 0, _ => fun i j hi hj h0 => by
    have hij : i = j := by
      simp only [nxTo, nF0] at h0
      split at h0
      · assumption
      · omega
    subst hij
    have hfn : 0 ≤ full ws.length := by
      have h1 := Nat.one_le_two_pow (n := ws.length)
      have e : ((2 : Int) ^ ws.length) = ((2 ^ ws.length : Nat) : Int) := by simp
      unfold full
      omega
    refine ⟨0, Int.le_refl _, hfn, (reach_is hn (by omega) (by omega)).has, ?_⟩
    rw [cost_zero]; exact h0
  | k + 1, hk => by
    obtain ⟨x, hx⟩ : ∃ x, ws[k]? = some x := ⟨_, List.getElem?_eq_getElem (by omega)⟩
    have ih := rep_nx hn k (by omega)
    have hxa := hn.at_ hx
    have ea : ((x.a.toNat : Nat) : Int) = x.a := Int.toNat_of_nonneg hxa.1
    have eb : ((x.b.toNat : Nat) : Int) = x.b := Int.toNat_of_nonneg hxa.2.2.1
    have hz : ior 0 (2 ^ k) = 2 ^ k := by
      have : (1 : Int) ≤ 2 ^ k := by have e2 : ((2 : Int) ^ k) = ((2 ^ k : Nat) : Int) := by simp
                                     have := Nat.one_le_two_pow (n := k)
                                     omega
      unfold ior; simp; omega
    have hcost : cost ws (2 ^ k) = x.c := by
      have := cost_add (u := 0) hx (bit_zero_ _)
      rw [hz, cost_zero] at this
      omega
    have hb : 0 ≤ (2 : Int) ^ k ∧ (2 : Int) ^ k ≤ full ws.length := by
      have h2 : 2 ^ (k + 1) ≤ 2 ^ ws.length := Nat.pow_le_pow_right (by omega) (by omega)
      have h3 : 2 ^ (k + 1) = 2 ^ k * 2 := Nat.pow_succ 2 k
      have h4 := Nat.one_le_two_pow (n := k)
      have e1 : ((2 : Int) ^ ws.length) = ((2 ^ ws.length : Nat) : Int) := by simp
      have e2 : ((2 : Int) ^ k) = ((2 ^ k : Nat) : Int) := by simp
      unfold full
      omega
    have hw := re_way hn hx (show bit (2 ^ k) k = true by rw [bit_pow k k (by omega)]; simp)
    rw [nxTo_step hx]
    refine rep_low hn (rep_low hn ih hb.1 hb.2 (by rw [ea, eb]; exact hw) (by omega)) hb.1 hb.2 (by rw [ea, eb]; exact re_sym hn hxa.1 hxa.2.1 hxa.2.2.1 hw) (by omega)
theorem rep_fw {m : Nat} {ws : List Wy} (hn : NetIs (m : Int) ws) : Rep m ws (farF ws m) := by
  have hB : ∀ (f : Nat → Nat → Int) (o a : Nat), Rep m ws f → o < m → a < m → ∀ b, b ≤ m → Rep m ws (fwB f o a b) := fun f o a h ho ha b => by
    induction b with
    | zero => intro _; exact h
    | succ b ih => intro hb; exact rep_sh hn (ih (by omega)) ha ho (by omega)
  have hA : ∀ (f : Nat → Nat → Int) (o : Nat), Rep m ws f → o < m → ∀ a, a ≤ m → Rep m ws (fwA f o m a) := fun f o h ho a => by
    induction a with
    | zero => intro _; exact h
    | succ a ih => intro ha; exact hB _ o a (ih (by omega)) ho (by omega) m (Nat.le_refl _)
  have hO : ∀ o, o ≤ m → Rep m ws (fwO (nxTo ws ws.length) m o) := fun o => by
    induction o with
    | zero => intro _; exact rep_nx hn _ (Nat.le_refl _)
    | succ o ih => intro ho; exact hA _ o (ih (by omega)) (by omega) m (Nat.le_refl _)
  exact hO m (Nat.le_refl _)
end Go.Proofs.Ythadehgpeafniaa
namespace Go.Proofs.Ythadehgpeafniaa
open Go.RowKit

theorem lessb_all : ∀ (u : Fin 512) (k j : Fin 9), u.val.testBit k.val = true → (u.val - 2 ^ k.val).testBit j.val = (u.val.testBit j.val && !(j.val == k.val)) := by decide +kernel
theorem lessb {u : Int} {k j : Nat} (u0 : 0 ≤ u) (u1 : u < 512) (hk : k < 9) (hj : j < 9) (h : bit u k = true) : bit (u - 2 ^ k) j = (bit u j && !(j == k)) ∧ (2 : Int) ^ k ≤ u := by
  have hb : u.toNat.testBit k = true := by simpa [bit] using h
  have := lessb_all ⟨u.toNat, by omega⟩ ⟨k, hk⟩ ⟨j, hj⟩ hb
  simp only at this
  have hge : 2 ^ k ≤ u.toNat := Nat.ge_two_pow_of_testBit hb
  have e : ((2 : Int) ^ k) = ((2 ^ k : Nat) : Int) := by simp
  have e2 : (u - 2 ^ k).toNat = u.toNat - 2 ^ k := by omega
  refine ⟨?_, by omega⟩
  unfold bit
  rw [Int.toNat_natCast, e2, this]
theorem chp_false {ws : List Wy} {a b : Int} : chp ws a b = false ↔ cost ws b < cost ws a ∨ (cost ws a = cost ws b ∧ pop b ≤ pop a) := by
  unfold chp
  split <;> simp only [decide_eq_false_iff_not] <;> omega
theorem chp_true {ws : List Wy} {a b : Int} : chp ws a b = true ↔ cost ws a < cost ws b ∨ (cost ws a = cost ws b ∧ pop a < pop b) := by
  unfold chp
  split <;> simp only [decide_eq_true_eq] <;> omega
theorem bestTo_least (ws : List Wy) (e : Int) : ∀ k, (0 ≤ bestTo ws e k → joins ws (bestTo ws e k) e = true) ∧ ∀ s : Nat, s < k → joins ws s e = true → 0 ≤ bestTo ws e k ∧ chp ws s (bestTo ws e k) = false
  | 0 => ⟨fun h => by simp [bestTo] at h, fun s hs => by omega⟩
  | k + 1 => by
    obtain ⟨ih1, ih2⟩ := bestTo_least ws e k
    by_cases hj : joins ws k e = true
    · by_cases hc : bestTo ws e k < 0 ∨ chp ws k (bestTo ws e k) = true
      · rw [bestTo_yes hc hj]
        refine ⟨fun _ => hj, fun s hs hjs => ⟨by omega, ?_⟩⟩
        by_cases e2 : s = k
        · subst e2; rw [chp_false]; omega
        · obtain ⟨i0, i1⟩ := ih2 s (by omega) hjs
          rcases hc with hc | hc
          · omega
          · rw [chp_false] at i1 ⊢
            rw [chp_true] at hc
            omega
      · have h1 : ¬ bestTo ws e k < 0 := fun h => hc (.inl h)
        have h2 : chp ws k (bestTo ws e k) = false := by
          cases h : chp ws k (bestTo ws e k)
          · rfl
          · exact absurd (.inr h) hc
        rw [bestTo_no (.inr ⟨h1, h2⟩)]
        refine ⟨ih1, fun s hs hjs => ?_⟩
        by_cases e2 : s = k
        · subst e2; exact ⟨by omega, h2⟩
        · exact ih2 s (by omega) hjs
    · have hj' : joins ws k e = false := by cases h : joins ws k e; rfl; exact absurd h hj
      rw [bestTo_no (.inl hj')]
      refine ⟨ih1, fun s hs hjs => ?_⟩
      by_cases e2 : s = k
      · subst e2; exact absurd hjs hj
      · exact ih2 s (by omega) hjs
theorem best_bd (ws : List Wy) (e : Int) : -1 ≤ best ws e ∧ best ws e < 2 ^ ws.length := by
  have h := bestTo_bd ws e (2 ^ ws.length)
  have e2 : ((2 : Int) ^ ws.length) = ((2 ^ ws.length : Nat) : Int) := by simp
  unfold best
  omega
theorem best_joins {ws : List Wy} {e : Int} (h : 0 ≤ best ws e) : joins ws (best ws e) e = true := (bestTo_least ws e _).1 h
theorem best_least {ws : List Wy} {e s : Int} (s0 : 0 ≤ s) (s1 : s < 2 ^ ws.length) (hj : joins ws s e = true) : chp ws s (best ws e) = false := by
  have e2 : ((2 : Int) ^ ws.length) = ((2 ^ ws.length : Nat) : Int) := by simp
  have h := (bestTo_least ws e (2 ^ ws.length)).2 s.toNat (by omega) (by rw [Int.toNat_of_nonneg s0]; exact hj)
  rw [Int.toNat_of_nonneg s0] at h
  exact h.2
/-- no way of it is needless -/
theorem best_needs {n : Int} {ws : List Wy} (hn : NetIs n ws) {e : Int} (h : 0 ≤ best ws e) {k : Nat} (hk : k < ws.length) (hb : bit (best ws e) k = true) : joins ws (best ws e - 2 ^ k) e = false := by
  have hl := hn.len
  have hbb := best_bd ws e
  have hpl := pow_bd (ws.length : Int) 9 (by omega)
  rw [Int.toNat_natCast] at hpl
  have lb := fun j (hj : j < 9) => lessb (j := j) h (by omega) (show k < 9 by omega) hj hb
  have l2 := (lb 0 (by omega)).2
  cases hj : joins ws (best ws e - 2 ^ k) e
  · rfl
  · exfalso
    have hp := pop_less h (by omega) (show k < 9 by omega) hb
    have h1 : (1 : Int) ≤ 2 ^ k := by have e2 : ((2 : Int) ^ k) = ((2 ^ k : Nat) : Int) := by simp
                                      have := Nat.one_le_two_pow (n := k)
                                      omega
    have hc := best_least (s := best ws e - 2 ^ k) (by omega) (by omega) hj
    have hm : cost ws (best ws e - 2 ^ k) ≤ cost ws (best ws e) := cost_mono hn (fun q hq hbq => by
      have hq9 := set_sub (n := 9) (show 0 ≤ best ws e - 2 ^ k by omega) (by omega) hbq
      have := (lb q.toNat (by omega)).1
      rw [Int.toNat_of_nonneg hq] at this
      rw [this, Bool.and_eq_true] at hbq
      exact hbq.1)
    rw [chp_false] at hc
    omega
theorem both_comm (a b : Int) : both a b = both b a := by
  unfold both ior
  rw [Nat.or_comm]
theorem bit_both {a b q : Int} (a0 : 0 ≤ a) (b0 : 0 ≤ b) (hq : 0 ≤ q) : bit (both a b) q = (decide (q = a) || decide (q = b)) := by
  unfold both
  rw [bit_ior, bit_shl _ _ a0 hq, bit_shl _ _ b0 hq]
theorem both_bd {n a b : Int} (a0 : 0 ≤ a) (a1 : a < n) (b0 : 0 ≤ b) (b1 : b < n) : 0 ≤ both a b ∧ both a b < 2 ^ n.toNat := by
  have h : ∀ x : Int, 0 ≤ x → x < n → 0 ≤ (2 : Int) ^ x.toNat ∧ (2 : Int) ^ x.toNat < 2 ^ n.toNat := fun x x0 x1 => by
    have e1 : ((2 : Int) ^ x.toNat) = ((2 ^ x.toNat : Nat) : Int) := by simp
    have e2 : ((2 : Int) ^ n.toNat) = ((2 ^ n.toNat : Nat) : Int) := by simp
    have h2 : 2 ^ x.toNat < 2 ^ n.toNat := Nat.pow_lt_pow_right (by omega) (by omega)
    have h3 := Nat.one_le_two_pow (n := x.toNat)
    omega
  exact ior_bd _ _ n.toNat (h a a0 a1).2 (h b b0 b1).2
theorem joins_both {n : Int} {ws : List Wy} (hn : NetIs n ws) {s a b : Int} (a0 : 0 ≤ a) (a1 : a < n) (b0 : 0 ≤ b) (b1 : b < n) : joins ws s (both a b) = true ↔ bit (reach ws s a) b = true := by
  have hb := both_bd a0 a1 b0 b1
  rw [joins_iff hn hb.1 hb.2]
  constructor
  · intro h
    exact h a b a0 b0 (by rw [bit_both a0 b0 a0]; simp) (by rw [bit_both a0 b0 b0]; simp)
  · intro h p q hp hq h1 h2
    rw [bit_both a0 b0 hp] at h1
    rw [bit_both a0 b0 hq] at h2
    simp only [Bool.or_eq_true, decide_eq_true_eq] at h1 h2
    rcases h1 with rfl | rfl <;> rcases h2 with rfl | rfl
    · exact (reach_is hn hp a1).has
    · exact h
    · exact re_sym hn a0 a1 hp h
    · exact (reach_is hn hp b1).has
/-- it costs what the table tells -/
theorem best_cost {m : Nat} {ws : List Wy} (hn : NetIs (m : Int) ws) {a b : Nat} (ha : a < m) (hb : b < m) (h : 0 ≤ best ws (both a b)) : cost ws (best ws (both a b)) = farF ws m a b := by
  have h6 := hn.hi
  have hj := (joins_both hn (show (0 : Int) ≤ (a : Int) by omega) (by omega) (show (0 : Int) ≤ (b : Int) by omega) (by omega)).1 (best_joins h)
  have hle := far_le hn ha (farF_tri hn (by omega)) (fun k x hx => farF_way hn hx) hj
  obtain ⟨s, s0, s1, s2, s3⟩ := rep_fw hn a b ha hb hle.1
  have hc := best_least s0 (by unfold full at s1; omega) ((joins_both hn (show (0 : Int) ≤ (a : Int) by omega) (by omega) (show (0 : Int) ≤ (b : Int) by omega) (by omega)).2 s2)
  rw [chp_false] at hc
  omega
end Go.Proofs.Ythadehgpeafniaa
