/- Tables of numbers with more rows than columns, row by row; lower of the program on them. -/
import Derived.Test.YthadehgpeafniaaMI
import Derived.Test.YthadehgpeafniaaTc
set_option linter.unusedSimpArgs false
set_option linter.unusedVariables false
attribute [local go_sem ↓] Go.wp_at_zero Go.wp_at_succ
namespace Go.Proofs.Ythadehgpeafniaa
open Go.ChangeShapes Go.WideShapes Go.ChangeAt Go.RowKit

/-- block T holds r rows of m numbers, row a in block R a; they hold f -/
structure TabR (w : World) (lo hi T r m : Nat) (R C : Nat → Nat) (f : Nat → Nat → Int) : Prop where
  top : ∀ a, a < r → w.cell? ⟨T, a, none⟩ = some (.slice (some ⟨R a, 0, none⟩) m (C a))
  row : ∀ a b, a < r → b < m → w.cell? ⟨R a, b, none⟩ = some (.int .i64 (f a b)) ∧ w.frozen? ⟨R a, b, none⟩ = false
  inj : ∀ a b, a < r → b < r → R a = R b → a = b
  neT : ∀ a, a < r → R a ≠ T
  los : lo ≤ T ∧ T < hi
  rlo : ∀ a, a < r → lo ≤ R a ∧ R a < hi
  his : hi ≤ w.heap.size
section
variable {w w' : World} {lo hi T r m : Nat} {R C : Nat → Nat} {f g : Nat → Nat → Int}
theorem TabR.keep (h : TabR w lo hi T r m R C f) (hb : ∀ k, lo ≤ k → k < hi → w'.heap[k]? = w.heap[k]?) (hs : w.heap.size ≤ w'.heap.size) : TabR w' lo hi T r m R C f :=
  ⟨fun a ha => (World.cell?_of_block (w := w) (hb T h.los.1 h.los.2)).trans (h.top a ha), fun a b ha hb' => ⟨(World.cell?_of_block (w := w) (hb (R a) (h.rlo a ha).1 (h.rlo a ha).2)).trans (h.row a b ha hb').1, (World.frozen?_of_block (w := w) (hb (R a) (h.rlo a ha).1 (h.rlo a ha).2)).trans (h.row a b ha hb').2⟩, h.inj, h.neT, h.los, h.rlo, Nat.le_trans h.his hs⟩
theorem TabR.below (h : TabR w lo hi T r m R C f) (hb : Below w.heap.size w w') : TabR w' lo hi T r m R C f :=
  h.keep (fun k _ hk => hb.block k (Nat.lt_of_lt_of_le hk h.his)) hb.size
theorem TabR.only {lo' hi' : Nat} (h : TabR w lo hi T r m R C f) (ho : Only lo' hi' w w') (hd : hi ≤ lo' ∨ hi' ≤ lo) : TabR w' lo hi T r m R C f :=
  h.keep (fun k h1 h2 => ho.block k (Nat.lt_of_lt_of_le h2 h.his) (by omega)) ho.size
theorem TabR.congr (h : TabR w lo hi T r m R C f) (he : ∀ a b, a < r → b < m → f a b = g a b) : TabR w lo hi T r m R C g :=
  ⟨h.top, fun a b ha hb => by rw [← he a b ha hb]; exact h.row a b ha hb, h.inj, h.neT, h.los, h.rlo, h.his⟩
theorem TabR.wider {hi' : Nat} (h : TabR w lo hi T r m R C f) (h1 : hi ≤ hi') (h2 : hi' ≤ w.heap.size) : TabR w lo hi' T r m R C f :=
  ⟨h.top, h.row, h.inj, h.neT, ⟨h.los.1, Nat.lt_of_lt_of_le h.los.2 h1⟩, fun a ha => ⟨(h.rlo a ha).1, Nat.lt_of_lt_of_le (h.rlo a ha).2 h1⟩, h2⟩
theorem TabR.put (h : TabR w lo hi T r m R C f) {a b : Nat} (ha : a < r) (hb : b < m) (x : Int) : TabR (w.setCell ⟨R a, b, none⟩ (.int .i64 x)) lo hi T r m R C (fun i j => if i = a ∧ j = b then x else f i j) := by
  refine ⟨fun i hi' => ?_, fun i j hi' hj => ?_, h.inj, h.neT, h.los, h.rlo, by simpa [World.setCell] using h.his⟩
  · rw [World.cell?_setCell_other _ _ _ _ (by intro e; simp only [Addr.mk.injEq] at e; exact h.neT a ha e.1)]
    exact h.top i hi'
  · rw [World.frozen?_setCell]
    refine ⟨?_, (h.row i j hi' hj).2⟩
    by_cases e : i = a ∧ j = b
    · obtain ⟨rfl, rfl⟩ := e
      rw [if_pos ⟨rfl, rfl⟩]
      exact World.cell?_setCell_same _ _ _ (h.row i j hi' hj).1
    · rw [if_neg e, World.cell?_setCell_other _ _ _ _ (by
        intro e'; simp only [Addr.mk.injEq] at e'
        exact e ⟨(h.inj a i ha hi' e'.1).symm, e'.2.1.symm⟩)]
      exact (h.row i j hi' hj).1
theorem TabM.toR (h : TabM w lo hi T m R C f) : TabR w lo hi T m m R C f := ⟨h.top, h.row, h.inj, h.neT, h.los, h.rlo, h.his⟩
/-- a row more is laid into the top -/
theorem TabR.more {g : Nat} (h : TabR w lo hi T r m R C f) {r0 : Nat → Int} (hg : hi ≤ g) (hgs : g < w.heap.size) (hrow : ∀ b, b < m → w.cell? ⟨g, b, none⟩ = some (.int .i64 (r0 b)) ∧ w.frozen? ⟨g, b, none⟩ = false) {u : Value} (hc : w.cell? ⟨T, r, none⟩ = some u) :
    TabR (w.setCell ⟨T, r, none⟩ (.slice (some ⟨g, 0, none⟩) m m)) lo w.heap.size T (r + 1) m (fun i => if i = r then g else R i) (fun i => if i = r then m else C i) (fun i j => if i = r then r0 j else f i j) := by
  have hTg : T ≠ g := by have := h.los; omega
  have hRg : ∀ a, a < r → R a ≠ g := fun a ha => by have := h.rlo a ha; omega
  have hk : ∀ b o, b ≠ T → (w.setCell ⟨T, r, none⟩ (.slice (some ⟨g, 0, none⟩) m m)).cell? ⟨b, o, none⟩ = w.cell? ⟨b, o, none⟩ := fun b o hb => World.cell?_setCell_other _ _ _ _ (by intro e; simp only [Addr.mk.injEq] at e; exact hb e.1.symm)
  refine ⟨fun a ha => ?_, fun a b ha hb => ?_, fun a b ha hb e => ?_, fun a ha => ?_, ⟨h.los.1, by have := h.los; omega⟩, fun a ha => ?_, by simp [World.setCell]⟩
  · by_cases e : a = r
    · subst e
      rw [if_pos rfl, if_pos rfl]
      exact World.cell?_setCell_same _ _ _ hc
    · rw [if_neg e, if_neg e, World.cell?_setCell_other _ _ _ _ (by intro e'; simp only [Addr.mk.injEq] at e'; omega)]
      exact h.top a (by omega)
  · rw [World.frozen?_setCell]
    by_cases e : a = r
    · simp only [if_pos e]
      rw [hk g b (Ne.symm hTg)]
      exact hrow b hb
    · simp only [if_neg e]
      rw [hk (R a) b (h.neT a (by omega))]
      exact h.row a b (by omega) hb
  · by_cases e1 : a = r <;> by_cases e2 : b = r
    · omega
    · rw [if_pos e1, if_neg e2] at e
      exact absurd e.symm (hRg b (by omega))
    · rw [if_neg e1, if_pos e2] at e
      exact absurd e (hRg a (by omega))
    · rw [if_neg e1, if_neg e2] at e
      exact h.inj a b (by omega) (by omega) e
  · by_cases e : a = r
    · rw [if_pos e]; exact Ne.symm hTg
    · rw [if_neg e]; exact h.neT a (by omega)
  · by_cases e : a = r
    · rw [if_pos e]; have := h.los; omega
    · rw [if_neg e]; have := h.rlo a (by omega); have := h.his; omega
end
/-- only the rows are changed -/
structure OnT (lo hi T : Nat) (w w' : World) : Prop where
  only : Only lo hi w w'
  top : w'.heap[T]? = w.heap[T]?
theorem OnT.refl (lo hi T : Nat) (w : World) : OnT lo hi T w w := ⟨Only.refl _ _ _, rfl⟩
theorem OnT.trans {lo hi T : Nat} {a b c : World} (h : OnT lo hi T a b) (k : OnT lo hi T b c) : OnT lo hi T a c := ⟨h.only.trans k.only, k.top.trans h.top⟩
theorem OnT.drew {lo hi T : Nat} {a b : World} (h : OnT lo hi T a b) : OnT lo hi T a b.drew := ⟨h.only.drew, h.top⟩
theorem OnT.undrew {lo hi T : Nat} {a b : World} (h : OnT lo hi T a.drew b) : OnT lo hi T a b := ⟨⟨h.only.os, h.only.tape, h.only.output, h.only.size, h.only.block⟩, h.top⟩
theorem OnT.setCell {lo hi T : Nat} {a b : World} (h : OnT lo hi T a b) {p : Addr} (hp : lo ≤ p.block ∧ p.block < hi) (hT : p.block ≠ T) (u : Value) : OnT lo hi T a (b.setCell p u) :=
  ⟨h.only.setCell hp u, (Below.heap_setCell b p u T (Ne.symm hT)).trans h.top⟩

set_option maxHeartbeats 2000000 in
theorem lowerR_any (lo hi T r L m cT : Nat) (R C : Nat → Nat) (f : Nat → Nat → Int) (a b : Nat) (c : Int) (w : World) (h : TabR w lo hi T r m R C f) (ha : a < r) (hL : r ≤ L) (hb : b < m) :
    Calls Try.prog 63 #[.slice (some ⟨T, 0, none⟩) L cT, .int .i64 a, .int .i64 b, .int .i64 c] w fun e w' => e = .returned (.tuple #[]) ∧ TabR w' lo hi T r m R C (lowF f a b c) ∧ OnT lo hi T w w' := by
  have H := Lib.hid h
  have h1 := h.top a ha
  obtain ⟨h2, h3⟩ := h.row a b ha hb
  have a0 : (0 : Int) ≤ (a : Int) := by omega
  have b0 : (0 : Int) ≤ (b : Int) := by omega
  have a1 : (a : Int) < (L : Int) := by omega
  have b1 : (b : Int) < (m : Int) := by omega
  clear h
  by_cases hneg : f a b < 0
  · go_enter Try.func63, Try.ntmps63
    go_wp2_with fail
    go_end0
    exact ⟨rfl, (H.out.put ha hb c).congr (fun i j _ _ => lowF_yes (.inl hneg) i j), (OnT.refl _ _ _ _).setCell (H.out.rlo a ha) (H.out.neT a ha) _⟩
  · by_cases hlt : c < f a b
    · go_enter Try.func63, Try.ntmps63
      go_wp2_with fail
      go_end0
      exact ⟨rfl, (H.out.put ha hb c).congr (fun i j _ _ => lowF_yes (.inr hlt) i j), (OnT.refl _ _ _ _).setCell (H.out.rlo a ha) (H.out.neT a ha) _⟩
    · go_enter Try.func63, Try.ntmps63
      go_wp2_with fail
      go_end0
      exact ⟨rfl, H.out.congr (fun i j _ _ => lowF_no (by omega) i j), OnT.refl _ _ _ _⟩
end Go.Proofs.Ythadehgpeafniaa
