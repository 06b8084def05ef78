/- Rows of numbers in memory: those that the exact laws compare, write over and look at again. A net's ways are written over. PartsOf of the program and of its model. PartsOf of the model. -/
import Derived.Test.YthadehgpeafniabDoorXA
import Derived.Test.YthadehgpeafniabDoorOrd
import Derived.Deep.RegionHeld3
import Derived.Deep.RegionLaw
import Derived.Deep.AppendLies
import Derived.Deep.DeepCutAuto
import Derived.Deep.CutBlock
import Derived.Test.YthadehgpeafniabDoorMC
import Derived.Deep.DrawnRows
import Derived.Test.YthadehgpeafniabDoorME
import Derived.Test.YthadehgpeafniabDoorMD
import Derived.Test.YthadehgpeafniabDoorWE
set_option linter.unusedSimpArgs false
set_option linter.unusedVariables false
namespace Go.Proofs.YthadehgpeafniabDoor
open Go.ChangeShapes Go.WideShapes Go.ChangeAt Go.RowKit

/-- nothing is turned but the blocks from lo to hi, and what is new -/
structure Only (lo hi : Nat) (w w' : World) : Prop where
  os : w'.os = w.os
  tape : w'.tape = w.tape
  output : w'.output = w.output
  size : w.heap.size ≤ w'.heap.size
  block : ∀ k, k < w.heap.size → (k < lo ∨ hi ≤ k) → w'.heap[k]? = w.heap[k]?
theorem Only.refl (lo hi : Nat) (w : World) : Only lo hi w w := ⟨rfl, rfl, rfl, Nat.le_refl _, fun _ _ _ => rfl⟩
theorem Only.of {lo hi : Nat} {w w' : World} (h : Below w.heap.size w w') : Only lo hi w w' := ⟨h.os, h.tape, h.output, h.size, fun k hk _ => h.block k hk⟩
theorem Only.trans {lo hi : Nat} {a b c : World} (h : Only lo hi a b) (k : Only lo hi b c) : Only lo hi a c :=
  ⟨k.os.trans h.os, k.tape.trans h.tape, k.output.trans h.output, Nat.le_trans h.size k.size, fun i hi hn => (k.block i (Nat.lt_of_lt_of_le hi h.size) hn).trans (h.block i hi hn)⟩
theorem Only.drew {lo hi : Nat} {a b : World} (h : Only lo hi a b) : Only lo hi a b.drew := ⟨h.os, h.tape, h.output, h.size, h.block⟩
theorem Only.drewN {lo hi : Nat} {a b : World} (h : Only lo hi a b) (n : Nat) : Only lo hi a (b.drewN n) := ⟨h.os, h.tape, h.output, h.size, h.block⟩
theorem Only.setCell {lo hi : Nat} {a b : World} (h : Only lo hi a b) {p : Addr} (hp : lo ≤ p.block ∧ p.block < hi) (u : Value) : Only lo hi a (b.setCell p u) :=
  ⟨h.os, h.tape, h.output, by simpa [World.setCell] using h.size, fun k hk hn => (Below.heap_setCell b p u k (by omega)).trans (h.block k hk hn)⟩
theorem Below.only_ {B lo hi : Nat} {W w w' : World} (h : Below B W w) (hB : B ≤ lo) (hs : B ≤ w.heap.size) (k : Only lo hi w w') : Below B W w' :=
  ⟨k.os.trans h.os, k.tape.trans h.tape, k.output.trans h.output, Nat.le_trans h.size k.size, fun i hi => (k.block i (by omega) (.inl (by omega))).trans (h.block i hi)⟩

/-- the slice at A holds m numbers, in blocks from lo to hi -/
structure RowF (w : World) (lo hi : Nat) (A : Option Addr) (m : Nat) (f : Nat → Int) : Prop where
  at_ : ∀ j, j < m → ∃ b o, A = some ⟨b, o, none⟩ ∧ lo ≤ b ∧ b < hi ∧ w.cell? ⟨b, o + j, none⟩ = some (.int .i64 (f j)) ∧ w.frozen? ⟨b, o + j, none⟩ = false
  top : hi ≤ w.heap.size
theorem RowF.only {w w' : World} {lo hi lo' hi' : Nat} {A : Option Addr} {m : Nat} {f : Nat → Int} (h : RowF w lo hi A m f) (k : Only lo' hi' w w') (hd : hi ≤ lo' ∨ hi' ≤ lo) : RowF w' lo hi A m f :=
  ⟨fun j hj => by
    obtain ⟨b, o, ha, hl, hh, hc, hf⟩ := h.at_ j hj
    have hb := k.block b (Nat.lt_of_lt_of_le hh h.top) (by omega)
    exact ⟨b, o, ha, hl, hh, (World.cell?_of_block (w := w) hb).trans hc, (World.frozen?_of_block (w := w) hb).trans hf⟩, Nat.le_trans h.top k.size⟩
theorem RowF.below {w w' : World} {lo hi : Nat} {A : Option Addr} {m : Nat} {f : Nat → Int} (h : RowF w lo hi A m f) (k : Below w.heap.size w w') : RowF w' lo hi A m f :=
  ⟨fun j hj => by
    obtain ⟨b, o, ha, hl, hh, hc, hf⟩ := h.at_ j hj
    have hb := k.block b (Nat.lt_of_lt_of_le hh h.top)
    exact ⟨b, o, ha, hl, hh, (World.cell?_of_block (w := w) hb).trans hc, (World.frozen?_of_block (w := w) hb).trans hf⟩, Nat.le_trans h.top k.size⟩
theorem RowF.congr {w : World} {lo hi : Nat} {A : Option Addr} {m : Nat} {f g : Nat → Int} (h : RowF w lo hi A m f) (he : ∀ j, j < m → f j = g j) : RowF w lo hi A m g :=
  ⟨fun j hj => by rw [← he j hj]; exact h.at_ j hj, h.top⟩
theorem RowF.wider {w : World} {lo hi lo' : Nat} {A : Option Addr} {m : Nat} {f : Nat → Int} (h : RowF w lo hi A m f) (hl : lo' ≤ lo) : RowF w lo' hi A m f :=
  ⟨fun j hj => by
    obtain ⟨b, o, ha, h1, hh, hc, hf⟩ := h.at_ j hj
    exact ⟨b, o, ha, by omega, hh, hc, hf⟩, h.top⟩
theorem RowF.none (w : World) (lo hi : Nat) (A : Option Addr) (f : Nat → Int) (hi' : hi ≤ w.heap.size) : RowF w lo hi A 0 f := ⟨fun j hj => by omega, hi'⟩
/-- a number is written -/
theorem RowF.put {w : World} {lo hi b o m k : Nat} {f : Nat → Int} (h : RowF w lo hi (some ⟨b, o, Option.none⟩) m f) (hk : k < m) (x : Int) : RowF (w.setCell ⟨b, o + k, Option.none⟩ (.int .i64 x)) lo hi (some ⟨b, o, Option.none⟩) m (fun j => if j = k then x else f j) :=
  ⟨fun j hj => by
    obtain ⟨b', o', ha, hl, hh, hc, hf⟩ := h.at_ j hj
    injection ha with ha; injection ha with e1 e2; subst e1; subst e2
    refine ⟨b, o, rfl, hl, hh, ?_, by rw [World.frozen?_setCell]; exact hf⟩
    by_cases e : j = k
    · subst e
      rw [if_pos rfl]
      exact World.cell?_setCell_same _ _ _ hc
    · rw [if_neg e, World.cell?_setCell_other _ _ _ _ (by intro e'; simp only [Addr.mk.injEq] at e'; omega)]
      exact hc, by simpa [World.setCell] using h.top⟩

end Go.Proofs.YthadehgpeafniabDoor
attribute [local go_sem ↓] Go.wp_at_zero Go.wp_at_succ
namespace Go.Proofs.YthadehgpeafniabDoor
open Go.ChangeShapes Go.WideShapes Go.ChangeAt Go.RowKit

/-! ### a net's ways are written over -/
theorem Row3.set0 {w : World} {b : Nat} {t : TypeId} {ws : List Wy} (h : Row3 w b t ws 0) (j : Nat) (u : Value) : Row3 (w.setCell ⟨b, j, none⟩ u) b t ws 0 := by
  obtain ⟨cs, h1, h2, _⟩ := h.blk
  exact ⟨cs.setIfInBounds j u, by simp [World.setCell, Array.getElem?_modify, h1], by simpa using h2, fun i x hi => by omega⟩
theorem Row3.zero {w : World} {b : Nat} {t : TypeId} {ws : List Wy} {k : Nat} (h : Row3 w b t ws k) : Row3 w b t ws 0 := by
  obtain ⟨cs, h1, h2, _⟩ := h.blk
  exact ⟨cs, h1, h2, fun i x hi => by omega⟩
end Go.Proofs.YthadehgpeafniabDoor
namespace Go.Proofs.YthadehgpeafniabDoor
open Go.ChangeShapes Go.WideShapes Go.ChangeAt Go.RowKit


/-! ### the parts -/
noncomputable def partAt (ws : List Wy) (p : Nat) : Int := low (reach ws (full ws.length) p)
def partsLen (n : Int) (ws : List Wy) : Nat := if netOk n ws = true then n.toNat else 0
/-- a new row of parts -/
def NewParts (n : Int) (ws : List Wy) (w : World) (e : Ending) (w' : World) : Prop :=
  ∃ A1 c1, e = .returned (.slice A1 (partsLen n ws) c1) ∧ RowF w' w.heap.size w'.heap.size A1 (partsLen n ws) (partAt ws) ∧ Below w.heap.size w w'
theorem mkInts' (W : World) (m : Nat) (hm : m ≤ 6) : (Instr.makeSlice 34 (.int .i64 (m : Int)) (.int .i64 (m : Int))).run Tryd.prog W = .ok (.slice (some ⟨W.heap.size, 0, none⟩) m m) (W.alloc (.cells (Array.replicate m (.int .i64 0)) 3)) := by
  have k0 : ∀ W, (Instr.makeSlice 34 (.int .i64 ((0 : Nat) : Int)) (.int .i64 ((0 : Nat) : Int))).run Tryd.prog W = .ok (.slice (some ⟨W.heap.size, 0, none⟩) 0 0) (W.alloc (.cells (Array.replicate 0 (.int .i64 0)) 3)) := fun W => by kernel_rfl
  have k1 : ∀ W, (Instr.makeSlice 34 (.int .i64 ((1 : Nat) : Int)) (.int .i64 ((1 : Nat) : Int))).run Tryd.prog W = .ok (.slice (some ⟨W.heap.size, 0, none⟩) 1 1) (W.alloc (.cells (Array.replicate 1 (.int .i64 0)) 3)) := fun W => by kernel_rfl
  have k2 : ∀ W, (Instr.makeSlice 34 (.int .i64 ((2 : Nat) : Int)) (.int .i64 ((2 : Nat) : Int))).run Tryd.prog W = .ok (.slice (some ⟨W.heap.size, 0, none⟩) 2 2) (W.alloc (.cells (Array.replicate 2 (.int .i64 0)) 3)) := fun W => by kernel_rfl
  have k3 : ∀ W, (Instr.makeSlice 34 (.int .i64 ((3 : Nat) : Int)) (.int .i64 ((3 : Nat) : Int))).run Tryd.prog W = .ok (.slice (some ⟨W.heap.size, 0, none⟩) 3 3) (W.alloc (.cells (Array.replicate 3 (.int .i64 0)) 3)) := fun W => by kernel_rfl
  have k4 : ∀ W, (Instr.makeSlice 34 (.int .i64 ((4 : Nat) : Int)) (.int .i64 ((4 : Nat) : Int))).run Tryd.prog W = .ok (.slice (some ⟨W.heap.size, 0, none⟩) 4 4) (W.alloc (.cells (Array.replicate 4 (.int .i64 0)) 3)) := fun W => by kernel_rfl
  have k5 : ∀ W, (Instr.makeSlice 34 (.int .i64 ((5 : Nat) : Int)) (.int .i64 ((5 : Nat) : Int))).run Tryd.prog W = .ok (.slice (some ⟨W.heap.size, 0, none⟩) 5 5) (W.alloc (.cells (Array.replicate 5 (.int .i64 0)) 3)) := fun W => by kernel_rfl
  have k6 : ∀ W, (Instr.makeSlice 34 (.int .i64 ((6 : Nat) : Int)) (.int .i64 ((6 : Nat) : Int))).run Tryd.prog W = .ok (.slice (some ⟨W.heap.size, 0, none⟩) 6 6) (W.alloc (.cells (Array.replicate 6 (.int .i64 0)) 3)) := fun W => by kernel_rfl
  have h7 : m = 0 ∨ m = 1 ∨ m = 2 ∨ m = 3 ∨ m = 4 ∨ m = 5 ∨ m = 6 := by omega
  rcases h7 with h | h | h | h | h | h | h <;> subst h
  · exact k0 W
  · exact k1 W
  · exact k2 W
  · exact k3 W
  · exact k4 W
  · exact k5 W
  · exact k6 W
theorem new_rowF (w : World) (m : Nat) (t : TypeId) : RowF (w.alloc (.cells (Array.replicate m (.int .i64 0)) t)) w.heap.size (w.heap.size + 1) (some ⟨w.heap.size, 0, none⟩) m (fun _ => 0) :=
  ⟨fun j hj => by
    have h := heap_alloc_new w (.cells (Array.replicate m (.int .i64 0)) t)
    refine ⟨w.heap.size, 0, rfl, Nat.le_refl _, Nat.lt_succ_self _, ?_, ?_⟩
    · unfold World.cell?
      simp only [h]
      simp [hj]
    · unfold World.frozen?
      simp only [h]
      simp, by simp⟩

theorem RowF.fill0 {w : World} {lo hi b m k : Nat} {f : Nat → Int} (h : RowF w lo hi (some ⟨b, 0, Option.none⟩) m (fun j => if j < k then f j else 0)) (hk : k < m) :
    RowF (w.setCell ⟨b, k, Option.none⟩ (.int .i64 (f k))) lo hi (some ⟨b, 0, Option.none⟩) m (fun j => if j < k + 1 then f j else 0) := by
  have h8 := (h.put hk (f k)).congr (g := fun j => if j < k + 1 then f j else 0) (fun j _ => by
    (try dsimp only)
    by_cases e : j = k
    · subst e; simp
    · rw [if_neg e]
      by_cases e2 : j < k
      · rw [if_pos e2, if_pos (by omega)]
      · rw [if_neg e2, if_neg (by omega)])
  rw [Nat.zero_add] at h8
  exact h8
end Go.Proofs.YthadehgpeafniabDoor
namespace Go.Proofs.YthadehgpeafniabDoor
open Go.ChangeShapes Go.WideShapes Go.ChangeAt Go.RowKit

theorem own_below {w w' : World} {base size n : Nat} {e : TypeId} {v : Value} {xs : List Value} (h : w.ownsRow base e size v n xs) (hb : Below w.heap.size w w') : w'.ownsRow base e size v n xs := by
  refine ⟨h.1, ?_⟩
  rcases h.2 with h2 | ⟨g, cap, cur, hv, h3, h4, h5⟩
  · exact .inl h2
  · exact .inr ⟨g, cap, cur, hv, h3, (hb.block g (Array.getElem?_eq_some_iff.1 h4).1).trans h4, h5⟩
theorem rowF_of_own {w : World} {base m c1 : Nat} {e : TypeId} {A1 : Option Addr} {xs : List Value} {f : Nat → Int} (h : w.ownsRow base e 1 (.slice A1 m c1) m xs) (hf : ∀ j, j < m → xs[j]? = some (.int .i64 (f j))) : RowF w base w.heap.size A1 m f := by
  refine ⟨fun j hj => ?_, Nat.le_refl _⟩
  rcases h.2 with ⟨_, h2⟩ | ⟨g, cap, cur, hv, h3, h4, h5, h6, h7, h8⟩
  · omega
  · injection hv with hv1 hv2 hv3
    have hg := (Array.getElem?_eq_some_iff.1 h4).1
    refine ⟨g, 0, hv1, h3, hg, ?_, by simp [World.frozen?, h4]⟩
    rw [cell_of_row _ _ _ _ _ (0, 0) h4, Nat.zero_add, ← Array.getElem?_toList]
    have h9 := hf j hj
    rw [← h8, List.getElem?_take] at h9
    split at h9
    · exact h9
    · cases h9
theorem infoInt : (Tryd.prog.info? 3).map (fun i => (i.zero, i.size, i.bytes)) = some (some (.int .i64 0), 1, 8) := by kernel_rfl
theorem emptyInts (W : World) : (Instr.buildSlice 34 0 #[]).run Tryd.prog W = .ok (.slice (some ⟨W.heap.size, 0, none⟩) 0 0) (W.alloc (.cells #[] 3)) := by kernel_rfl
/-- the numbers of the first k -/
def numCells (f : Nat → Int) (k : Nat) : List Value := (List.range k).map fun j => .int .i64 (f j)
theorem numCells_snoc (f : Nat → Int) (k : Nat) : numCells f (k + 1) = numCells f k ++ [.int .i64 (f k)] := by unfold numCells; rw [List.range_succ, List.map_append]; rfl
theorem numCells_len (f : Nat → Int) (k : Nat) : (numCells f k).length = k := by unfold numCells; simp
theorem numCells_at (f : Nat → Int) {k j : Nat} (h : j < k) : (numCells f k)[j]? = some (.int .i64 (f j)) := by unfold numCells; simp [h]
theorem own_form {w : World} {base size n : Nat} {e : TypeId} {v : Value} {xs : List Value} (h : w.ownsRow base e size v n xs) : ∃ A1 c1, v = .slice A1 n c1 := by
  rcases h.2 with ⟨hv, h0⟩ | ⟨g', c, cur, hv, _⟩
  · exact ⟨none, 0, by rw [hv, h0]⟩
  · exact ⟨_, c, hv⟩

theorem newParts_none {n : Int} {ws : List Wy} {w w' : World} {e : Ending} {A1 : Option Addr} {c1 : Nat} (hl : partsLen n ws = 0) (he : e = .returned (.slice A1 0 c1)) (hb : Below w.heap.size w w') : NewParts n ws w e w' := by
  unfold NewParts
  rw [hl]
  exact ⟨A1, c1, he, RowF.none _ _ _ _ _ (Nat.le_refl _), hb⟩

end Go.Proofs.YthadehgpeafniabDoor
