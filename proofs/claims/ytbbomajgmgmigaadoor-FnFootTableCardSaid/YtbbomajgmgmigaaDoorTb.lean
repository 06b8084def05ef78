/- The table of least costs of the program: the first table, and the way over each place. -/
import Derived.Test.YtbbomajgmgmigaaDoorTa
import Derived.Test.YtbbomajgmgmigaaDoorWB
set_option linter.unusedSimpArgs false
set_option linter.unusedVariables false
attribute [local go_sem ↓] Go.wp_at_zero Go.wp_at_succ
namespace Go.Proofs.YtbbomajgmgmigaaDoor
open Go.ChangeShapes Go.WideShapes Go.ChangeAt Go.RowKit

/-! ### the numbers -/
def nF0 (i j : Nat) : Int := if i = j then 0 else -1
def wayF (f : Nat → Nat → Int) (x : Wy) : Nat → Nat → Int := lowF (lowF f x.a.toNat x.b.toNat x.c) x.b.toNat x.a.toNat x.c
def nxTo (ws : List Wy) : Nat → Nat → Nat → Int
  | 0 => nF0
  | k + 1 => match ws[k]? with
    | some x => wayF (nxTo ws k) x
    | none => nxTo ws k
theorem nxTo_step {ws : List Wy} {k : Nat} {x : Wy} (hx : ws[k]? = some x) : nxTo ws (k + 1) = wayF (nxTo ws k) x := by rw [nxTo, hx]
def fwB (f : Nat → Nat → Int) (o a : Nat) : Nat → Nat → Nat → Int
  | 0 => f
  | b + 1 => shF (fwB f o a b) a o b
def fwA (f : Nat → Nat → Int) (o m : Nat) : Nat → Nat → Nat → Int
  | 0 => f
  | a + 1 => fwB (fwA f o m a) o a m
def fwO (f : Nat → Nat → Int) (m : Nat) : Nat → Nat → Nat → Int
  | 0 => f
  | o + 1 => fwA (fwO f m o) o m m
def farF (ws : List Wy) (m : Nat) : Nat → Nat → Int := fwO (nxTo ws ws.length) m m
/-- what holds of the table between two places -/
structure Fw (m : Nat) (B : Int) (f : Nat → Nat → Int) : Prop where
  diag : ∀ i, i < m → f i i = 0
  bd : ∀ i j, i < m → j < m → f i j ≤ B
structure FwAt (m o : Nat) (B : Int) (f0 f : Nat → Nat → Int) : Prop where
  diag : ∀ i, i < m → f i i = 0
  bd : ∀ i j, i < m → j < m → f i j ≤ 2 * B
  col : ∀ i, i < m → f i o = f0 i o
  rw_ : ∀ i, i < m → f o i = f0 o i
theorem FwAt.start {m o : Nat} {B : Int} {f : Nat → Nat → Int} (h : Fw m B f) (hB : 0 ≤ B) : FwAt m o B f f :=
  ⟨h.diag, fun i j hi hj => by have := h.bd i j hi hj; omega, fun _ _ => rfl, fun _ _ => rfl⟩
theorem FwAt.step {m o : Nat} {B : Int} {f0 f : Nat → Nat → Int} (h0 : Fw m B f0) (h : FwAt m o B f0 f) {a b : Nat} (ha : a < m) (hb : b < m) (ho : o < m) : FwAt m o B f0 (shF f a o b) := by
  unfold shF
  by_cases hc : 0 ≤ f a o ∧ 0 ≤ f o b
  · rw [if_pos hc]
    have e1 := h.col a ha
    have e2 := h.rw_ b hb
    have c1 := h0.bd a o ha ho
    have c2 := h0.bd o b ho hb
    refine ⟨fun i hi => ?_, fun i j hi hj => ?_, fun i hi => ?_, fun i hi => ?_⟩ <;> unfold lowF
    · have hd := h.diag i hi
      by_cases e : i = a ∧ i = b
      · obtain ⟨e3, e4⟩ := e
        subst e3
        subst e4
        rw [if_neg (by omega)]; exact hd
      · rw [if_neg (fun e' => e ⟨e'.1, e'.2.1⟩)]; exact hd
    · by_cases e : i = a ∧ j = b ∧ (f a b < 0 ∨ f a o + f o b < f a b)
      · rw [if_pos e]; omega
      · rw [if_neg e]; exact h.bd i j hi hj
    · by_cases e : i = a ∧ o = b
      · obtain ⟨e3, e4⟩ := e
        subst e3
        subst e4
        rw [if_neg (by omega)]; exact h.col i hi
      · rw [if_neg (fun e' => e ⟨e'.1, e'.2.1⟩)]; exact h.col i hi
    · by_cases e : o = a ∧ i = b
      · obtain ⟨e3, e4⟩ := e
        subst e3
        subst e4
        rw [if_neg (by omega)]; exact h.rw_ i hi
      · rw [if_neg (fun e' => e ⟨e'.1, e'.2.1⟩)]; exact h.rw_ i hi
  · rw [if_neg hc]; exact h
theorem fwB_at {m o : Nat} {B : Int} {f0 f : Nat → Nat → Int} (h0 : Fw m B f0) (h : FwAt m o B f0 f) {a : Nat} (ha : a < m) (ho : o < m) : ∀ b, b ≤ m → FwAt m o B f0 (fwB f o a b)
  | 0, _ => h
  | b + 1, hb => (fwB_at h0 h ha ho b (by omega)).step h0 ha (by omega) ho
theorem fwA_at {m o : Nat} {B : Int} {f0 f : Nat → Nat → Int} (h0 : Fw m B f0) (h : FwAt m o B f0 f) (ho : o < m) : ∀ a, a ≤ m → FwAt m o B f0 (fwA f o m a)
  | 0, _ => h
  | a + 1, ha => fwB_at h0 (fwA_at h0 h ho a (by omega)) (by omega) ho m (Nat.le_refl _)
theorem fwO_at {m : Nat} {B : Int} {f : Nat → Nat → Int} (hB : 0 ≤ B) (h : Fw m B f) : ∀ o, o ≤ m → Fw m (B * 2 ^ o) (fwO f m o)
  | 0, _ => ⟨h.diag, fun i j hi hj => by have := h.bd i j hi hj; simp only [Int.pow_zero, Int.mul_one]; exact this⟩
  | o + 1, ho => by
    have ih := fwO_at hB h o (by omega)
    have hp : (0 : Int) ≤ B * 2 ^ o := Int.mul_nonneg hB (Int.pow_nonneg (by omega))
    have h1 := fwA_at ih (FwAt.start (o := o) ih hp) (by omega) m (Nat.le_refl _)
    refine ⟨h1.diag, fun i j hi hj => ?_⟩
    have h2 := h1.bd i j hi hj
    have e : B * 2 ^ (o + 1) = 2 * (B * 2 ^ o) := by rw [Int.pow_succ, ← Int.mul_assoc]; omega
    show fwA (fwO f m o) o m m i j ≤ _
    omega
theorem lowF_fw {m : Nat} {B c : Int} {f : Nat → Nat → Int} (h : Fw m B f) {a b : Nat} (hab : a ≠ b) (hc : c ≤ B) : Fw m B (lowF f a b c) :=
  ⟨fun i hi => by unfold lowF; rw [if_neg (by omega)]; exact h.diag i hi, fun i j hi hj => by
    unfold lowF
    split
    · exact hc
    · exact h.bd i j hi hj⟩
theorem nxTo_fw {n : Int} {ws : List Wy} (hn : NetIs n ws) (m : Nat) : ∀ k, Fw m 9 (nxTo ws k)
  | 0 => ⟨fun i _ => by simp [nxTo, nF0], fun i j _ _ => by simp only [nxTo, nF0]; split <;> omega⟩
  | k + 1 => by
    have ih := nxTo_fw hn m k
    cases hx : ws[k]? with
    | none => rw [nxTo, hx]; exact ih
    | some x =>
      have hxa := hn.at_ hx
      rw [nxTo_step hx]
      exact lowF_fw (lowF_fw ih (by omega) (by omega)) (by omega) (by omega)
theorem fw_small {n : Int} {ws : List Wy} (hn : NetIs n ws) {m o : Nat} (hm : m ≤ 6) (ho : o ≤ m) : Fw m 1000 (fwO (nxTo ws ws.length) m o) := by
  have h := fwO_at (B := 9) (by omega) (nxTo_fw hn m ws.length) o ho
  refine ⟨h.diag, fun i j hi hj => ?_⟩
  have h1 := h.bd i j hi hj
  have h2 : 2 ^ o ≤ 2 ^ 6 := Nat.pow_le_pow_right (by omega) (by omega)
  have e : ((2 : Int) ^ o) = ((2 ^ o : Nat) : Int) := by simp
  rw [e] at h1
  omega

/-! ### the table is built -/
/-- a rows of the table in block T are laid; they lie behind it -/
structure TabP (w : World) (T m a : Nat) (f : Nat → Nat → Int) : Prop where
  sz : w.heap.size = T + 1 + a
  done : ∀ i, i < a → i < m → w.cell? ⟨T, i, none⟩ = some (.slice (some ⟨T + 1 + i, 0, none⟩) m m)
  todo : ∀ i, a ≤ i → i < m → w.cell? ⟨T, i, none⟩ = some (.slice none 0 0)
  fz : ∀ i, i < m → w.frozen? ⟨T, i, none⟩ = false
  row : ∀ i j, i < a → j < m → w.cell? ⟨T + 1 + i, j, none⟩ = some (.int .i64 (f i j)) ∧ w.frozen? ⟨T + 1 + i, j, none⟩ = false
section
variable {w : World} {T m a : Nat} {f g : Nat → Nat → Int}
theorem TabP.congr (h : TabP w T m a f) (he : ∀ i j, i < a → j < m → f i j = g i j) : TabP w T m a g :=
  ⟨h.sz, h.done, h.todo, h.fz, fun i j hi hj => by rw [← he i j hi hj]; exact h.row i j hi hj⟩
theorem TabP.put (h : TabP w T m a f) {i j : Nat} (hi : i < a) (hj : j < m) (x : Int) : TabP (w.setCell ⟨T + 1 + i, j, none⟩ (.int .i64 x)) T m a (fun i' j' => if i' = i ∧ j' = j then x else f i' j') := by
  refine ⟨by simpa [World.setCell] using h.sz, fun k hk hkm => ?_, fun k hk hkm => ?_, fun k hk => by rw [World.frozen?_setCell]; exact h.fz k hk, fun i' j' hi' hj' => ?_⟩
  · rw [World.cell?_setCell_other _ _ _ _ (by intro e; simp only [Addr.mk.injEq] at e; omega)]; exact h.done k hk hkm
  · rw [World.cell?_setCell_other _ _ _ _ (by intro e; simp only [Addr.mk.injEq] at e; omega)]; exact h.todo k hk hkm
  · rw [World.frozen?_setCell]
    refine ⟨?_, (h.row i' j' hi' hj').2⟩
    by_cases e : i' = i ∧ j' = j
    · obtain ⟨rfl, rfl⟩ := e
      rw [if_pos ⟨rfl, rfl⟩]
      exact World.cell?_setCell_same _ _ _ (h.row i' j' hi' hj').1
    · rw [if_neg e, World.cell?_setCell_other _ _ _ _ (by intro e'; simp only [Addr.mk.injEq] at e'; exact e ⟨by omega, by omega⟩)]
      exact (h.row i' j' hi' hj').1
/-- a row more, of zeros -/
theorem TabP.more (h : TabP w T m a f) (ha : a < m) (t : TypeId) : TabP ((w.alloc (.cells (Array.replicate m (.int .i64 0)) t)).setCell ⟨T, a, none⟩ (.slice (some ⟨w.heap.size, 0, none⟩) m m)) T m (a + 1) (fun i j => if i = a then 0 else f i j) := by
  have hs := h.sz
  have hT : T < w.heap.size := by omega
  refine ⟨by simp [World.setCell]; omega, fun k hk hkm => ?_, fun k hk hkm => ?_, fun k hk => ?_, fun i j hi hj => ?_⟩
  · by_cases e : k = a
    · subst e
      rw [show T + 1 + k = w.heap.size from by omega]
      exact World.cell?_setCell_same _ _ _ ((World.cell?_alloc_lt _ _ _ hT).trans (h.todo k (Nat.le_refl _) hkm))
    · rw [World.cell?_setCell_other _ _ _ _ (by intro e'; simp only [Addr.mk.injEq] at e'; omega), World.cell?_alloc_lt _ _ _ hT]
      exact h.done k (by omega) hkm
  · rw [World.cell?_setCell_other _ _ _ _ (by intro e'; simp only [Addr.mk.injEq] at e'; omega), World.cell?_alloc_lt _ _ _ hT]
    exact h.todo k (by omega) hkm
  · rw [World.frozen?_setCell, World.frozen?_of_block (w := w) (Below.heap_alloc w _ T hT)]; exact h.fz k hk
  · rw [World.frozen?_setCell, World.cell?_setCell_other _ _ _ _ (by intro e'; simp only [Addr.mk.injEq] at e'; omega)]
    by_cases e : i = a
    · subst e
      rw [if_pos rfl, show T + 1 + i = w.heap.size from by omega]
      have hh := heap_alloc_new w (.cells (Array.replicate m (.int .i64 0)) t)
      constructor
      · unfold World.cell?
        simp only [hh]
        simp [hj]
      · unfold World.frozen?
        simp only [hh]
        simp
    · rw [if_neg e]
      have hb := Below.heap_alloc w (.cells (Array.replicate m (.int .i64 0)) t) (T + 1 + i) (by omega)
      exact ⟨(World.cell?_of_block (w := w) hb).trans (h.row i j (by omega) hj).1, (World.frozen?_of_block (w := w) hb).trans (h.row i j (by omega) hj).2⟩
theorem TabP.all (h : TabP w T m m f) : TabM w T (T + 1 + m) T m (fun i => T + 1 + i) (fun _ => m) f :=
  ⟨fun i hi => h.done i hi hi, fun i j hi hj => h.row i j hi hj, fun i j _ _ e => by omega, fun i _ => by omega, ⟨Nat.le_refl _, by omega⟩, fun i hi => ⟨by omega, by omega⟩, Nat.le_of_eq h.sz.symm⟩
theorem TabP.first (w : World) (m : Nat) (t : TypeId) : TabP (w.alloc (.cells (Array.replicate m (.slice none 0 0)) t)) w.heap.size m 0 f := by
  have hh := heap_alloc_new w (.cells (Array.replicate m (.slice none 0 0)) t)
  refine ⟨by simp, fun i hi => by omega, fun i _ hi => ?_, fun i hi => ?_, fun i j hi => by omega⟩
  · unfold World.cell?
    simp only [hh]
    simp [hi]
  · unfold World.frozen?
    simp only [hh]
    simp
end
theorem mkRow0 (W : World) : (Instr.makeSlice 33 (.int .i64 ((0 : Nat) : Int)) (.int .i64 ((0 : Nat) : Int))).run Tryd.prog W = .ok (.slice (some ⟨W.heap.size, 0, none⟩) 0 0) (W.alloc (.cells (Array.replicate 0 (.int .i64 0)) 3)) := by kernel_rfl
theorem mkRow1 (W : World) : (Instr.makeSlice 33 (.int .i64 ((1 : Nat) : Int)) (.int .i64 ((1 : Nat) : Int))).run Tryd.prog W = .ok (.slice (some ⟨W.heap.size, 0, none⟩) 1 1) (W.alloc (.cells (Array.replicate 1 (.int .i64 0)) 3)) := by kernel_rfl
theorem mkRow2 (W : World) : (Instr.makeSlice 33 (.int .i64 ((2 : Nat) : Int)) (.int .i64 ((2 : Nat) : Int))).run Tryd.prog W = .ok (.slice (some ⟨W.heap.size, 0, none⟩) 2 2) (W.alloc (.cells (Array.replicate 2 (.int .i64 0)) 3)) := by kernel_rfl
theorem mkRow3 (W : World) : (Instr.makeSlice 33 (.int .i64 ((3 : Nat) : Int)) (.int .i64 ((3 : Nat) : Int))).run Tryd.prog W = .ok (.slice (some ⟨W.heap.size, 0, none⟩) 3 3) (W.alloc (.cells (Array.replicate 3 (.int .i64 0)) 3)) := by kernel_rfl
theorem mkRow4 (W : World) : (Instr.makeSlice 33 (.int .i64 ((4 : Nat) : Int)) (.int .i64 ((4 : Nat) : Int))).run Tryd.prog W = .ok (.slice (some ⟨W.heap.size, 0, none⟩) 4 4) (W.alloc (.cells (Array.replicate 4 (.int .i64 0)) 3)) := by kernel_rfl
theorem mkRow5 (W : World) : (Instr.makeSlice 33 (.int .i64 ((5 : Nat) : Int)) (.int .i64 ((5 : Nat) : Int))).run Tryd.prog W = .ok (.slice (some ⟨W.heap.size, 0, none⟩) 5 5) (W.alloc (.cells (Array.replicate 5 (.int .i64 0)) 3)) := by kernel_rfl
theorem mkRow6 (W : World) : (Instr.makeSlice 33 (.int .i64 ((6 : Nat) : Int)) (.int .i64 ((6 : Nat) : Int))).run Tryd.prog W = .ok (.slice (some ⟨W.heap.size, 0, none⟩) 6 6) (W.alloc (.cells (Array.replicate 6 (.int .i64 0)) 3)) := by kernel_rfl
theorem mkRow (W : World) : ∀ m : Nat, m ≤ 6 → (Instr.makeSlice 33 (.int .i64 ((m : Nat) : Int)) (.int .i64 ((m : Nat) : Int))).run Tryd.prog W = .ok (.slice (some ⟨W.heap.size, 0, none⟩) m m) (W.alloc (.cells (Array.replicate m (.int .i64 0)) 3))
  | 0, _ => mkRow0 W
  | 1, _ => mkRow1 W
  | 2, _ => mkRow2 W
  | 3, _ => mkRow3 W
  | 4, _ => mkRow4 W
  | 5, _ => mkRow5 W
  | 6, _ => mkRow6 W
  | m + 7, h => absurd h (by omega)
theorem mkTab0 (W : World) : (Instr.makeSlice 31 (.int .i64 ((0 : Nat) : Int)) (.int .i64 ((0 : Nat) : Int))).run Tryd.prog W = .ok (.slice (some ⟨W.heap.size, 0, none⟩) 0 0) (W.alloc (.cells (Array.replicate 0 (.slice none 0 0)) 33)) := by kernel_rfl
theorem mkTab1 (W : World) : (Instr.makeSlice 31 (.int .i64 ((1 : Nat) : Int)) (.int .i64 ((1 : Nat) : Int))).run Tryd.prog W = .ok (.slice (some ⟨W.heap.size, 0, none⟩) 1 1) (W.alloc (.cells (Array.replicate 1 (.slice none 0 0)) 33)) := by kernel_rfl
theorem mkTab2 (W : World) : (Instr.makeSlice 31 (.int .i64 ((2 : Nat) : Int)) (.int .i64 ((2 : Nat) : Int))).run Tryd.prog W = .ok (.slice (some ⟨W.heap.size, 0, none⟩) 2 2) (W.alloc (.cells (Array.replicate 2 (.slice none 0 0)) 33)) := by kernel_rfl
theorem mkTab3 (W : World) : (Instr.makeSlice 31 (.int .i64 ((3 : Nat) : Int)) (.int .i64 ((3 : Nat) : Int))).run Tryd.prog W = .ok (.slice (some ⟨W.heap.size, 0, none⟩) 3 3) (W.alloc (.cells (Array.replicate 3 (.slice none 0 0)) 33)) := by kernel_rfl
theorem mkTab4 (W : World) : (Instr.makeSlice 31 (.int .i64 ((4 : Nat) : Int)) (.int .i64 ((4 : Nat) : Int))).run Tryd.prog W = .ok (.slice (some ⟨W.heap.size, 0, none⟩) 4 4) (W.alloc (.cells (Array.replicate 4 (.slice none 0 0)) 33)) := by kernel_rfl
theorem mkTab5 (W : World) : (Instr.makeSlice 31 (.int .i64 ((5 : Nat) : Int)) (.int .i64 ((5 : Nat) : Int))).run Tryd.prog W = .ok (.slice (some ⟨W.heap.size, 0, none⟩) 5 5) (W.alloc (.cells (Array.replicate 5 (.slice none 0 0)) 33)) := by kernel_rfl
theorem mkTab6 (W : World) : (Instr.makeSlice 31 (.int .i64 ((6 : Nat) : Int)) (.int .i64 ((6 : Nat) : Int))).run Tryd.prog W = .ok (.slice (some ⟨W.heap.size, 0, none⟩) 6 6) (W.alloc (.cells (Array.replicate 6 (.slice none 0 0)) 33)) := by kernel_rfl
theorem mkTab (W : World) : ∀ m : Nat, m ≤ 6 → (Instr.makeSlice 31 (.int .i64 ((m : Nat) : Int)) (.int .i64 ((m : Nat) : Int))).run Tryd.prog W = .ok (.slice (some ⟨W.heap.size, 0, none⟩) m m) (W.alloc (.cells (Array.replicate m (.slice none 0 0)) 33))
  | 0, _ => mkTab0 W
  | 1, _ => mkTab1 W
  | 2, _ => mkTab2 W
  | 3, _ => mkTab3 W
  | 4, _ => mkTab4 W
  | 5, _ => mkTab5 W
  | 6, _ => mkTab6 W
  | m + 7, h => absurd h (by omega)

/-- a new table -/
def NewTab (m : Nat) (f : Nat → Nat → Int) (w : World) (e : Ending) (w' : World) : Prop :=
  ∃ T, w.heap.size ≤ T ∧ e = .returned (.slice (some ⟨T, 0, none⟩) m m) ∧ TabM w' T (T + 1 + m) T m (fun i => T + 1 + i) (fun _ => m) f ∧ Below w.heap.size w w'
set_option maxHeartbeats 4000000 in
theorem nextTable_any (m : Nat) (A : Option Addr) (cap : Nat) (ws : List Wy) (w : World) (hr : RW w w.heap.size A ws) (hn : NetIs (m : Int) ws) :
    Calls Tryd.prog 39 #[.agg #[.int .i64 m, .slice A ws.length cap]] w (NewTab m (nxTo ws ws.length) w) := by
  have HR := Lib.hid hr
  have HS := Lib.hid hn
  have hn6 := hn.hi
  have hl9 := hn.len
  have hmk1 := fun W => mkTab W m (by omega)
  have hmk2 := fun W => mkRow W m (by omega)
  clear hr hn
  go_enter Tryd.func39, Tryd.ntmps39
  go_wp2_with fail
  go_loopw [13] (fun i wr => ∃ a : Nat, a ≤ m ∧ i = .int .i64 a ∧ wr.cell? ⟨w.heap.size, 0, none⟩ = some (.int .i64 m) ∧ wr.cell? ⟨w.heap.size, 1, none⟩ = some (.slice A ws.length cap) ∧ Below w.heap.size w wr ∧ TabP wr (w.heap.size + 1) m a nF0) (fun i _ => m - (intOf i).toNat)
  case atStart =>
    refine ⟨0, Nat.zero_le _, rfl, by go_simp, by go_simp, by go_grown, ?_⟩
    have h := TabP.first (f := nF0) (w.alloc (.cells #[.int .i64 m, .slice A ws.length cap] 25)) m 33
    rw [World.size_alloc] at h
    exact h
  case round =>
    obtain ⟨a, ha, rfl, b0, b1, hb, htab⟩ := hrel
    have HB0 := Lib.hid hb
    have HTP := Lib.hid htab
    have hsz := htab.sz
    clear hb htab
    have a0 : (0 : Int) ≤ (a : Int) := by omega
    by_cases hlt : a < m
    · have a1 : (a : Int) < (m : Int) := by omega
      have ht := HTP.out.todo a (Nat.le_refl _) hlt
      have hf := HTP.out.fz a hlt
      have HM := Lib.hid (HTP.out.more hlt 3)
      have hzz : w.heap.size < wr.heap.size := by omega
      have hT : w.heap.size + 1 < wr.heap.size := by omega
      have hB2 : Below w.heap.size w ((wr.alloc (.cells (Array.replicate m (.int .i64 0)) 3)).setCell ⟨w.heap.size + 1, a, none⟩ (.slice (some ⟨wr.heap.size, 0, none⟩) m m)) := by have h9 := HB0.out; go_grown
      have c0 : ((wr.alloc (.cells (Array.replicate m (.int .i64 0)) 3)).setCell ⟨w.heap.size + 1, a, none⟩ (.slice (some ⟨wr.heap.size, 0, none⟩) m m)).cell? ⟨w.heap.size, 0, none⟩ = some (.int .i64 m) := (World.cell?_setCell_other _ _ _ _ (by intro e'; simp only [Addr.mk.injEq] at e'; omega)).trans ((World.cell?_alloc_lt _ _ _ hzz).trans b0)
      have c1 : ((wr.alloc (.cells (Array.replicate m (.int .i64 0)) 3)).setCell ⟨w.heap.size + 1, a, none⟩ (.slice (some ⟨wr.heap.size, 0, none⟩) m m)).cell? ⟨w.heap.size, 1, none⟩ = some (.slice A ws.length cap) := (World.cell?_setCell_other _ _ _ _ (by intro e'; simp only [Addr.mk.injEq] at e'; omega)).trans ((World.cell?_alloc_lt _ _ _ hzz).trans b1)
      have hf2 : (wr.alloc (.cells (Array.replicate m (.int .i64 0)) 3)).frozen? ⟨w.heap.size + 1, a, none⟩ = false := (World.frozen?_of_block (w := wr) (Below.heap_alloc wr _ (w.heap.size + 1) hT)).trans hf
      have HSZ := Lib.hid hsz
      clear hsz
      have ht2 := (World.cell?_alloc_lt wr (.cells (Array.replicate m (.int .i64 0)) 3) ⟨w.heap.size + 1, a, none⟩ hT).trans ht
      have hcm := World.setCell_alloc_past (w := wr) (.cells (Array.replicate m (.int .i64 0)) 3) (w.heap.size + 1) a (.slice (some ⟨wr.heap.size, 0, none⟩) m m) hT
      rw [hcm] at hB2 c0 c1 HM
      clear hcm
      go_wp2_with fail
      generalize hwg : (wr.setCell ⟨w.heap.size + 1, a, none⟩ (.slice (some ⟨wr.heap.size, 0, none⟩) m m)).alloc (.cells (Array.replicate m (.int .i64 0)) 3) = wg at hB2 c0 c1 HM ⊢
      have HB2 := Lib.hid hB2
      clear hB2 ht2 ht hf hf2 b0 b1 HB0 HTP hwg HSZ hT hzz
      go_loopw [27] (fun i wr => ∃ j : Nat, j ≤ m ∧ i = .int .i64 j ∧ wr.cell? ⟨w.heap.size, 0, none⟩ = some (.int .i64 m) ∧ wr.cell? ⟨w.heap.size, 1, none⟩ = some (.slice A ws.length cap) ∧ Below w.heap.size w wr ∧ TabP wr (w.heap.size + 1) m (a + 1) (fun i j' => if i = a then (if j' < j then nF0 a j' else 0) else nF0 i j')) (fun i _ => m - (intOf i).toNat)
      case atStart => exact ⟨0, Nat.zero_le _, rfl, c0, c1, HB2.out, HM.out.congr (fun i j' _ _ => by (try simp only [Nat.not_lt_zero, if_false]))⟩
      case round =>
        clear c0 c1 HB2 HM
        obtain ⟨j, hj, rfl, b0, b1, hb, htab⟩ := hrel
        have HB0 := Lib.hid hb
        have HTP := Lib.hid htab
        clear hb htab
        have j0 : (0 : Int) ≤ (j : Int) := by omega
        by_cases hlj : j < m
        · have j1 : (j : Int) < (m : Int) := by omega
          by_cases hja : j = a
          · have hne : ((j : Int) != (a : Int)) = false := by simp; omega
            have hne2 : ((j : Int) == (a : Int)) = true := by simp; omega
            go_wp2_with fail
            go_roundw
            case rel => exact ⟨j + 1, by omega, by go_num, b0, b1, HB0.out, HTP.out.congr (fun i j' _ _ => by
              by_cases e : i = a
              · rw [if_pos e, if_pos e]
                by_cases e2 : j' < j
                · rw [if_pos e2, if_pos (by omega)]
                · rw [if_neg e2]
                  by_cases e3 : j' = j
                  · rw [if_pos (by omega)]; unfold nF0; rw [if_pos (by omega)]
                  · rw [if_neg (by omega)]
              · rw [if_neg e, if_neg e])⟩
            case measure => simp [intOf]; omega
          · have hne : ((j : Int) != (a : Int)) = true := by simp; omega
            have hne2 : ((j : Int) == (a : Int)) = false := by simp; omega
            have hd := HTP.out.done a (by omega) hlt
            obtain ⟨r0, r1⟩ := HTP.out.row a j (by omega) hlj
            rw [if_pos rfl, if_neg (by omega)] at r0
            have hB3 : Below w.heap.size w (wr.setCell ⟨w.heap.size + 1 + 1 + a, j, none⟩ (.int .i64 (-1))) := by have h9 := HB0.out; go_grown
            have c0 : (wr.setCell ⟨w.heap.size + 1 + 1 + a, j, none⟩ (.int .i64 (-1))).cell? ⟨w.heap.size, 0, none⟩ = some (.int .i64 m) := (World.cell?_setCell_other _ _ _ _ (by intro e'; simp only [Addr.mk.injEq] at e'; omega)).trans b0
            have c1 : (wr.setCell ⟨w.heap.size + 1 + 1 + a, j, none⟩ (.int .i64 (-1))).cell? ⟨w.heap.size, 1, none⟩ = some (.slice A ws.length cap) := (World.cell?_setCell_other _ _ _ _ (by intro e'; simp only [Addr.mk.injEq] at e'; omega)).trans b1
            have HP := Lib.hid (HTP.out.put (i := a) (j := j) (by omega) hlj (-1))
            have HB3 := Lib.hid hB3
            clear hB3
            go_wp2_with fail
            go_roundw
            case rel => exact ⟨j + 1, by omega, by go_num, c0, c1, HB3.out, HP.out.congr (fun i j' _ _ => by
              by_cases e : i = a
              · subst e
                by_cases e3 : j' = j
                · subst e3
                  rw [if_pos ⟨rfl, rfl⟩, if_pos rfl, if_pos (by omega)]; unfold nF0; rw [if_neg (by omega)]
                · rw [if_neg (fun h => e3 h.2), if_pos rfl, if_pos rfl]
                  by_cases e2 : j' < j
                  · rw [if_pos e2, if_pos (by omega)]
                  · rw [if_neg e2, if_neg (by omega)]
              · rw [if_neg (fun h => e h.1), if_neg e, if_neg e])⟩
            case measure => simp [intOf]; omega
        · go_wp2_with fail
          go_roundw
          case rel => exact ⟨a + 1, by omega, by go_num, b0, b1, HB0.out, HTP.out.congr (fun i j' _ hj' => by
            by_cases e : i = a
            · subst e; rw [if_pos rfl, if_pos (by omega)]
            · rw [if_neg e])⟩
          case measure => simp [intOf]; omega
    · have ham : a = m := by omega
      subst ham
      have HTM := Lib.hid HTP.out.all
      have HRW := Lib.hid (HR.out.later HB0.out)
      go_wp2_with fail
      clear hmk1 hmk2
      go_loopw [44] (fun i wr => ∃ k : Nat, k ≤ ws.length ∧ i = .int .i64 k ∧ Below w.heap.size w wr ∧ TabM wr (w.heap.size + 1) (w.heap.size + 1 + 1 + a) (w.heap.size + 1) a (fun i => w.heap.size + 1 + 1 + i) (fun _ => a) (nxTo ws k)) (fun i _ => ws.length - (intOf i).toNat)
      case atStart => exact ⟨0, Nat.zero_le _, rfl, HB0.out, HTM.out⟩
      case round =>
        clear HB0 HTM HTP b0 b1 hsz
        obtain ⟨k, hk, rfl, hb, htab⟩ := hrel
        have HB0 := Lib.hid hb
        have HTP := Lib.hid htab
        have hk0 : (0 : Int) ≤ (k : Int) := by omega
        by_cases hlk : k < ws.length
        · have hk1 : (k : Int) < (ws.length : Int) := by omega
          obtain ⟨x, hx⟩ : ∃ x, ws[k]? = some x := ⟨_, List.getElem?_eq_getElem hlk⟩
          have hxa := HS.out.at_ hx
          obtain ⟨ia, hia⟩ := Int.eq_ofNat_of_zero_le hxa.1
          obtain ⟨ib, hib⟩ := Int.eq_ofNat_of_zero_le hxa.2.2.1
          have HN : Hid (nxTo ws (k + 1) = lowF (lowF (nxTo ws k) ia ib x.c) ib ia x.c) := by
            show nxTo ws (k + 1) = _
            rw [nxTo_step hx]; unfold wayF; rw [hia, hib]; rfl
          have hia2 : ia < a := by omega
          have hib2 : ib < a := by omega
          obtain ⟨b, o, rfl, hB, e0, e1, e2⟩ := HR.out.below hb k x hx
          rw [hia] at e0
          rw [hib] at e1
          have hhi := htab.his
          have HT1 := Lib.hid (htab.below ((Below.refl _ _).alloc (Nat.le_refl _) (.cells #[.int .i64 ia, .int .i64 ib, .int .i64 x.c] 45)))
          have HBA := Lib.hid (hb.alloc (show w.heap.size ≤ wr.heap.size by omega) (.cells #[.int .i64 ia, .int .i64 ib, .int .i64 x.c] 45))
          have y0 : (wr.alloc (.cells #[.int .i64 ia, .int .i64 ib, .int .i64 x.c] 45)).cell? ⟨wr.heap.size, 0, none⟩ = some (.int .i64 ia) := cell_of_row _ _ 0 _ _ (0, 0) (heap_alloc_new wr _)
          have y1 : (wr.alloc (.cells #[.int .i64 ia, .int .i64 ib, .int .i64 x.c] 45)).cell? ⟨wr.heap.size, 1, none⟩ = some (.int .i64 ib) := cell_of_row _ _ 1 _ _ (0, 0) (heap_alloc_new wr _)
          have y2 : (wr.alloc (.cells #[.int .i64 ia, .int .i64 ib, .int .i64 x.c] 45)).cell? ⟨wr.heap.size, 2, none⟩ = some (.int .i64 x.c) := cell_of_row _ _ 2 _ _ (0, 0) (heap_alloc_new wr _)
          have hsv : wr.heap.size < (wr.alloc (.cells #[.int .i64 ia, .int .i64 ib, .int .i64 x.c] 45)).heap.size := by simp
          clear hx hxa hia hib hb htab
          go_wp2_with fail
          refine (lower_any _ _ _ a a _ _ _ ia ib x.c _ HT1.out hia2 hib2).mono ?_; rintro e w1 ⟨rfl, ht1, ho1⟩
          have hblk := ho1.block wr.heap.size hsv (.inr (by omega))
          have u0 := (World.cell?_of_block (a := ⟨wr.heap.size, 0, none⟩) hblk).trans y0
          have u1 := (World.cell?_of_block (a := ⟨wr.heap.size, 1, none⟩) hblk).trans y1
          have u2 := (World.cell?_of_block (a := ⟨wr.heap.size, 2, none⟩) hblk).trans y2
          have HT2 := Lib.hid ht1
          have HB2 := Lib.hid (Below.only_ HBA.out (Nat.le_succ _) (by simp; omega) ho1)
          have hs1 := Nat.lt_of_lt_of_le hsv ho1.size
          clear ht1 ho1 hblk y0 y1 y2
          go_wp2_with fail
          refine (lower_any _ _ _ a a _ _ _ ib ia x.c _ HT2.out hib2 hia2).mono ?_; rintro e w2 ⟨rfl, ht2, ho2⟩
          have HT3 := Lib.hid ht2
          have HB3 := Lib.hid (Below.only_ HB2.out (Nat.le_succ _) (by omega) ho2)
          clear ht2 ho2
          go_wp2_with fail
          go_roundw
          case rel => exact ⟨k + 1, by omega, by go_num, HB3.out, by rw [HN.out]; exact HT3.out⟩
          case measure => simp [intOf]; omega
        · have hkl : k = ws.length := by omega
          subst hkl
          go_wp2_with fail
          go_ret
          exact ⟨w.heap.size + 1, Nat.le_succ _, rfl, HTP.out, HB0.out⟩
end Go.Proofs.YtbbomajgmgmigaaDoor
