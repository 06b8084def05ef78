/- Rows of numbers in memory: those that the exact laws compare, write over and look at again. A net's ways are written over. PartsOf of the program and of its model. PartsOf of the model. -/
import Derived.Test.YthadehgpeafniaaXA
import Derived.Test.YthadehgpeafniaaOrd
import Derived.Deep.RegionHeld3
import Derived.Deep.RegionLaw
import Derived.Deep.AppendLies
import Derived.Deep.DeepCutAuto
import Derived.Deep.CutBlock
import Derived.Test.YthadehgpeafniaaMC
import Derived.Deep.DrawnRows
import Derived.Test.YthadehgpeafniaaME
import Derived.Test.YthadehgpeafniaaMD
import Derived.Test.YthadehgpeafniaaWE
set_option linter.unusedSimpArgs false
set_option linter.unusedVariables false
namespace Go.Proofs.Ythadehgpeafniaa
open Go.ChangeShapes Go.WideShapes Go.ChangeAt Go.RowKit

/-- nothing is turned but the blocks from lo to hi, and what is new -/
structure Only (lo hi : Nat) (w w' : World) : Prop where
  os : w'.os = w.os
  tape : w'.tape = w.tape
  output : w'.output = w.output
  size : w.heap.size ≤ w'.heap.size
  block : ∀ k, k < w.heap.size → (k < lo ∨ hi ≤ k) → w'.heap[k]? = w.heap[k]?
theorem Only.refl (lo hi : Nat) (w : World) : Only lo hi w w := ⟨rfl, rfl, rfl, Nat.le_refl _, fun _ _ _ => rfl⟩
theorem Only.of {lo hi : Nat} {w w' : World} (h : Below w.heap.size w w') : Only lo hi w w' := ⟨h.os, h.tape, h.output, h.size, fun k hk _ => h.block k hk⟩
theorem Only.trans {lo hi : Nat} {a b c : World} (h : Only lo hi a b) (k : Only lo hi b c) : Only lo hi a c :=
  ⟨k.os.trans h.os, k.tape.trans h.tape, k.output.trans h.output, Nat.le_trans h.size k.size, fun i hi hn => (k.block i (Nat.lt_of_lt_of_le hi h.size) hn).trans (h.block i hi hn)⟩
theorem Only.drew {lo hi : Nat} {a b : World} (h : Only lo hi a b) : Only lo hi a b.drew := ⟨h.os, h.tape, h.output, h.size, h.block⟩
theorem Only.drewN {lo hi : Nat} {a b : World} (h : Only lo hi a b) (n : Nat) : Only lo hi a (b.drewN n) := ⟨h.os, h.tape, h.output, h.size, h.block⟩
theorem Only.setCell {lo hi : Nat} {a b : World} (h : Only lo hi a b) {p : Addr} (hp : lo ≤ p.block ∧ p.block < hi) (u : Value) : Only lo hi a (b.setCell p u) :=
  ⟨h.os, h.tape, h.output, by simpa [World.setCell] using h.size, fun k hk hn => (Below.heap_setCell b p u k (by omega)).trans (h.block k hk hn)⟩
theorem Below.only_ {B lo hi : Nat} {W w w' : World} (h : Below B W w) (hB : B ≤ lo) (hs : B ≤ w.heap.size) (k : Only lo hi w w') : Below B W w' :=
  ⟨k.os.trans h.os, k.tape.trans h.tape, k.output.trans h.output, Nat.le_trans h.size k.size, fun i hi => (k.block i (by omega) (.inl (by omega))).trans (h.block i hi)⟩

/-- the slice at A holds m numbers, in blocks from lo to hi -/
structure RowF (w : World) (lo hi : Nat) (A : Option Addr) (m : Nat) (f : Nat → Int) : Prop where
  at_ : ∀ j, j < m → ∃ b o, A = some ⟨b, o, none⟩ ∧ lo ≤ b ∧ b < hi ∧ w.cell? ⟨b, o + j, none⟩ = some (.int .i64 (f j)) ∧ w.frozen? ⟨b, o + j, none⟩ = false
  top : hi ≤ w.heap.size
theorem RowF.only {w w' : World} {lo hi lo' hi' : Nat} {A : Option Addr} {m : Nat} {f : Nat → Int} (h : RowF w lo hi A m f) (k : Only lo' hi' w w') (hd : hi ≤ lo' ∨ hi' ≤ lo) : RowF w' lo hi A m f :=
  ⟨fun j hj => by
    obtain ⟨b, o, ha, hl, hh, hc, hf⟩ := h.at_ j hj
    have hb := k.block b (Nat.lt_of_lt_of_le hh h.top) (by omega)
    exact ⟨b, o, ha, hl, hh, (World.cell?_of_block (w := w) hb).trans hc, (World.frozen?_of_block (w := w) hb).trans hf⟩, Nat.le_trans h.top k.size⟩
theorem RowF.below {w w' : World} {lo hi : Nat} {A : Option Addr} {m : Nat} {f : Nat → Int} (h : RowF w lo hi A m f) (k : Below w.heap.size w w') : RowF w' lo hi A m f :=
  ⟨fun j hj => by
    obtain ⟨b, o, ha, hl, hh, hc, hf⟩ := h.at_ j hj
    have hb := k.block b (Nat.lt_of_lt_of_le hh h.top)
    exact ⟨b, o, ha, hl, hh, (World.cell?_of_block (w := w) hb).trans hc, (World.frozen?_of_block (w := w) hb).trans hf⟩, Nat.le_trans h.top k.size⟩
theorem RowF.congr {w : World} {lo hi : Nat} {A : Option Addr} {m : Nat} {f g : Nat → Int} (h : RowF w lo hi A m f) (he : ∀ j, j < m → f j = g j) : RowF w lo hi A m g :=
  ⟨fun j hj => by rw [← he j hj]; exact h.at_ j hj, h.top⟩
theorem RowF.wider {w : World} {lo hi lo' : Nat} {A : Option Addr} {m : Nat} {f : Nat → Int} (h : RowF w lo hi A m f) (hl : lo' ≤ lo) : RowF w lo' hi A m f :=
  ⟨fun j hj => by
    obtain ⟨b, o, ha, h1, hh, hc, hf⟩ := h.at_ j hj
    exact ⟨b, o, ha, by omega, hh, hc, hf⟩, h.top⟩
theorem RowF.none (w : World) (lo hi : Nat) (A : Option Addr) (f : Nat → Int) (hi' : hi ≤ w.heap.size) : RowF w lo hi A 0 f := ⟨fun j hj => by omega, hi'⟩
/-- a number is written -/
theorem RowF.put {w : World} {lo hi b o m k : Nat} {f : Nat → Int} (h : RowF w lo hi (some ⟨b, o, Option.none⟩) m f) (hk : k < m) (x : Int) : RowF (w.setCell ⟨b, o + k, Option.none⟩ (.int .i64 x)) lo hi (some ⟨b, o, Option.none⟩) m (fun j => if j = k then x else f j) :=
  ⟨fun j hj => by
    obtain ⟨b', o', ha, hl, hh, hc, hf⟩ := h.at_ j hj
    injection ha with ha; injection ha with e1 e2; subst e1; subst e2
    refine ⟨b, o, rfl, hl, hh, ?_, by rw [World.frozen?_setCell]; exact hf⟩
    by_cases e : j = k
    · subst e
      rw [if_pos rfl]
      exact World.cell?_setCell_same _ _ _ hc
    · rw [if_neg e, World.cell?_setCell_other _ _ _ _ (by intro e'; simp only [Addr.mk.injEq] at e'; omega)]
      exact hc, by simpa [World.setCell] using h.top⟩

set_option maxHeartbeats 1000000 in
/-- two rows that hold the same -/
theorem eqIntS_any (A A' : Option Addr) (cap cap' m : Nat) (f : Nat → Int) (lo hi lo' hi' : Nat) (w : World) (h : RowF w lo hi A m f) (h' : RowF w lo' hi' A' m f) (hm : m ≤ 1048576) :
    Calls Try.prog 30 #[.slice A m cap, .slice A' m cap'] w fun e w' => e = .returned (.bool true) ∧ Below w.heap.size w w' := by
  have HF := Lib.hid h
  have HG := Lib.hid h'
  clear h h'
  go_enter Try.func30, Try.ntmps30
  go_wp2_with fail
  go_loopw [5] (fun i wr => ∃ k : Nat, k ≤ m ∧ i = .int .i64 k ∧ Below w.heap.size w wr) (fun i _ => m - (intOf i).toNat)
  case atStart => exact ⟨0, Nat.zero_le _, rfl, by go_grown⟩
  case round =>
    obtain ⟨k, hk, rfl, hb⟩ := hrel
    have HB := Lib.hid hb
    have HF1 := HF.out.below hb
    have HG1 := HG.out.below hb
    clear hb
    by_cases hlt : k < m
    · obtain ⟨b, o, rfl, _, _, c0, _⟩ := HF1.at_ k hlt
      obtain ⟨b', o', rfl, _, _, c1, _⟩ := HG1.at_ k hlt
      have hk0 : (0 : Int) ≤ (k : Int) := by omega
      have hk1 : (k : Int) < (m : Int) := by omega
      clear HF1 HG1
      go_wp2_with fail
      go_quiet (fail)
      go_wp2_with fail
      go_roundw
      case rel => exact ⟨k + 1, by omega, by go_num, ⟨HB.out.os, HB.out.tape, HB.out.output, HB.out.size, HB.out.block⟩⟩
      case measure => simp [intOf]; omega
    · go_wp2_with fail
      go_ret
      exact ⟨rfl, HB.out⟩
set_option maxHeartbeats 1000000 in
theorem sameInts_any (A A' : Option Addr) (cap cap' m : Nat) (f : Nat → Int) (lo hi lo' hi' : Nat) (w : World) (h : RowF w lo hi A m f) (h' : RowF w lo' hi' A' m f) (hm : m ≤ 1048576) :
    Calls Try.prog 17 #[.slice A m cap, .slice A' m cap'] w fun e w' => e = .returned (.bool true) ∧ Below w.heap.size w w' := by
  have HF := Lib.hid h
  have HG := Lib.hid h'
  clear h h'
  go_enter Try.func17, Try.ntmps17
  go_wp2_with fail
  go_loopw [5] (fun i wr => ∃ k : Nat, k ≤ m ∧ i = .int .i64 k ∧ Below w.heap.size w wr) (fun i _ => m - (intOf i).toNat)
  case atStart => exact ⟨0, Nat.zero_le _, rfl, by go_grown⟩
  case round =>
    obtain ⟨k, hk, rfl, hb⟩ := hrel
    have HB := Lib.hid hb
    have HF1 := HF.out.below hb
    have HG1 := HG.out.below hb
    clear hb
    by_cases hlt : k < m
    · obtain ⟨b, o, rfl, _, _, c0, _⟩ := HF1.at_ k hlt
      obtain ⟨b', o', rfl, _, _, c1, _⟩ := HG1.at_ k hlt
      have hk0 : (0 : Int) ≤ (k : Int) := by omega
      have hk1 : (k : Int) < (m : Int) := by omega
      clear HF1 HG1
      go_wp2_with fail
      go_quiet (fail)
      go_wp2_with fail
      go_roundw
      case rel => exact ⟨k + 1, by omega, by go_num, ⟨HB.out.os, HB.out.tape, HB.out.output, HB.out.size, HB.out.block⟩⟩
      case measure => simp [intOf]; omega
    · go_wp2_with fail
      go_ret
      exact ⟨rfl, HB.out⟩
set_option maxHeartbeats 1000000 in
theorem markIntS_any (A : Option Addr) (cap m : Nat) (f : Nat → Int) (q : Int) (lo hi : Nat) (w : World) (h : RowF w lo hi A m f) (hm : m ≤ 1048576) (hq0 : 0 ≤ q) (hq1 : q ≤ 1048576) :
    Calls Try.prog 32 #[.slice A m cap, .int .i64 q] w fun e w' => e = .returned (.int .i64 (q + m)) ∧ RowF w' lo hi A m (fun j => q + j) ∧ Only lo hi w w' := by
  have HF := Lib.hid h
  clear h
  go_enter Try.func32, Try.ntmps32
  go_wp2_with fail
  go_loopw [1, 5] (fun u i wr => ∃ k : Nat, k ≤ m ∧ u = .int .i64 (q + k) ∧ i = .int .i64 k ∧ Only lo hi w wr ∧ RowF wr lo hi A m (fun j => if j < k then q + j else f j)) (fun _ i _ => m - (intOf i).toNat)
  case atStart => exact ⟨0, Nat.zero_le _, by simp, rfl, Only.refl _ _ _, HF.out.congr (fun j _ => by simp)⟩
  case round =>
    obtain ⟨k, hk, rfl, rfl, ho, hf⟩ := hrel
    have HO := Lib.hid ho
    have HG := Lib.hid hf
    clear ho hf
    by_cases hlt : k < m
    · obtain ⟨b, o, rfl, hl, hh, c0, f0⟩ := HG.out.at_ k hlt
      have hk0 : (0 : Int) ≤ (k : Int) := by omega
      have hk1 : (k : Int) < (m : Int) := by omega
      rw [if_neg (by omega)] at c0
      go_wp2_with fail
      go_roundw
      case rel => exact ⟨k + 1, by omega, by go_num, by go_num, HO.out.setCell ⟨hl, hh⟩ _, (HG.out.put hlt (q + k)).congr (fun j _ => by (try dsimp only); split <;> split <;> (try split) <;> omega)⟩
      case measure => simp [intOf]; omega
    · have hkm : k = m := by omega
      subst hkm
      go_wp2_with fail
      go_ret
      exact ⟨rfl, HG.out.congr (fun j hj => by rw [if_pos hj]), HO.out⟩
set_option maxHeartbeats 1000000 in
theorem heldIntS_any (A : Option Addr) (cap m : Nat) (q : Int) (lo hi : Nat) (w : World) (h : RowF w lo hi A m (fun j => q + j)) (hm : m ≤ 1048576) (hq0 : 0 ≤ q) (hq1 : q ≤ 1048576) :
    Calls Try.prog 33 #[.slice A m cap, .int .i64 q] w fun e w' => e = .returned (.int .i64 (q + m)) ∧ Below w.heap.size w w' := by
  have HF := Lib.hid h
  clear h
  go_enter Try.func33, Try.ntmps33
  go_wp2_with fail
  go_loopw [1, 5] (fun u i wr => ∃ k : Nat, k ≤ m ∧ u = .int .i64 (q + k) ∧ i = .int .i64 k ∧ Below w.heap.size w wr) (fun _ i _ => m - (intOf i).toNat)
  case atStart => exact ⟨0, Nat.zero_le _, by simp, rfl, by go_grown⟩
  case round =>
    obtain ⟨k, hk, rfl, rfl, hb⟩ := hrel
    have HB := Lib.hid hb
    have HF1 := HF.out.below hb
    clear hb
    by_cases hlt : k < m
    · obtain ⟨b, o, rfl, _, _, c0, _⟩ := HF1.at_ k hlt
      have hk0 : (0 : Int) ≤ (k : Int) := by omega
      have hk1 : (k : Int) < (m : Int) := by omega
      clear HF1
      go_wp2_with fail
      go_roundw
      case rel => exact ⟨k + 1, by omega, by go_num, by go_num, ⟨HB.out.os, HB.out.tape, HB.out.output, HB.out.size, HB.out.block⟩⟩
      case measure => simp [intOf]; omega
    · have hkm : k = m := by omega
      subst hkm
      go_wp2_with fail
      go_ret
      exact ⟨rfl, HB.out⟩
end Go.Proofs.Ythadehgpeafniaa
attribute [local go_sem ↓] Go.wp_at_zero Go.wp_at_succ
namespace Go.Proofs.Ythadehgpeafniaa
open Go.ChangeShapes Go.WideShapes Go.ChangeAt Go.RowKit

/-! ### a net's ways are written over -/
theorem Row3.set0 {w : World} {b : Nat} {t : TypeId} {ws : List Wy} (h : Row3 w b t ws 0) (j : Nat) (u : Value) : Row3 (w.setCell ⟨b, j, none⟩ u) b t ws 0 := by
  obtain ⟨cs, h1, h2, _⟩ := h.blk
  exact ⟨cs.setIfInBounds j u, by simp [World.setCell, Array.getElem?_modify, h1], by simpa using h2, fun i x hi => by omega⟩
theorem Row3.zero {w : World} {b : Nat} {t : TypeId} {ws : List Wy} {k : Nat} (h : Row3 w b t ws k) : Row3 w b t ws 0 := by
  obtain ⟨cs, h1, h2, _⟩ := h.blk
  exact ⟨cs, h1, h2, fun i x hi => by omega⟩
set_option maxHeartbeats 1000000 in
theorem markWayS_any (b cap : Nat) (ws : List Wy) (q : Int) (w : World) (h : Row3 w b 31 ws 0) (hm : ws.length ≤ 1048576) (hq0 : 0 ≤ q) (hq1 : q ≤ 1048576) :
    Calls Try.prog 59 #[.slice (some ⟨b, 0, none⟩) ws.length cap, .int .i64 q] w fun e w' => e = .returned (.int .i64 (q + ws.length * 3)) ∧ Only b (b + 1) w w' := by
  have HF := Lib.hid h
  clear h
  go_enter Try.func59, Try.ntmps59
  go_wp2_with fail
  go_loopw [1, 5] (fun u i wr => ∃ k : Nat, k ≤ ws.length ∧ u = .int .i64 (q + k * 3) ∧ i = .int .i64 k ∧ Only b (b + 1) w wr ∧ Row3 wr b 31 ws 0) (fun _ i _ => ws.length - (intOf i).toNat)
  case atStart => exact ⟨0, Nat.zero_le _, by simp, rfl, Only.refl _ _ _, HF.out⟩
  case round =>
    obtain ⟨k, hk, rfl, rfl, ho, hf⟩ := hrel
    have HO := Lib.hid ho
    have HG := Lib.hid hf
    clear ho hf
    by_cases hlt : k < ws.length
    · have hk0 : (0 : Int) ≤ (k : Int) := by omega
      have hk1 : (k : Int) < (ws.length : Int) := by omega
      obtain ⟨⟨u0, d0⟩, e0⟩ := HG.out.cell (k * 3) (by omega)
      obtain ⟨⟨u1, d1⟩, e1⟩ := (HG.out.set0 (k * 3) (.int .i64 (q + k * 3))).cell (k * 3 + 1) (by omega)
      obtain ⟨⟨u2, d2⟩, e2⟩ := ((HG.out.set0 (k * 3) (.int .i64 (q + k * 3))).set0 (k * 3 + 1) (.int .i64 (q + k * 3 + 1))).cell (k * 3 + 2) (by omega)
      go_wp2_with fail
      go_roundw
      case rel => exact ⟨k + 1, by omega, by go_num, by go_num, ((HO.out.setCell ⟨Nat.le_refl _, Nat.lt_succ_self _⟩ _).setCell ⟨Nat.le_refl _, Nat.lt_succ_self _⟩ _).setCell ⟨Nat.le_refl _, Nat.lt_succ_self _⟩ _, ((HG.out.set0 _ _).set0 _ _).set0 _ _⟩
      case measure => simp [intOf]; omega
    · have hkm : k = ws.length := by omega
      subst hkm
      go_wp2_with fail
      go_ret
      exact ⟨rfl, HO.out⟩
set_option maxHeartbeats 1000000 in
theorem markNet_any (n : Int) (b cap : Nat) (ws : List Wy) (q : Int) (w : World) (h : Row3 w b 31 ws 0) (hm : ws.length ≤ 1048576) (hq0 : 0 ≤ q) (hq1 : q ≤ 1048576) :
    Calls Try.prog 31 #[.agg #[.int .i64 n, .slice (some ⟨b, 0, none⟩) ws.length cap], .int .i64 q] w fun e w' => e = .returned (.int .i64 (q + ws.length * 3)) ∧ Only b (b + 1) w w' := by
  have HF := Lib.hid h
  have hbl := h.lt
  clear h
  go_enter Try.func31, Try.ntmps31
  go_wp2_with fail
  refine (markWayS_any b cap ws q _ (HF.out.below ((Below.refl _ _).alloc (Nat.le_refl _) _)) hm hq0 hq1).mono ?_; rintro e w1 ⟨rfl, h1⟩
  go_wp2_with fail
  go_ret
  exact ⟨rfl, (Only.of ((Below.refl _ _).alloc (Nat.le_refl _) _)).trans h1⟩
end Go.Proofs.Ythadehgpeafniaa
namespace Go.Proofs.Ythadehgpeafniaa
open Go.ChangeShapes Go.WideShapes Go.ChangeAt Go.RowKit


/-! ### the parts -/
noncomputable def partAt (ws : List Wy) (p : Nat) : Int := low (reach ws (full ws.length) p)
def partsLen (n : Int) (ws : List Wy) : Nat := if netOk n ws = true then n.toNat else 0
/-- a new row of parts -/
def NewParts (n : Int) (ws : List Wy) (w : World) (e : Ending) (w' : World) : Prop :=
  ∃ A1 c1, e = .returned (.slice A1 (partsLen n ws) c1) ∧ RowF w' w.heap.size w'.heap.size A1 (partsLen n ws) (partAt ws) ∧ Below w.heap.size w w'
theorem mkInts' (W : World) (m : Nat) (hm : m ≤ 6) : (Instr.makeSlice 33 (.int .i64 (m : Int)) (.int .i64 (m : Int))).run Try.prog W = .ok (.slice (some ⟨W.heap.size, 0, none⟩) m m) (W.alloc (.cells (Array.replicate m (.int .i64 0)) 3)) := by
  have k0 : ∀ W, (Instr.makeSlice 33 (.int .i64 ((0 : Nat) : Int)) (.int .i64 ((0 : Nat) : Int))).run Try.prog W = .ok (.slice (some ⟨W.heap.size, 0, none⟩) 0 0) (W.alloc (.cells (Array.replicate 0 (.int .i64 0)) 3)) := fun W => by kernel_rfl
  have k1 : ∀ W, (Instr.makeSlice 33 (.int .i64 ((1 : Nat) : Int)) (.int .i64 ((1 : Nat) : Int))).run Try.prog W = .ok (.slice (some ⟨W.heap.size, 0, none⟩) 1 1) (W.alloc (.cells (Array.replicate 1 (.int .i64 0)) 3)) := fun W => by kernel_rfl
  have k2 : ∀ W, (Instr.makeSlice 33 (.int .i64 ((2 : Nat) : Int)) (.int .i64 ((2 : Nat) : Int))).run Try.prog W = .ok (.slice (some ⟨W.heap.size, 0, none⟩) 2 2) (W.alloc (.cells (Array.replicate 2 (.int .i64 0)) 3)) := fun W => by kernel_rfl
  have k3 : ∀ W, (Instr.makeSlice 33 (.int .i64 ((3 : Nat) : Int)) (.int .i64 ((3 : Nat) : Int))).run Try.prog W = .ok (.slice (some ⟨W.heap.size, 0, none⟩) 3 3) (W.alloc (.cells (Array.replicate 3 (.int .i64 0)) 3)) := fun W => by kernel_rfl
  have k4 : ∀ W, (Instr.makeSlice 33 (.int .i64 ((4 : Nat) : Int)) (.int .i64 ((4 : Nat) : Int))).run Try.prog W = .ok (.slice (some ⟨W.heap.size, 0, none⟩) 4 4) (W.alloc (.cells (Array.replicate 4 (.int .i64 0)) 3)) := fun W => by kernel_rfl
  have k5 : ∀ W, (Instr.makeSlice 33 (.int .i64 ((5 : Nat) : Int)) (.int .i64 ((5 : Nat) : Int))).run Try.prog W = .ok (.slice (some ⟨W.heap.size, 0, none⟩) 5 5) (W.alloc (.cells (Array.replicate 5 (.int .i64 0)) 3)) := fun W => by kernel_rfl
  have k6 : ∀ W, (Instr.makeSlice 33 (.int .i64 ((6 : Nat) : Int)) (.int .i64 ((6 : Nat) : Int))).run Try.prog W = .ok (.slice (some ⟨W.heap.size, 0, none⟩) 6 6) (W.alloc (.cells (Array.replicate 6 (.int .i64 0)) 3)) := fun W => by kernel_rfl
  have h7 : m = 0 ∨ m = 1 ∨ m = 2 ∨ m = 3 ∨ m = 4 ∨ m = 5 ∨ m = 6 := by omega
  rcases h7 with h | h | h | h | h | h | h <;> subst h
  · exact k0 W
  · exact k1 W
  · exact k2 W
  · exact k3 W
  · exact k4 W
  · exact k5 W
  · exact k6 W
theorem new_rowF (w : World) (m : Nat) (t : TypeId) : RowF (w.alloc (.cells (Array.replicate m (.int .i64 0)) t)) w.heap.size (w.heap.size + 1) (some ⟨w.heap.size, 0, none⟩) m (fun _ => 0) :=
  ⟨fun j hj => by
    have h := heap_alloc_new w (.cells (Array.replicate m (.int .i64 0)) t)
    refine ⟨w.heap.size, 0, rfl, Nat.le_refl _, Nat.lt_succ_self _, ?_, ?_⟩
    · unfold World.cell?
      simp only [h]
      simp [hj]
    · unfold World.frozen?
      simp only [h]
      simp, by simp⟩

theorem RowF.fill0 {w : World} {lo hi b m k : Nat} {f : Nat → Int} (h : RowF w lo hi (some ⟨b, 0, Option.none⟩) m (fun j => if j < k then f j else 0)) (hk : k < m) :
    RowF (w.setCell ⟨b, k, Option.none⟩ (.int .i64 (f k))) lo hi (some ⟨b, 0, Option.none⟩) m (fun j => if j < k + 1 then f j else 0) := by
  have h8 := (h.put hk (f k)).congr (g := fun j => if j < k + 1 then f j else 0) (fun j _ => by
    (try dsimp only)
    by_cases e : j = k
    · subst e; simp
    · rw [if_neg e]
      by_cases e2 : j < k
      · rw [if_pos e2, if_pos (by omega)]
      · rw [if_neg e2, if_neg (by omega)])
  rw [Nat.zero_add] at h8
  exact h8
end Go.Proofs.Ythadehgpeafniaa
namespace Go.Proofs.Ythadehgpeafniaa
open Go.ChangeShapes Go.WideShapes Go.ChangeAt Go.RowKit

theorem own_below {w w' : World} {base size n : Nat} {e : TypeId} {v : Value} {xs : List Value} (h : w.ownsRow base e size v n xs) (hb : Below w.heap.size w w') : w'.ownsRow base e size v n xs := by
  refine ⟨h.1, ?_⟩
  rcases h.2 with h2 | ⟨g, cap, cur, hv, h3, h4, h5⟩
  · exact .inl h2
  · exact .inr ⟨g, cap, cur, hv, h3, (hb.block g (Array.getElem?_eq_some_iff.1 h4).1).trans h4, h5⟩
theorem rowF_of_own {w : World} {base m c1 : Nat} {e : TypeId} {A1 : Option Addr} {xs : List Value} {f : Nat → Int} (h : w.ownsRow base e 1 (.slice A1 m c1) m xs) (hf : ∀ j, j < m → xs[j]? = some (.int .i64 (f j))) : RowF w base w.heap.size A1 m f := by
  refine ⟨fun j hj => ?_, Nat.le_refl _⟩
  rcases h.2 with ⟨_, h2⟩ | ⟨g, cap, cur, hv, h3, h4, h5, h6, h7, h8⟩
  · omega
  · injection hv with hv1 hv2 hv3
    have hg := (Array.getElem?_eq_some_iff.1 h4).1
    refine ⟨g, 0, hv1, h3, hg, ?_, by simp [World.frozen?, h4]⟩
    rw [cell_of_row _ _ _ _ _ (0, 0) h4, Nat.zero_add, ← Array.getElem?_toList]
    have h9 := hf j hj
    rw [← h8, List.getElem?_take] at h9
    split at h9
    · exact h9
    · cases h9
theorem infoInt : (Try.prog.info? 3).map (fun i => (i.zero, i.size, i.bytes)) = some (some (.int .i64 0), 1, 8) := by kernel_rfl
theorem emptyInts (W : World) : (Instr.buildSlice 33 0 #[]).run Try.prog W = .ok (.slice (some ⟨W.heap.size, 0, none⟩) 0 0) (W.alloc (.cells #[] 3)) := by kernel_rfl
/-- the numbers of the first k -/
def numCells (f : Nat → Int) (k : Nat) : List Value := (List.range k).map fun j => .int .i64 (f j)
theorem numCells_snoc (f : Nat → Int) (k : Nat) : numCells f (k + 1) = numCells f k ++ [.int .i64 (f k)] := by unfold numCells; rw [List.range_succ, List.map_append]; rfl
theorem numCells_len (f : Nat → Int) (k : Nat) : (numCells f k).length = k := by unfold numCells; simp
theorem numCells_at (f : Nat → Int) {k j : Nat} (h : j < k) : (numCells f k)[j]? = some (.int .i64 (f j)) := by unfold numCells; simp [h]
theorem own_form {w : World} {base size n : Nat} {e : TypeId} {v : Value} {xs : List Value} (h : w.ownsRow base e size v n xs) : ∃ A1 c1, v = .slice A1 n c1 := by
  rcases h.2 with ⟨hv, h0⟩ | ⟨g', c, cur, hv, _⟩
  · exact ⟨none, 0, by rw [hv, h0]⟩
  · exact ⟨_, c, hv⟩

theorem newParts_none {n : Int} {ws : List Wy} {w w' : World} {e : Ending} {A1 : Option Addr} {c1 : Nat} (hl : partsLen n ws = 0) (he : e = .returned (.slice A1 0 c1)) (hb : Below w.heap.size w w') : NewParts n ws w e w' := by
  unfold NewParts
  rw [hl]
  exact ⟨A1, c1, he, RowF.none _ _ _ _ _ (Nat.le_refl _), hb⟩

end Go.Proofs.Ythadehgpeafniaa
