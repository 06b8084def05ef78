/- Rows of numbers in memory: those that the exact laws compare, write over and look at again. -/
import Derived.Test.YtnbihejoglgdhaaXA
import Derived.Test.YtnbihejoglgdhaaWH
set_option linter.unusedSimpArgs false
set_option linter.unusedVariables false
namespace Go.Proofs.Ytnbihejoglgdhaa
open Go.ChangeShapes Go.WideShapes Go.ChangeAt Go.RowKit

/-- nothing is turned but the blocks from lo to hi, and what is new -/
structure Only (lo hi : Nat) (w w' : World) : Prop where
  os : w'.os = w.os
  tape : w'.tape = w.tape
  output : w'.output = w.output
  size : w.heap.size ≤ w'.heap.size
  block : ∀ k, k < w.heap.size → (k < lo ∨ hi ≤ k) → w'.heap[k]? = w.heap[k]?
theorem Only.refl (lo hi : Nat) (w : World) : Only lo hi w w := ⟨rfl, rfl, rfl, Nat.le_refl _, fun _ _ _ => rfl⟩
theorem Only.of {lo hi : Nat} {w w' : World} (h : Below w.heap.size w w') : Only lo hi w w' := ⟨h.os, h.tape, h.output, h.size, fun k hk _ => h.block k hk⟩
theorem Only.trans {lo hi : Nat} {a b c : World} (h : Only lo hi a b) (k : Only lo hi b c) : Only lo hi a c :=
  ⟨k.os.trans h.os, k.tape.trans h.tape, k.output.trans h.output, Nat.le_trans h.size k.size, fun i hi hn => (k.block i (Nat.lt_of_lt_of_le hi h.size) hn).trans (h.block i hi hn)⟩
theorem Only.drew {lo hi : Nat} {a b : World} (h : Only lo hi a b) : Only lo hi a b.drew := ⟨h.os, h.tape, h.output, h.size, h.block⟩
theorem Only.drewN {lo hi : Nat} {a b : World} (h : Only lo hi a b) (n : Nat) : Only lo hi a (b.drewN n) := ⟨h.os, h.tape, h.output, h.size, h.block⟩
theorem Only.setCell {lo hi : Nat} {a b : World} (h : Only lo hi a b) {p : Addr} (hp : lo ≤ p.block ∧ p.block < hi) (u : Value) : Only lo hi a (b.setCell p u) :=
  ⟨h.os, h.tape, h.output, by simpa [World.setCell] using h.size, fun k hk hn => (Below.heap_setCell b p u k (by omega)).trans (h.block k hk hn)⟩
theorem Below.only_ {B lo hi : Nat} {W w w' : World} (h : Below B W w) (hB : B ≤ lo) (hs : B ≤ w.heap.size) (k : Only lo hi w w') : Below B W w' :=
  ⟨k.os.trans h.os, k.tape.trans h.tape, k.output.trans h.output, Nat.le_trans h.size k.size, fun i hi => (k.block i (by omega) (.inl (by omega))).trans (h.block i hi)⟩

/-- the slice at A holds m numbers, in blocks from lo to hi -/
structure RowF (w : World) (lo hi : Nat) (A : Option Addr) (m : Nat) (f : Nat → Int) : Prop where
  at_ : ∀ j, j < m → ∃ b o, A = some ⟨b, o, none⟩ ∧ lo ≤ b ∧ b < hi ∧ w.cell? ⟨b, o + j, none⟩ = some (.int .i64 (f j)) ∧ w.frozen? ⟨b, o + j, none⟩ = false
  top : hi ≤ w.heap.size
theorem RowF.only {w w' : World} {lo hi lo' hi' : Nat} {A : Option Addr} {m : Nat} {f : Nat → Int} (h : RowF w lo hi A m f) (k : Only lo' hi' w w') (hd : hi ≤ lo' ∨ hi' ≤ lo) : RowF w' lo hi A m f :=
  ⟨fun j hj => by
    obtain ⟨b, o, ha, hl, hh, hc, hf⟩ := h.at_ j hj
    have hb := k.block b (Nat.lt_of_lt_of_le hh h.top) (by omega)
    exact ⟨b, o, ha, hl, hh, (World.cell?_of_block (w := w) hb).trans hc, (World.frozen?_of_block (w := w) hb).trans hf⟩, Nat.le_trans h.top k.size⟩
theorem RowF.below {w w' : World} {lo hi : Nat} {A : Option Addr} {m : Nat} {f : Nat → Int} (h : RowF w lo hi A m f) (k : Below w.heap.size w w') : RowF w' lo hi A m f :=
  ⟨fun j hj => by
    obtain ⟨b, o, ha, hl, hh, hc, hf⟩ := h.at_ j hj
    have hb := k.block b (Nat.lt_of_lt_of_le hh h.top)
    exact ⟨b, o, ha, hl, hh, (World.cell?_of_block (w := w) hb).trans hc, (World.frozen?_of_block (w := w) hb).trans hf⟩, Nat.le_trans h.top k.size⟩
theorem RowF.congr {w : World} {lo hi : Nat} {A : Option Addr} {m : Nat} {f g : Nat → Int} (h : RowF w lo hi A m f) (he : ∀ j, j < m → f j = g j) : RowF w lo hi A m g :=
  ⟨fun j hj => by rw [← he j hj]; exact h.at_ j hj, h.top⟩
theorem RowF.wider {w : World} {lo hi lo' : Nat} {A : Option Addr} {m : Nat} {f : Nat → Int} (h : RowF w lo hi A m f) (hl : lo' ≤ lo) : RowF w lo' hi A m f :=
  ⟨fun j hj => by
    obtain ⟨b, o, ha, h1, hh, hc, hf⟩ := h.at_ j hj
    exact ⟨b, o, ha, by omega, hh, hc, hf⟩, h.top⟩
theorem RowF.none (w : World) (lo hi : Nat) (A : Option Addr) (f : Nat → Int) (hi' : hi ≤ w.heap.size) : RowF w lo hi A 0 f := ⟨fun j hj => by omega, hi'⟩
/-- a number is written -/
theorem RowF.put {w : World} {lo hi b o m k : Nat} {f : Nat → Int} (h : RowF w lo hi (some ⟨b, o, Option.none⟩) m f) (hk : k < m) (x : Int) : RowF (w.setCell ⟨b, o + k, Option.none⟩ (.int .i64 x)) lo hi (some ⟨b, o, Option.none⟩) m (fun j => if j = k then x else f j) :=
  ⟨fun j hj => by
    obtain ⟨b', o', ha, hl, hh, hc, hf⟩ := h.at_ j hj
    injection ha with ha; injection ha with e1 e2; subst e1; subst e2
    refine ⟨b, o, rfl, hl, hh, ?_, by rw [World.frozen?_setCell]; exact hf⟩
    by_cases e : j = k
    · subst e
      rw [if_pos rfl]
      exact World.cell?_setCell_same _ _ _ hc
    · rw [if_neg e, World.cell?_setCell_other _ _ _ _ (by intro e'; simp only [Addr.mk.injEq] at e'; omega)]
      exact hc, by simpa [World.setCell] using h.top⟩

set_option maxHeartbeats 1000000 in
/-- two rows that hold the same -/
theorem eqIntS_any (A A' : Option Addr) (cap cap' m : Nat) (f : Nat → Int) (lo hi lo' hi' : Nat) (w : World) (h : RowF w lo hi A m f) (h' : RowF w lo' hi' A' m f) (hm : m ≤ 1048576) :
    Calls Try.prog 19 #[.slice A m cap, .slice A' m cap'] w fun e w' => e = .returned (.bool true) ∧ Below w.heap.size w w' := by
  have HF := Lib.hid h
  have HG := Lib.hid h'
  clear h h'
  go_enter Try.func19, Try.ntmps19
  go_wp2_with fail
  go_loopw [5] (fun i wr => ∃ k : Nat, k ≤ m ∧ i = .int .i64 k ∧ Below w.heap.size w wr) (fun i _ => m - (intOf i).toNat)
  case atStart => exact ⟨0, Nat.zero_le _, rfl, by go_grown⟩
  case round =>
    obtain ⟨k, hk, rfl, hb⟩ := hrel
    have HB := Lib.hid hb
    have HF1 := HF.out.below hb
    have HG1 := HG.out.below hb
    clear hb
    by_cases hlt : k < m
    · obtain ⟨b, o, rfl, _, _, c0, _⟩ := HF1.at_ k hlt
      obtain ⟨b', o', rfl, _, _, c1, _⟩ := HG1.at_ k hlt
      have hk0 : (0 : Int) ≤ (k : Int) := by omega
      have hk1 : (k : Int) < (m : Int) := by omega
      clear HF1 HG1
      go_wp2_with fail
      go_quiet (fail)
      go_wp2_with fail
      go_roundw
      case rel => exact ⟨k + 1, by omega, by go_num, ⟨HB.out.os, HB.out.tape, HB.out.output, HB.out.size, HB.out.block⟩⟩
      case measure => simp [intOf]; omega
    · go_wp2_with fail
      go_ret
      exact ⟨rfl, HB.out⟩
set_option maxHeartbeats 1000000 in
theorem sameInts_any (A A' : Option Addr) (cap cap' m : Nat) (f : Nat → Int) (lo hi lo' hi' : Nat) (w : World) (h : RowF w lo hi A m f) (h' : RowF w lo' hi' A' m f) (hm : m ≤ 1048576) :
    Calls Try.prog 8 #[.slice A m cap, .slice A' m cap'] w fun e w' => e = .returned (.bool true) ∧ Below w.heap.size w w' := by
  have HF := Lib.hid h
  have HG := Lib.hid h'
  clear h h'
  go_enter Try.func8, Try.ntmps8
  go_wp2_with fail
  go_loopw [5] (fun i wr => ∃ k : Nat, k ≤ m ∧ i = .int .i64 k ∧ Below w.heap.size w wr) (fun i _ => m - (intOf i).toNat)
  case atStart => exact ⟨0, Nat.zero_le _, rfl, by go_grown⟩
  case round =>
    obtain ⟨k, hk, rfl, hb⟩ := hrel
    have HB := Lib.hid hb
    have HF1 := HF.out.below hb
    have HG1 := HG.out.below hb
    clear hb
    by_cases hlt : k < m
    · obtain ⟨b, o, rfl, _, _, c0, _⟩ := HF1.at_ k hlt
      obtain ⟨b', o', rfl, _, _, c1, _⟩ := HG1.at_ k hlt
      have hk0 : (0 : Int) ≤ (k : Int) := by omega
      have hk1 : (k : Int) < (m : Int) := by omega
      clear HF1 HG1
      go_wp2_with fail
      go_quiet (fail)
      go_wp2_with fail
      go_roundw
      case rel => exact ⟨k + 1, by omega, by go_num, ⟨HB.out.os, HB.out.tape, HB.out.output, HB.out.size, HB.out.block⟩⟩
      case measure => simp [intOf]; omega
    · go_wp2_with fail
      go_ret
      exact ⟨rfl, HB.out⟩
set_option maxHeartbeats 1000000 in
theorem markIntS_any (A : Option Addr) (cap m : Nat) (f : Nat → Int) (q : Int) (lo hi : Nat) (w : World) (h : RowF w lo hi A m f) (hm : m ≤ 1048576) (hq0 : 0 ≤ q) (hq1 : q ≤ 1048576) :
    Calls Try.prog 21 #[.slice A m cap, .int .i64 q] w fun e w' => e = .returned (.int .i64 (q + m)) ∧ RowF w' lo hi A m (fun j => q + j) ∧ Only lo hi w w' := by
  have HF := Lib.hid h
  clear h
  go_enter Try.func21, Try.ntmps21
  go_wp2_with fail
  go_loopw [1, 5] (fun u i wr => ∃ k : Nat, k ≤ m ∧ u = .int .i64 (q + k) ∧ i = .int .i64 k ∧ Only lo hi w wr ∧ RowF wr lo hi A m (fun j => if j < k then q + j else f j)) (fun _ i _ => m - (intOf i).toNat)
  case atStart => exact ⟨0, Nat.zero_le _, by simp, rfl, Only.refl _ _ _, HF.out.congr (fun j _ => by simp)⟩
  case round =>
    obtain ⟨k, hk, rfl, rfl, ho, hf⟩ := hrel
    have HO := Lib.hid ho
    have HG := Lib.hid hf
    clear ho hf
    by_cases hlt : k < m
    · obtain ⟨b, o, rfl, hl, hh, c0, f0⟩ := HG.out.at_ k hlt
      have hk0 : (0 : Int) ≤ (k : Int) := by omega
      have hk1 : (k : Int) < (m : Int) := by omega
      rw [if_neg (by omega)] at c0
      go_wp2_with fail
      go_roundw
      case rel => exact ⟨k + 1, by omega, by go_num, by go_num, HO.out.setCell ⟨hl, hh⟩ _, (HG.out.put hlt (q + k)).congr (fun j _ => by (try dsimp only); split <;> split <;> (try split) <;> omega)⟩
      case measure => simp [intOf]; omega
    · have hkm : k = m := by omega
      subst hkm
      go_wp2_with fail
      go_ret
      exact ⟨rfl, HG.out.congr (fun j hj => by rw [if_pos hj]), HO.out⟩
set_option maxHeartbeats 1000000 in
theorem heldIntS_any (A : Option Addr) (cap m : Nat) (q : Int) (lo hi : Nat) (w : World) (h : RowF w lo hi A m (fun j => q + j)) (hm : m ≤ 1048576) (hq0 : 0 ≤ q) (hq1 : q ≤ 1048576) :
    Calls Try.prog 22 #[.slice A m cap, .int .i64 q] w fun e w' => e = .returned (.int .i64 (q + m)) ∧ Below w.heap.size w w' := by
  have HF := Lib.hid h
  clear h
  go_enter Try.func22, Try.ntmps22
  go_wp2_with fail
  go_loopw [1, 5] (fun u i wr => ∃ k : Nat, k ≤ m ∧ u = .int .i64 (q + k) ∧ i = .int .i64 k ∧ Below w.heap.size w wr) (fun _ i _ => m - (intOf i).toNat)
  case atStart => exact ⟨0, Nat.zero_le _, by simp, rfl, by go_grown⟩
  case round =>
    obtain ⟨k, hk, rfl, rfl, hb⟩ := hrel
    have HB := Lib.hid hb
    have HF1 := HF.out.below hb
    clear hb
    by_cases hlt : k < m
    · obtain ⟨b, o, rfl, _, _, c0, _⟩ := HF1.at_ k hlt
      have hk0 : (0 : Int) ≤ (k : Int) := by omega
      have hk1 : (k : Int) < (m : Int) := by omega
      clear HF1
      go_wp2_with fail
      go_roundw
      case rel => exact ⟨k + 1, by omega, by go_num, by go_num, ⟨HB.out.os, HB.out.tape, HB.out.output, HB.out.size, HB.out.block⟩⟩
      case measure => simp [intOf]; omega
    · have hkm : k = m := by omega
      subst hkm
      go_wp2_with fail
      go_ret
      exact ⟨rfl, HB.out⟩
end Go.Proofs.Ytnbihejoglgdhaa
