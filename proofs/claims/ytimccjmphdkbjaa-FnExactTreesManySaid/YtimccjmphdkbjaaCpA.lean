/- What the exact laws call of pairs: copies, and whether they are alike; they are marked, and held. -/
import Derived.Test.YtimccjmphdkbjaaCuA
set_option linter.unusedSimpArgs false
set_option linter.unusedVariables false
attribute [local go_sem ↓] Go.wp_at_zero Go.wp_at_succ
namespace Go.Proofs.Ytimccjmphdkbjaa
open Go.ChangeShapes Go.WideShapes Go.ChangeAt Go.RowKit

theorem eqPair_any (x : Int × Int) (w : World) :
    Calls Try.prog 35 #[.agg #[.int .i64 x.1, .int .i64 x.2], .agg #[.int .i64 x.1, .int .i64 x.2]] w fun e w' => e = .returned (.bool true) ∧ Below w.heap.size w w' := by
  go_enter Try.func35, Try.ntmps35
  go_wp2_with fail
  go_ret
  exact ⟨rfl, by go_grown⟩
set_option maxHeartbeats 400000 in
theorem eqPairS_any (A B : Option Addr) (cap cap' : Nat) (cs : List (Int × Int)) (w : World) (hr : RC w w.heap.size A cs) (hr' : RC w w.heap.size B cs) (hm : cs.length ≤ 1048576) :
    Calls Try.prog 18 #[.slice A cs.length cap, .slice B cs.length cap'] w fun e w' => e = .returned (.bool true) ∧ Below w.heap.size w w' := by
  have HR := Lib.hid hr
  have HR' := Lib.hid hr'
  clear hr hr'
  go_enter Try.func18, Try.ntmps18
  go_wp2_with fail
  go_loopw [5] (fun i wr => ∃ k : Nat, k ≤ cs.length ∧ i = .int .i64 k ∧ Below w.heap.size w wr) (fun i _ => cs.length - (intOf i).toNat)
  case atStart => exact ⟨0, Nat.zero_le _, rfl, Below.refl _ _⟩
  case round =>
    obtain ⟨k, hk, rfl, hb⟩ := hrel
    by_cases hlt : k < cs.length
    · obtain ⟨x, hx⟩ : ∃ x, cs[k]? = some x := ⟨_, List.getElem?_eq_getElem hlt⟩
      obtain ⟨b, o, rfl, hB, c0, c1⟩ := HR.out.below hb k x hx
      obtain ⟨b', o', rfl, hB', c0', c1'⟩ := HR'.out.below hb k x hx
      have HX := Lib.hid hx
      have hlt' : (k : Int) < (cs.length : Int) := by omega
      have hk0 : (0 : Int) ≤ (k : Int) := by omega
      clear hx
      have hlb : b < wr.heap.size := by have := hb.size; omega
      have hlb' : b' < wr.heap.size := by have := hb.size; omega
      go_wp2_with fail
      go_region_held3 (fun w' => w'.cell? ⟨b, o + k * 2, none⟩ = some (.int .i64 x.1) ∧ w'.cell? ⟨b, o + k * 2 + 1, none⟩ = some (.int .i64 x.2) ∧
          w'.cell? ⟨b', o' + k * 2, none⟩ = some (.int .i64 x.1) ∧ w'.cell? ⟨b', o' + k * 2 + 1, none⟩ = some (.int .i64 x.2))
        (first | exact ⟨c0, c1, c0', c1'⟩ | exact ⟨(hb1.cell hlb).trans c0, (hb1.cell hlb).trans c1, (hb1.cell hlb').trans c0', (hb1.cell hlb').trans c1'⟩)
        (first | (go_at_call 35; refine (eqPair_any x _).mono ?_; rintro e w1 ⟨rfl, hb1⟩))
      have HB1 := Lib.hid (bstep (B := w.heap.size) (W := w) (hb.drew) (by have := hb.size; simpa using this) hb1)
      clear hb1
      go_wp2_with fail
      go_roundw
      case rel => exact ⟨k + 1, by omega, by go_num, HB1.out⟩
      case measure => simp [intOf]; omega
    · go_wp2_with fail
      go_ret
      exact ⟨rfl, hb⟩

set_option maxHeartbeats 1000000 in
theorem markPairS_any (A : Option Addr) (cap m : Nat) (f : Nat → Int) (q : Int) (lo hi : Nat) (w : World) (h : RowF w lo hi A (m * 2) f) (hm : m ≤ 1048576) (hq0 : 0 ≤ q) (hq1 : q ≤ 1048576) :
    Calls Try.prog 20 #[.slice A m cap, .int .i64 q] w fun e w' => e = .returned (.int .i64 (q + m * 2)) ∧ RowF w' lo hi A (m * 2) (fun j => q + j) ∧ Only lo hi w w' := by
  have HF := Lib.hid h
  clear h
  go_enter Try.func20, Try.ntmps20
  go_wp2_with fail
  go_loopw [1, 5] (fun u i wr => ∃ k : Nat, k ≤ m ∧ u = .int .i64 (q + k * 2) ∧ i = .int .i64 k ∧ Only lo hi w wr ∧ RowF wr lo hi A (m * 2) (fun j => if j < k * 2 then q + j else f j)) (fun _ i _ => m - (intOf i).toNat)
  case atStart => exact ⟨0, Nat.zero_le _, by simp, rfl, Only.refl _ _ _, HF.out.congr (fun j _ => by simp)⟩
  case round =>
    obtain ⟨k, hk, rfl, rfl, ho, hf⟩ := hrel
    have HO := Lib.hid ho
    have HG := Lib.hid hf
    clear ho hf
    by_cases hlt : k < m
    · obtain ⟨b, o, rfl, hl, hh, c0, f0⟩ := HG.out.at_ (k * 2) (by omega)
      obtain ⟨b', o', e', _, _, c1, f1⟩ := HG.out.at_ (k * 2 + 1) (by omega)
      injection e' with e'; injection e' with e1 e2; subst e1; subst e2
      have hk0 : (0 : Int) ≤ (k : Int) := by omega
      have hk1 : (k : Int) < (m : Int) := by omega
      rw [if_neg (by omega)] at c0 c1
      rw [← Nat.add_assoc] at c1 f1
      go_wp2_with fail
      go_roundw
      case rel => exact ⟨k + 1, by omega, by go_num, by go_num, (HO.out.setCell ⟨hl, hh⟩ _).setCell ⟨hl, hh⟩ _, ((HG.out.put (k := k * 2) (by omega) (q + k * 2)).put (k := k * 2 + 1) (by omega) (q + k * 2 + 1)).congr (fun j _ => by (try dsimp only); split <;> (try split) <;> (try split) <;> omega)⟩
      case measure => simp [intOf]; omega
    · have hkm : k = m := by omega
      subst hkm
      go_wp2_with fail
      go_ret
      exact ⟨rfl, HG.out.congr (fun j hj => by rw [if_pos hj]), HO.out⟩
set_option maxHeartbeats 1000000 in
theorem heldPairS_any (A : Option Addr) (cap m : Nat) (q : Int) (lo hi : Nat) (w : World) (h : RowF w lo hi A (m * 2) (fun j => q + j)) (hm : m ≤ 1048576) (hq0 : 0 ≤ q) (hq1 : q ≤ 1048576) :
    Calls Try.prog 21 #[.slice A m cap, .int .i64 q] w fun e w' => e = .returned (.int .i64 (q + m * 2)) ∧ Below w.heap.size w w' := by
  have HF := Lib.hid h
  clear h
  go_enter Try.func21, Try.ntmps21
  go_wp2_with fail
  go_loopw [1, 5] (fun u i wr => ∃ k : Nat, k ≤ m ∧ u = .int .i64 (q + k * 2) ∧ i = .int .i64 k ∧ Below w.heap.size w wr) (fun _ i _ => m - (intOf i).toNat)
  case atStart => exact ⟨0, Nat.zero_le _, by simp, rfl, by go_grown⟩
  case round =>
    obtain ⟨k, hk, rfl, rfl, hb⟩ := hrel
    have HB := Lib.hid hb
    have HF1 := HF.out.below hb
    clear hb
    by_cases hlt : k < m
    · obtain ⟨b, o, rfl, _, _, c0, _⟩ := HF1.at_ (k * 2) (by omega)
      obtain ⟨b', o', e', _, _, c1, _⟩ := HF1.at_ (k * 2 + 1) (by omega)
      injection e' with e'; injection e' with e1 e2; subst e1; subst e2
      have hk0 : (0 : Int) ≤ (k : Int) := by omega
      have hk1 : (k : Int) < (m : Int) := by omega
      rw [← Nat.add_assoc] at c1
      have c0' : wr.cell? ⟨b, o + k * 2, none⟩ = some (.int .i64 (q + k * 2)) := by rw [c0]; simp
      have c1' : wr.cell? ⟨b, o + k * 2 + 1, none⟩ = some (.int .i64 (q + k * 2 + 1)) := by rw [c1]; simp; omega
      clear HF1 c0 c1
      go_wp2_with fail
      go_roundw
      case rel => exact ⟨k + 1, by omega, by go_num, by go_num, ⟨HB.out.os, HB.out.tape, HB.out.output, HB.out.size, HB.out.block⟩⟩
      case measure => simp [intOf]; omega
    · have hkm : k = m := by omega
      subst hkm
      go_wp2_with fail
      go_ret
      exact ⟨rfl, HB.out⟩
end Go.Proofs.Ytimccjmphdkbjaa
