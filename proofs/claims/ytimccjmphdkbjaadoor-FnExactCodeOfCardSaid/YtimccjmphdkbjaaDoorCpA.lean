/- What the exact laws call of pairs: copies, and whether they are alike; they are marked, and held. -/
import Derived.Test.YtimccjmphdkbjaaDoorCuA
set_option linter.unusedSimpArgs false
set_option linter.unusedVariables false
attribute [local go_sem ↓] Go.wp_at_zero Go.wp_at_succ
namespace Go.Proofs.YtimccjmphdkbjaaDoor
open Go.ChangeShapes Go.WideShapes Go.ChangeAt Go.RowKit

theorem toPair_any (x : Int × Int) (w : World) :
    Calls Tryd.prog 59 #[.agg #[.int .i64 x.1, .int .i64 x.2]] w fun e w' => e = .returned (.agg #[.int .i64 x.1, .int .i64 x.2]) ∧ Below w.heap.size w w' := by
  go_enter Tryd.func59, Tryd.ntmps59
  go_wp2_with fail
  exact bodyPost_ret (v := .agg #[.int .i64 x.1, .int .i64 x.2]) (by simp [results, Tryd.results59, go_sem]) rfl ⟨rfl, by go_grown⟩
theorem eqPair_any (x : Int × Int) (w : World) :
    Calls Tryd.prog 60 #[.agg #[.int .i64 x.1, .int .i64 x.2], .agg #[.int .i64 x.1, .int .i64 x.2]] w fun e w' => e = .returned (.bool true) ∧ Below w.heap.size w w' := by
  go_enter Tryd.func60, Tryd.ntmps60
  go_wp2_with fail
  go_ret
  exact ⟨rfl, by go_grown⟩
theorem infoPair : (Tryd.prog.info? 28).map (fun i => (i.zero, i.size, i.bytes)) = some (some (.agg #[.int .i64 0, .int .i64 0]), 2, 16) := by kernel_rfl
set_option maxHeartbeats 400000 in
theorem toPairS_any (A : Option Addr) (cap : Nat) (cs : List (Int × Int)) (w : World) (hr : RC w w.heap.size A cs) (hm : cs.length ≤ 1048576) :
    Calls Tryd.prog 27 #[.slice A cs.length cap] w (RetCuts cs w) := by
  obtain ⟨i0, hi0, hz0, hz1, hz2⟩ := info_parts infoPair
  have hmk := fun W => run_make_rowN (P := Tryd.prog) 23 28 i0 _ Tryd.underlying23 hi0 hz0 .i64 .i64 cs.length cs.length (Nat.le_refl _) (by rw [hz2]; omega) (by omega) W
  rw [hz1] at hmk
  have hms : (madeCells (Value.agg #[.int .i64 0, .int .i64 0]).cells (cs.length * 2)).size = cs.length * 2 := by simp [madeCells]
  generalize madeCells (Value.agg #[.int .i64 0, .int .i64 0]).cells (cs.length * 2) = made at hmk hms
  have HR := Lib.hid hr
  have HS := Lib.hid hms
  clear hr hz0 hz1 hz2 hi0 hms
  go_enter Tryd.func27, Tryd.ntmps27
  go_wp2_with fail
  clear hmk
  go_loopw [4] (fun i wr => ∃ k : Nat, k ≤ cs.length ∧ i = .int .i64 k ∧ Below w.heap.size w wr ∧ Row2 wr w.heap.size 28 cs k) (fun i _ => cs.length - (intOf i).toNat)
  case atStart => exact ⟨0, Nat.zero_le _, rfl, by go_grown, Row2.made w _ cs _ HS.out⟩
  case round =>
    obtain ⟨k, hk, rfl, hb, hrow⟩ := hrel
    have hz := hrow.lt
    by_cases hlt : k < cs.length
    · obtain ⟨x, hx⟩ : ∃ x, cs[k]? = some x := ⟨_, List.getElem?_eq_getElem hlt⟩
      obtain ⟨b, o, rfl, hB, c0, c1⟩ := HR.out.below hb k x hx
      have HX := Lib.hid hx
      have HROW := Lib.hid hrow
      clear hx hrow
      go_wp2_with fail
      refine (toPair_any _ _).mono ?_; rintro e w1 ⟨rfl, hb1⟩
      have hrow1 := HROW.out.below hb1
      have hz1 := hrow1.lt
      obtain ⟨⟨u0, d0⟩, e0⟩ := hrow1.cell (k * 2) (by omega)
      obtain ⟨⟨u1, d1⟩, e1⟩ := hrow1.cell (k * 2 + 1) (by omega)
      have HB1 := Lib.hid (bstep hb (by omega) hb1)
      have HROW1 := Lib.hid hrow1
      clear hrow1 hb1
      go_wp2_with fail
      go_roundw
      case rel => exact ⟨k + 1, by omega, by go_num, by have := HB1.out; go_grown, HROW1.out.write x HX.out⟩
      case measure => simp [intOf]; omega
    · have HROW := Lib.hid hrow
      clear hrow
      go_wp2_with fail
      go_ret
      have hk' : k = cs.length := by omega
      subst hk'
      exact ⟨w.heap.size, Nat.le_refl _, HROW.out.lt, rfl, HROW.out.rc, hb⟩
theorem szPairS_any (A : Option Addr) (len cap : Nat) (l : Int) (w : World) (hm : len ≤ 9223372036854775807) (l0 : 0 ≤ l) (l1 : l ≤ 1048576) :
    Calls Tryd.prog 26 #[.slice A len cap, .int .i64 l] w fun e w' => e = .returned (.int .i64 (if (len : Int) ≤ l then l - len else -1)) ∧ w = w' := by
  by_cases h : (len : Int) ≤ l
  · rw [if_pos h]
    go_enter Tryd.func26, Tryd.ntmps26
    go_wp2_with fail
    go_ret
    exact ⟨rfl, rfl⟩
  · rw [if_neg h]
    go_enter Tryd.func26, Tryd.ntmps26
    go_wp2_with fail
    go_ret
    exact ⟨rfl, rfl⟩
set_option maxHeartbeats 400000 in
theorem eqPairS_any (A B : Option Addr) (cap cap' : Nat) (cs : List (Int × Int)) (w : World) (hr : RC w w.heap.size A cs) (hr' : RC w w.heap.size B cs) (hm : cs.length ≤ 1048576) :
    Calls Tryd.prog 28 #[.slice A cs.length cap, .slice B cs.length cap'] w fun e w' => e = .returned (.bool true) ∧ Below w.heap.size w w' := by
  have HR := Lib.hid hr
  have HR' := Lib.hid hr'
  clear hr hr'
  go_enter Tryd.func28, Tryd.ntmps28
  go_wp2_with fail
  go_loopw [5] (fun i wr => ∃ k : Nat, k ≤ cs.length ∧ i = .int .i64 k ∧ Below w.heap.size w wr) (fun i _ => cs.length - (intOf i).toNat)
  case atStart => exact ⟨0, Nat.zero_le _, rfl, Below.refl _ _⟩
  case round =>
    obtain ⟨k, hk, rfl, hb⟩ := hrel
    by_cases hlt : k < cs.length
    · obtain ⟨x, hx⟩ : ∃ x, cs[k]? = some x := ⟨_, List.getElem?_eq_getElem hlt⟩
      obtain ⟨b, o, rfl, hB, c0, c1⟩ := HR.out.below hb k x hx
      obtain ⟨b', o', rfl, hB', c0', c1'⟩ := HR'.out.below hb k x hx
      have HX := Lib.hid hx
      have hlt' : (k : Int) < (cs.length : Int) := by omega
      have hk0 : (0 : Int) ≤ (k : Int) := by omega
      clear hx
      have hlb : b < wr.heap.size := by have := hb.size; omega
      have hlb' : b' < wr.heap.size := by have := hb.size; omega
      go_wp2_with fail
      go_region_held3 (fun w' => w'.cell? ⟨b, o + k * 2, none⟩ = some (.int .i64 x.1) ∧ w'.cell? ⟨b, o + k * 2 + 1, none⟩ = some (.int .i64 x.2) ∧
          w'.cell? ⟨b', o' + k * 2, none⟩ = some (.int .i64 x.1) ∧ w'.cell? ⟨b', o' + k * 2 + 1, none⟩ = some (.int .i64 x.2))
        (first | exact ⟨c0, c1, c0', c1'⟩ | exact ⟨(hb1.cell hlb).trans c0, (hb1.cell hlb).trans c1, (hb1.cell hlb').trans c0', (hb1.cell hlb').trans c1'⟩)
        (first | (go_at_call 60; refine (eqPair_any x _).mono ?_; rintro e w1 ⟨rfl, hb1⟩))
      have HB1 := Lib.hid (bstep (B := w.heap.size) (W := w) (hb.drew) (by have := hb.size; simpa using this) hb1)
      clear hb1
      go_wp2_with fail
      go_roundw
      case rel => exact ⟨k + 1, by omega, by go_num, HB1.out⟩
      case measure => simp [intOf]; omega
    · go_wp2_with fail
      go_ret
      exact ⟨rfl, hb⟩

set_option maxHeartbeats 1000000 in
theorem markPairS_any (A : Option Addr) (cap m : Nat) (f : Nat → Int) (q : Int) (lo hi : Nat) (w : World) (h : RowF w lo hi A (m * 2) f) (hm : m ≤ 1048576) (hq0 : 0 ≤ q) (hq1 : q ≤ 1048576) :
    Calls Tryd.prog 30 #[.slice A m cap, .int .i64 q] w fun e w' => e = .returned (.int .i64 (q + m * 2)) ∧ RowF w' lo hi A (m * 2) (fun j => q + j) ∧ Only lo hi w w' := by
  have HF := Lib.hid h
  clear h
  go_enter Tryd.func30, Tryd.ntmps30
  go_wp2_with fail
  go_loopw [1, 5] (fun u i wr => ∃ k : Nat, k ≤ m ∧ u = .int .i64 (q + k * 2) ∧ i = .int .i64 k ∧ Only lo hi w wr ∧ RowF wr lo hi A (m * 2) (fun j => if j < k * 2 then q + j else f j)) (fun _ i _ => m - (intOf i).toNat)
  case atStart => exact ⟨0, Nat.zero_le _, by simp, rfl, Only.refl _ _ _, HF.out.congr (fun j _ => by simp)⟩
  case round =>
    obtain ⟨k, hk, rfl, rfl, ho, hf⟩ := hrel
    have HO := Lib.hid ho
    have HG := Lib.hid hf
    clear ho hf
    by_cases hlt : k < m
    · obtain ⟨b, o, rfl, hl, hh, c0, f0⟩ := HG.out.at_ (k * 2) (by omega)
      obtain ⟨b', o', e', _, _, c1, f1⟩ := HG.out.at_ (k * 2 + 1) (by omega)
      injection e' with e'; injection e' with e1 e2; subst e1; subst e2
      have hk0 : (0 : Int) ≤ (k : Int) := by omega
      have hk1 : (k : Int) < (m : Int) := by omega
      rw [if_neg (by omega)] at c0 c1
      rw [← Nat.add_assoc] at c1 f1
      go_wp2_with fail
      go_roundw
      case rel => exact ⟨k + 1, by omega, by go_num, by go_num, (HO.out.setCell ⟨hl, hh⟩ _).setCell ⟨hl, hh⟩ _, ((HG.out.put (k := k * 2) (by omega) (q + k * 2)).put (k := k * 2 + 1) (by omega) (q + k * 2 + 1)).congr (fun j _ => by (try dsimp only); split <;> (try split) <;> (try split) <;> omega)⟩
      case measure => simp [intOf]; omega
    · have hkm : k = m := by omega
      subst hkm
      go_wp2_with fail
      go_ret
      exact ⟨rfl, HG.out.congr (fun j hj => by rw [if_pos hj]), HO.out⟩
end Go.Proofs.YtimccjmphdkbjaaDoor
