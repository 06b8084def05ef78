/- Three numbers sorted; rowsOf, columnsOf, middle, HalfRound, MiddleOf of the program. -/
import Derived.Test.YtgnjjiljipgbnaaDoorPoIa
import Derived.Deep.QuietTactic
import Derived.BigQuiet
set_option linter.unusedSimpArgs false
set_option linter.unusedVariables false
attribute [local go_sem ↓] Go.wp_at_zero Go.wp_at_succ
namespace Go.Proofs.YtgnjjiljipgbnaaDoor
open Go.ChangeShapes Go.WideShapes Go.ChangeAt Go.RowKit

/-- a block that holds three numbers -/
structure Three (w : World) (b : Nat) (t : TypeId) (p q r : Int) : Prop where
  blk : w.heap[b]? = some (.cells #[.int .i64 p, .int .i64 q, .int .i64 r] t (0, 0))
theorem Three.lt {w : World} {b : Nat} {t : TypeId} {p q r : Int} (h : Three w b t p q r) : b < w.heap.size := (Array.getElem?_eq_some_iff.1 h.blk).1
theorem Three.cells {w : World} {b : Nat} {t : TypeId} {p q r : Int} (h : Three w b t p q r) : w.cell? ⟨b, 0, none⟩ = some (.int .i64 p) ∧ w.cell? ⟨b, 1, none⟩ = some (.int .i64 q) ∧ w.cell? ⟨b, 2, none⟩ = some (.int .i64 r) ∧ w.frozen? ⟨b, 0, none⟩ = false ∧ w.frozen? ⟨b, 1, none⟩ = false ∧ w.frozen? ⟨b, 2, none⟩ = false :=
  ⟨cell_of_row _ _ 0 _ _ (0, 0) h.blk, cell_of_row _ _ 1 _ _ (0, 0) h.blk, cell_of_row _ _ 2 _ _ (0, 0) h.blk, by simp [World.frozen?, h.blk], by simp [World.frozen?, h.blk], by simp [World.frozen?, h.blk]⟩
theorem Three.drewN {w : World} {b : Nat} {t : TypeId} {p q r : Int} (h : Three w b t p q r) (k : Nat) : Three (w.drewN k) b t p q r := ⟨h.blk⟩
theorem Three.swap10 {w : World} {b : Nat} {t : TypeId} {p q r : Int} (h : Three w b t p q r) : Three ((w.setCell ⟨b, 1, none⟩ (.int .i64 p)).setCell ⟨b, 0, none⟩ (.int .i64 q)) b t q p r := by
  refine ⟨?_⟩
  simp [World.setCell, Array.getElem?_modify, h.blk]
theorem Three.swap21 {w : World} {b : Nat} {t : TypeId} {p q r : Int} (h : Three w b t p q r) : Three ((w.setCell ⟨b, 2, none⟩ (.int .i64 q)).setCell ⟨b, 1, none⟩ (.int .i64 r)) b t p r q := by
  refine ⟨?_⟩
  simp [World.setCell, Array.getElem?_modify, h.blk]
theorem below_put2 {B : Nat} {w w' : World} (h : Below B w w') {b i j : Nat} (hB : B ≤ b) (u v : Value) : Below B w ((w'.setCell ⟨b, i, none⟩ u).setCell ⟨b, j, none⟩ v) := (h.setCell (p := ⟨b, i, none⟩) hB u).setCell (p := ⟨b, j, none⟩) hB v
/-- how far the sort of three has come, behind its rounds below i -/
def St3 (x y z : Int) (i : Nat) (p q r : Int) : Prop := (i = 1 ∧ p = x ∧ q = y ∧ r = z) ∨ (i = 2 ∧ p = min x y ∧ q = max x y ∧ r = z) ∨ (i = 3 ∧ q = mid3 x y z)
def In1 (x y z : Int) (j : Nat) (p q r : Int) : Prop := (j = 1 ∧ p = x ∧ q = y ∧ r = z) ∨ (j = 0 ∧ y < x ∧ p = y ∧ q = x ∧ r = z)
def In2 (P Q z : Int) (j : Nat) (p q r : Int) : Prop := (j = 2 ∧ p = P ∧ q = Q ∧ r = z) ∨ (j = 1 ∧ z < Q ∧ p = P ∧ q = z ∧ r = Q) ∨ (j = 0 ∧ z < P ∧ p = z ∧ q = P ∧ r = Q)
set_option maxHeartbeats 2000000 in
theorem rowsOf_any (Ap : Option Addr) (cp : Nat) (ps : List (Int × Int)) (w : World) (hp : RC w w.heap.size Ap ps) (hpm : ps.length ≤ 1048576) :
    Calls Tryd.prog 26 #[.slice Ap ps.length cp] w fun e w' => ∃ b, w.heap.size ≤ b ∧ e = .returned (.slice (some ⟨b, 0, none⟩) ps.length ps.length) ∧ Row1 w' b 3 (ps.map Prod.fst) ps.length ∧ Below w.heap.size w w' := by
  obtain ⟨L, hL⟩ : ∃ L, ps.map Prod.fst = L := ⟨_, rfl⟩
  have HLEN : Hid (L.length = ps.length) := by show _ = _; rw [← hL]; simp
  have HAT : Hid (∀ k x, ps[k]? = some x → L[k]? = some (Prod.fst x)) := fun k x h => by rw [← hL, List.getElem?_map, h]; rfl
  rw [hL]
  obtain ⟨i0, hi0, hz0, hz1, hz2⟩ := info_parts infoInt
  have hmk := fun W => run_make_rowN (P := Tryd.prog) 38 3 i0 _ Tryd.underlying38 hi0 hz0 .i64 .i64 ps.length ps.length (Nat.le_refl _) (by rw [hz2]; omega) (by omega) W
  rw [hz1] at hmk
  have hms : (madeCells (Value.int .i64 0).cells (ps.length * 1)).size = ps.length := by simp [madeCells]
  generalize madeCells (Value.int .i64 0).cells (ps.length * 1) = made at hmk hms
  have HP := Lib.hid hp
  have HS : Hid (made.size = L.length) := by show _ = _; rw [hms, HLEN.out]
  clear hp hz0 hz1 hz2 hi0 hms hL
  go_enter Tryd.func26, Tryd.ntmps26
  go_wp2_with fail
  clear hmk
  go_loopw [11] (fun i wr => ∃ k : Nat, k ≤ ps.length ∧ i = .int .i64 k ∧ Below w.heap.size w wr ∧ Row1 wr w.heap.size 3 L k) (fun i _ => ps.length - (intOf i).toNat)
  case atStart => exact ⟨0, Nat.zero_le _, rfl, by go_grown, Row1.made w _ L _ HS.out⟩
  case round =>
    obtain ⟨k, hk, rfl, hb, hrow⟩ := hrel
    have hz := hrow.lt
    by_cases hlt : k < ps.length
    · obtain ⟨⟨pa, pb⟩, hx⟩ : ∃ x, ps[k]? = some x := ⟨_, List.getElem?_eq_getElem hlt⟩
      obtain ⟨b, o, rfl, hB, c0, c1⟩ := HP.out.below hb k _ hx
      simp only at c0 c1
      have HX : Hid (L[k]? = some pa) := HAT.out k _ hx
      obtain ⟨⟨u0, d0⟩, e0⟩ := hrow.cell k (by rw [HLEN.out]; exact hlt)
      have HROW := Lib.hid hrow
      have HB := Lib.hid hb
      have hk0 : (0 : Int) ≤ (k : Int) := by omega
      have hk1 : (k : Int) < (ps.length : Int) := by omega
      clear hx hrow hb
      go_wp2_with fail
      go_roundw
      case rel => exact ⟨k + 1, by omega, by go_num, by have := HB.out; go_grown, (HROW.out.write pa HX.out).keep (heap_alloc_old _ _ (by simpa [World.setCell] using hz))⟩
      case measure => (simp [intOf]) <;> omega
    · obtain rfl : k = ps.length := by omega
      have HROW := Lib.hid hrow
      have HB := Lib.hid hb
      clear hrow hb
      go_wp2_with fail
      go_ret
      exact ⟨w.heap.size, Nat.le_refl _, rfl, HROW.out, HB.out⟩
set_option maxHeartbeats 2000000 in
theorem columnsOf_any (Ap : Option Addr) (cp : Nat) (ps : List (Int × Int)) (w : World) (hp : RC w w.heap.size Ap ps) (hpm : ps.length ≤ 1048576) :
    Calls Tryd.prog 27 #[.slice Ap ps.length cp] w fun e w' => ∃ b, w.heap.size ≤ b ∧ e = .returned (.slice (some ⟨b, 0, none⟩) ps.length ps.length) ∧ Row1 w' b 3 (ps.map Prod.snd) ps.length ∧ Below w.heap.size w w' := by
  obtain ⟨L, hL⟩ : ∃ L, ps.map Prod.snd = L := ⟨_, rfl⟩
  have HLEN : Hid (L.length = ps.length) := by show _ = _; rw [← hL]; simp
  have HAT : Hid (∀ k x, ps[k]? = some x → L[k]? = some (Prod.snd x)) := fun k x h => by rw [← hL, List.getElem?_map, h]; rfl
  rw [hL]
  obtain ⟨i0, hi0, hz0, hz1, hz2⟩ := info_parts infoInt
  have hmk := fun W => run_make_rowN (P := Tryd.prog) 38 3 i0 _ Tryd.underlying38 hi0 hz0 .i64 .i64 ps.length ps.length (Nat.le_refl _) (by rw [hz2]; omega) (by omega) W
  rw [hz1] at hmk
  have hms : (madeCells (Value.int .i64 0).cells (ps.length * 1)).size = ps.length := by simp [madeCells]
  generalize madeCells (Value.int .i64 0).cells (ps.length * 1) = made at hmk hms
  have HP := Lib.hid hp
  have HS : Hid (made.size = L.length) := by show _ = _; rw [hms, HLEN.out]
  clear hp hz0 hz1 hz2 hi0 hms hL
  go_enter Tryd.func27, Tryd.ntmps27
  go_wp2_with fail
  clear hmk
  go_loopw [11] (fun i wr => ∃ k : Nat, k ≤ ps.length ∧ i = .int .i64 k ∧ Below w.heap.size w wr ∧ Row1 wr w.heap.size 3 L k) (fun i _ => ps.length - (intOf i).toNat)
  case atStart => exact ⟨0, Nat.zero_le _, rfl, by go_grown, Row1.made w _ L _ HS.out⟩
  case round =>
    obtain ⟨k, hk, rfl, hb, hrow⟩ := hrel
    have hz := hrow.lt
    by_cases hlt : k < ps.length
    · obtain ⟨⟨pa, pb⟩, hx⟩ : ∃ x, ps[k]? = some x := ⟨_, List.getElem?_eq_getElem hlt⟩
      obtain ⟨b, o, rfl, hB, c0, c1⟩ := HP.out.below hb k _ hx
      simp only at c0 c1
      have HX : Hid (L[k]? = some pb) := HAT.out k _ hx
      obtain ⟨⟨u0, d0⟩, e0⟩ := hrow.cell k (by rw [HLEN.out]; exact hlt)
      have HROW := Lib.hid hrow
      have HB := Lib.hid hb
      have hk0 : (0 : Int) ≤ (k : Int) := by omega
      have hk1 : (k : Int) < (ps.length : Int) := by omega
      clear hx hrow hb
      go_wp2_with fail
      go_roundw
      case rel => exact ⟨k + 1, by omega, by go_num, by have := HB.out; go_grown, (HROW.out.write pb HX.out).keep (heap_alloc_old _ _ (by simpa [World.setCell] using hz))⟩
      case measure => (simp [intOf]) <;> omega
    · obtain rfl : k = ps.length := by omega
      have HROW := Lib.hid hrow
      have HB := Lib.hid hb
      clear hrow hb
      go_wp2_with fail
      go_ret
      exact ⟨w.heap.size, Nat.le_refl _, rfl, HROW.out, HB.out⟩
theorem Row1.ri {w : World} {b : Nat} {t : TypeId} {L : List Int} {k : Nat} (h : Row1 w b t L k) (hk : k = L.length) : RI w w.heap.size (some ⟨b, 0, none⟩) L := by
  subst hk
  exact h.rowF.ri
theorem Row1.three {w : World} {b : Nat} {t : TypeId} {x y z : Int} (h : Row1 w b t [x, y, z] 3) : Three w b t x y z := by
  obtain ⟨vs, h1, h2, h3⟩ := h.blk
  refine ⟨h1.trans ?_⟩
  have e : vs = #[.int .i64 x, .int .i64 y, .int .i64 z] := by
    apply Array.ext
    · simpa using h2
    · intro i hi hi'
      have hs : i < 3 := by simpa using hi'
      have g := h3 i ([x, y, z][i]'(by simpa using hs)) hs (List.getElem?_eq_getElem _)
      rw [Array.getElem?_eq_getElem hi] at g
      injection g with g
      rw [g]
      match i, hs with
      | 0, _ => rfl
      | 1, _ => rfl
      | 2, _ => rfl
  rw [e]
set_option maxHeartbeats 2000000 in
theorem HalfRound_any (Ap : Option Addr) (cp : Nat) (ps : List (Int × Int)) (w : World) (hp : RC w w.heap.size Ap ps) (hpm : ps.length ≤ 1073741824) :
    Calls Tryd.prog 11 #[.slice Ap ps.length cp] w fun e w' => e = .returned (.int .i64 (halfRound ps)) ∧ Below w.heap.size w w' := by
  have HP := Lib.hid hp
  clear hp
  unfold halfRound
  cases hok : pointsOk ps
  · have HOK := Lib.hid hok
    rw [if_neg (by simp)]
    clear hok
    go_enter Tryd.func11, Tryd.ntmps11
    go_wp2_with fail
    refine (PointsOk_any _ _ _ _ HP.out hpm).mono ?_; rintro e w1 ⟨rfl, hb1⟩
    rw [HOK.out]
    obtain ⟨hc1, hf1⟩ := bcell hb1
    have HK1 := Lib.hid hb1
    have HB1 := Lib.hid (bstep (B := w.heap.size) (W := w) (by (try have hp := HB0.out); go_grown) (by go_size) hb1); clear hb1
    go_wp2_with fail
    go_ret
    exact ⟨rfl, HB1.out⟩
  · have HOK := Lib.hid hok
    obtain ⟨hl1, hl6, hin⟩ := pointsOk_t hok
    have hle : ps.length ≤ 1048576 := by omega
    have hin1 := map_in (f := Prod.fst) (fun p hp => ⟨(hin p hp).1, (hin p hp).2.1⟩)
    have hin2 := map_in (f := Prod.snd) (fun p hp => ⟨(hin p hp).2.2.1, (hin p hp).2.2.2⟩)
    rw [if_pos rfl, box_spread (by omega)]
    obtain ⟨L1, hL1⟩ : ∃ L, ps.map Prod.fst = L := ⟨_, rfl⟩
    obtain ⟨L2, hL2⟩ : ∃ L, ps.map Prod.snd = L := ⟨_, rfl⟩
    have hn1 : L1.length = ps.length := by rw [← hL1]; simp
    have hn2 : L2.length = ps.length := by rw [← hL2]; simp
    have HR1 : Hid (∀ W : World, RC W W.heap.size Ap ps → Calls Tryd.prog 26 #[.slice Ap ps.length cp] W fun e w' => ∃ b, W.heap.size ≤ b ∧ e = .returned (.slice (some ⟨b, 0, none⟩) ps.length ps.length) ∧ Row1 w' b 3 L1 ps.length ∧ Below W.heap.size W w') := fun W h => hL1 ▸ rowsOf_any Ap cp ps W h hle
    have HR2 : Hid (∀ W : World, RC W W.heap.size Ap ps → Calls Tryd.prog 27 #[.slice Ap ps.length cp] W fun e w' => ∃ b, W.heap.size ≤ b ∧ e = .returned (.slice (some ⟨b, 0, none⟩) ps.length ps.length) ∧ Row1 w' b 3 L2 ps.length ∧ Below W.heap.size W w') := fun W h => hL2 ▸ columnsOf_any Ap cp ps W h hle
    rw [hL1] at hin1 ⊢
    rw [hL2] at hin2 ⊢
    have HS1 : Hid (∀ (b : Nat) (W : World), Row1 W b 3 L1 ps.length → Calls Tryd.prog 25 #[.slice (some ⟨b, 0, none⟩) ps.length ps.length] W fun e w' => e = .returned (.int .i64 (spreadI L1)) ∧ Below W.heap.size W w') := fun b W h => by
      have g := spread_any (some ⟨b, 0, none⟩) ps.length L1 W (h.ri hn1.symm) (by omega) (by omega) hin1
      rw [hn1] at g
      exact g
    have HS2 : Hid (∀ (b : Nat) (W : World), Row1 W b 3 L2 ps.length → Calls Tryd.prog 25 #[.slice (some ⟨b, 0, none⟩) ps.length ps.length] W fun e w' => e = .returned (.int .i64 (spreadI L2)) ∧ Below W.heap.size W w') := fun b W h => by
      have g := spread_any (some ⟨b, 0, none⟩) ps.length L2 W (h.ri hn2.symm) (by omega) (by omega) hin2
      rw [hn2] at g
      exact g
    obtain ⟨g1, g2⟩ := grI_in hin1
    obtain ⟨g3, g4⟩ := leI_in hin1
    obtain ⟨g5, g6⟩ := grI_in hin2
    obtain ⟨g7, g8⟩ := leI_in hin2
    have HW1 : Hid (IntKind.i64.wrap (spreadI L1 + spreadI L2) = spreadI L1 + spreadI L2) := IntWalk.i64_in _ (by unfold spreadI; constructor <;> omega)
    have HW2 : Hid (wrap64 (spreadI L1 + spreadI L2) = spreadI L1 + spreadI L2) := IntWalk.wrap64_in _ (by unfold spreadI; constructor <;> omega)
    clear hok hin hin1 hin2 g1 g2 g3 g4 g5 g6 g7 g8 hL1 hL2 hn1 hn2
    go_enter Tryd.func11, Tryd.ntmps11
    go_wp2_with fail
    refine (PointsOk_any _ _ _ _ HP.out hpm).mono ?_; rintro e w1 ⟨rfl, hb1⟩
    rw [HOK.out]
    obtain ⟨hc1, hf1⟩ := bcell hb1
    have HK1 := Lib.hid hb1
    have HB1 := Lib.hid (bstep (B := w.heap.size) (W := w) (by (try have hp := HB0.out); go_grown) (by go_size) hb1); clear hb1
    go_wp2_with fail
    refine (HR1.out _ (HP.out.later HB1.out)).mono ?_; rintro e w2 ⟨b2, hlo2, rfl, hrow2, hb2⟩
    have hs1 := HB1.out.size
    have HROW2 := Lib.hid hrow2
    have HB2 := Lib.hid (bstep (B := w.heap.size) (W := w) HB1.out HB1.out.size hb2); clear hb2 hrow2
    go_wp2_with fail
    refine (HS1.out _ _ HROW2.out).mono ?_; rintro e w3 ⟨rfl, hb3⟩
    have HB3 := Lib.hid (bstep (B := w.heap.size) (W := w) HB2.out HB2.out.size hb3); clear hb3
    go_wp2_with fail
    refine (HR2.out _ (HP.out.later HB3.out)).mono ?_; rintro e w4 ⟨b4, hlo4, rfl, hrow4, hb4⟩
    have HROW4 := Lib.hid hrow4
    have HB4 := Lib.hid (bstep (B := w.heap.size) (W := w) HB3.out HB3.out.size hb4); clear hb4 hrow4
    go_wp2_with fail
    refine (HS2.out _ _ HROW4.out).mono ?_; rintro e w5 ⟨rfl, hb5⟩
    have HB5 := Lib.hid (bstep (B := w.heap.size) (W := w) HB4.out HB4.out.size hb5); clear hb5
    have hw1 := HW1.out
    have hw2 := HW2.out
    go_wp2_with fail
    go_ret
    exact ⟨rfl, HB5.out⟩
end Go.Proofs.YtgnjjiljipgbnaaDoor
