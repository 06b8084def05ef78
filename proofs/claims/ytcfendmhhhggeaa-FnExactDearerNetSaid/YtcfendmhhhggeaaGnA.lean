/- Nets as answers: new memory that holds ways; their marks. -/
import Derived.Test.YtcfendmhhhggeaaLF
import Derived.Test.YtcfendmhhhggeaaMH
import Derived.Test.YtcfendmhhhggeaaXA
set_option linter.unusedSimpArgs false
set_option linter.unusedVariables false
attribute [local go_sem ↓] Go.wp_at_zero Go.wp_at_succ
namespace Go.Proofs.Ytcfendmhhhggeaa
open Go.ChangeShapes Go.WideShapes Go.ChangeAt Go.RowKit

/-- the numbers of ways, one after the other -/
def wyF (ws : List Wy) (j : Nat) : Int := match ws[j / 3]? with
  | some x => if j % 3 = 0 then x.a else if j % 3 = 1 then x.b else x.c
  | none => 0
theorem wyF_at {ws : List Wy} {i : Nat} {x : Wy} (h : ws[i]? = some x) : wyF ws (i * 3) = x.a ∧ wyF ws (i * 3 + 1) = x.b ∧ wyF ws (i * 3 + 2) = x.c := by
  have e0 : i * 3 / 3 = i := by omega
  have e1 : (i * 3 + 1) / 3 = i := by omega
  have e2 : (i * 3 + 2) / 3 = i := by omega
  unfold wyF
  rw [e0, e1, e2, h]
  simp only
  rw [if_pos (by omega), if_neg (by omega), if_pos (by omega), if_neg (by omega), if_neg (by omega)]
  exact ⟨rfl, rfl, rfl⟩
theorem wyF_cells {ws : List Wy} {j : Nat} (hj : j < ws.length * 3) : (wyCells ws)[j]? = some (.int .i64 (wyF ws j)) := by
  obtain ⟨x, hx⟩ : ∃ x, ws[j / 3]? = some x := ⟨_, List.getElem?_eq_getElem (by omega)⟩
  obtain ⟨g0, g1, g2⟩ := wyCells_get ws (j / 3) x hx
  obtain ⟨f0, f1, f2⟩ := wyF_at hx
  have h3 : j % 3 = 0 ∨ j % 3 = 1 ∨ j % 3 = 2 := by omega
  rcases h3 with h | h | h
  · rw [show j / 3 * 3 = j from by omega] at g0 f0
    rw [g0, f0]
  · rw [show j / 3 * 3 + 1 = j from by omega] at g1 f1
    rw [g1, f1]
  · rw [show j / 3 * 3 + 2 = j from by omega] at g2 f2
    rw [g2, f2]
theorem RowF.rw3 {w : World} {lo hi : Nat} {A : Option Addr} {ws : List Wy} (h : RowF w lo hi A (ws.length * 3) (wyF ws)) : RW w w.heap.size A ws := by
  intro i x hx
  have hl := (List.getElem?_eq_some_iff.1 hx).1
  obtain ⟨f0, f1, f2⟩ := wyF_at hx
  obtain ⟨b, o, ha, _, hh, c0, _⟩ := h.at_ (i * 3) (by omega)
  obtain ⟨b', o', ha', _, _, c1, _⟩ := h.at_ (i * 3 + 1) (by omega)
  rw [ha] at ha'
  injection ha' with ha'; injection ha' with e1 e2; subst e1; subst e2
  obtain ⟨b', o', ha', _, _, c2, _⟩ := h.at_ (i * 3 + 2) (by omega)
  rw [ha] at ha'
  injection ha' with ha'; injection ha' with e1 e2; subst e1; subst e2
  rw [f0] at c0
  rw [f1] at c1
  rw [f2] at c2
  exact ⟨b, o, ha, Nat.lt_of_lt_of_le hh h.top, c0, c1, c2⟩
theorem rowF_of_ways {w : World} {base c1 : Nat} {e : TypeId} {A1 : Option Addr} {ws : List Wy} (h : w.ownsRow base e 3 (.slice A1 ws.length c1) ws.length (wyCells ws)) : RowF w base w.heap.size A1 (ws.length * 3) (wyF ws) := by
  refine ⟨fun j hj => ?_, Nat.le_refl _⟩
  rcases h.2 with ⟨_, h2⟩ | ⟨g, cap, cur, hv, h3, h4, h5, h6, h7, h8⟩
  · omega
  · injection hv with hv1 hv2 hv3
    have hg := (Array.getElem?_eq_some_iff.1 h4).1
    refine ⟨g, 0, hv1, h3, hg, ?_, by simp [World.frozen?, h4]⟩
    rw [cell_of_row _ _ _ _ _ (0, 0) h4, Nat.zero_add, ← Array.getElem?_toList]
    have h9 := wyF_cells hj
    rw [← h8, List.getElem?_take, if_pos hj] at h9
    exact h9
theorem BoxSt.alloc_ {w0 w : World} {B : Nat} {tn tw : TypeId} {nn : Int} {v : Value} {ws : List Wy} (h : BoxSt w0 w B tn tw nn v ws) (o : Obj) : BoxSt w0 (w.alloc o) B tn tw nn v ws :=
  ⟨h.low.alloc (Nat.le_of_lt h.lt) o, (Below.heap_alloc w o B h.lt).trans h.blk, h.own.alloc o⟩
theorem BoxSt.row3 {w0 w : World} {B : Nat} {tn tw : TypeId} {nn : Int} {A1 : Option Addr} {c1 : Nat} {ws : List Wy} (h : BoxSt w0 w B tn tw nn (.slice A1 ws.length c1) ws) : RowF w (B + 1) w.heap.size A1 (ws.length * 3) (wyF ws) := rowF_of_ways h.own
set_option maxHeartbeats 1000000 in
theorem markWaysR_any (A : Option Addr) (cap m : Nat) (f : Nat → Int) (q : Int) (lo hi : Nat) (w : World) (h : RowF w lo hi A (m * 3) f) (hm : m ≤ 1048576) (hq0 : 0 ≤ q) (hq1 : q ≤ 1048576) :
    Calls Try.prog 18 #[.slice A m cap, .int .i64 q] w fun e w' => e = .returned (.int .i64 (q + m * 3)) ∧ RowF w' lo hi A (m * 3) (fun j => q + j) ∧ Only lo hi w w' := by
  have HF := Lib.hid h
  clear h
  go_enter Try.func18, Try.ntmps18
  go_wp2_with fail
  go_loopw [1, 5] (fun u i wr => ∃ k : Nat, k ≤ m ∧ u = .int .i64 (q + k * 3) ∧ i = .int .i64 k ∧ Only lo hi w wr ∧ RowF wr lo hi A (m * 3) (fun j => if j < k * 3 then q + j else f j)) (fun _ i _ => m - (intOf i).toNat)
  case atStart => exact ⟨0, Nat.zero_le _, by simp, rfl, Only.refl _ _ _, HF.out.congr (fun j _ => by simp)⟩
  case round =>
    obtain ⟨k, hk, rfl, rfl, ho, hf⟩ := hrel
    have HO := Lib.hid ho
    have HG := Lib.hid hf
    clear ho hf
    by_cases hlt : k < m
    · obtain ⟨b, o, rfl, hl, hh, c0, f0⟩ := HG.out.at_ (k * 3) (by omega)
      obtain ⟨b', o', e', _, _, c1, f1⟩ := HG.out.at_ (k * 3 + 1) (by omega)
      injection e' with e'; injection e' with e1 e2; subst e1; subst e2
      obtain ⟨b', o', e', _, _, c2, f2⟩ := HG.out.at_ (k * 3 + 2) (by omega)
      injection e' with e'; injection e' with e1 e2; subst e1; subst e2
      have hk0 : (0 : Int) ≤ (k : Int) := by omega
      have hk1 : (k : Int) < (m : Int) := by omega
      rw [if_neg (by omega)] at c0 c1 c2
      rw [← Nat.add_assoc] at c1 f1 c2 f2
      go_wp2_with fail
      go_roundw
      case rel => exact ⟨k + 1, by omega, by go_num, by go_num, ((HO.out.setCell ⟨hl, hh⟩ _).setCell ⟨hl, hh⟩ _).setCell ⟨hl, hh⟩ _, (((HG.out.put (k := k * 3) (by omega) (q + k * 3)).put (k := k * 3 + 1) (by omega) (q + k * 3 + 1)).put (k := k * 3 + 2) (by omega) (q + k * 3 + 1 + 1)).congr (fun j _ => by (try dsimp only); split <;> (try split) <;> (try split) <;> (try split) <;> omega)⟩
      case measure => simp [intOf]; omega
    · have hkm : k = m := by omega
      subst hkm
      go_wp2_with fail
      go_ret
      exact ⟨rfl, HG.out.congr (fun j hj => by rw [if_pos hj]), HO.out⟩
set_option maxHeartbeats 1000000 in
theorem heldWaysR_any (A : Option Addr) (cap m : Nat) (q : Int) (lo hi : Nat) (w : World) (h : RowF w lo hi A (m * 3) (fun j => q + j)) (hm : m ≤ 1048576) (hq0 : 0 ≤ q) (hq1 : q ≤ 1048576) :
    Calls Try.prog 19 #[.slice A m cap, .int .i64 q] w fun e w' => e = .returned (.int .i64 (q + m * 3)) ∧ Below w.heap.size w w' := by
  have HF := Lib.hid h
  clear h
  go_enter Try.func19, Try.ntmps19
  go_wp2_with fail
  go_loopw [1, 5] (fun u i wr => ∃ k : Nat, k ≤ m ∧ u = .int .i64 (q + k * 3) ∧ i = .int .i64 k ∧ Below w.heap.size w wr) (fun _ i _ => m - (intOf i).toNat)
  case atStart => exact ⟨0, Nat.zero_le _, by simp, rfl, by go_grown⟩
  case round =>
    obtain ⟨k, hk, rfl, rfl, hb⟩ := hrel
    have HB := Lib.hid hb
    have HF1 := HF.out.below hb
    clear hb
    by_cases hlt : k < m
    · obtain ⟨b, o, rfl, _, _, c0, _⟩ := HF1.at_ (k * 3) (by omega)
      obtain ⟨b', o', e', _, _, c1, _⟩ := HF1.at_ (k * 3 + 1) (by omega)
      injection e' with e'; injection e' with e1 e2; subst e1; subst e2
      obtain ⟨b', o', e', _, _, c2, _⟩ := HF1.at_ (k * 3 + 2) (by omega)
      injection e' with e'; injection e' with e1 e2; subst e1; subst e2
      have hk0 : (0 : Int) ≤ (k : Int) := by omega
      have hk1 : (k : Int) < (m : Int) := by omega
      rw [← Nat.add_assoc] at c1 c2
      have c0' : wr.cell? ⟨b, o + k * 3, none⟩ = some (.int .i64 (q + k * 3)) := by rw [c0]; simp
      have c1' : wr.cell? ⟨b, o + k * 3 + 1, none⟩ = some (.int .i64 (q + k * 3 + 1)) := by rw [c1]; simp; omega
      have c2' : wr.cell? ⟨b, o + k * 3 + 2, none⟩ = some (.int .i64 (q + k * 3 + 1 + 1)) := by rw [c2]; simp; omega
      clear HF1 c0 c1 c2
      go_wp2_with fail
      go_roundw
      case rel => exact ⟨k + 1, by omega, by go_num, by go_num, ⟨HB.out.os, HB.out.tape, HB.out.output, HB.out.size, HB.out.block⟩⟩
      case measure => simp [intOf]; omega
    · have hkm : k = m := by omega
      subst hkm
      go_wp2_with fail
      go_ret
      exact ⟨rfl, HB.out⟩
set_option maxHeartbeats 1000000 in
theorem markNetR_any (n : Int) (A : Option Addr) (cap m : Nat) (f : Nat → Int) (q : Int) (lo hi : Nat) (w : World) (h : RowF w lo hi A (m * 3) f) (hm : m ≤ 1048576) (hq0 : 0 ≤ q) (hq1 : q ≤ 1048576) (hhi : hi ≤ w.heap.size) :
    Calls Try.prog 9 #[.agg #[.int .i64 n, .slice A m cap], .int .i64 q] w fun e w' => e = .returned (.int .i64 (q + m * 3)) ∧ RowF w' lo hi A (m * 3) (fun j => q + j) ∧ Only lo hi w w' := by
  have HF := Lib.hid h
  clear h
  go_enter Try.func9, Try.ntmps9
  go_wp2_with fail
  refine (markWaysR_any A cap m f q lo hi _ (HF.out.below ((Below.refl _ _).alloc (Nat.le_refl _) _)) hm hq0 hq1).mono ?_; rintro e w1 ⟨rfl, h1, h2⟩
  go_wp2_with fail
  go_ret
  exact ⟨rfl, h1, (Only.of ((Below.refl _ _).alloc (Nat.le_refl _) _)).trans h2⟩
set_option maxHeartbeats 1000000 in
theorem heldNetR_any (n : Int) (A : Option Addr) (cap m : Nat) (q : Int) (lo hi : Nat) (w : World) (h : RowF w lo hi A (m * 3) (fun j => q + j)) (hm : m ≤ 1048576) (hq0 : 0 ≤ q) (hq1 : q ≤ 1048576) :
    Calls Try.prog 10 #[.agg #[.int .i64 n, .slice A m cap], .int .i64 q] w fun e w' => e = .returned (.int .i64 (q + m * 3)) ∧ Below w.heap.size w w' := by
  have HF := Lib.hid h
  clear h
  go_enter Try.func10, Try.ntmps10
  go_wp2_with fail
  refine (heldWaysR_any A cap m q lo hi _ (HF.out.below ((Below.refl _ _).alloc (Nat.le_refl _) _)) hm hq0 hq1).mono ?_; rintro e w1 ⟨rfl, hb1⟩
  obtain ⟨hc1, hf1⟩ := bcell hb1
  have hz1_0 : w.heap.size < w1.heap.size := by have hq := hb1.size; (try simp at hq); omega
  have HK1 := Lib.hid hb1
  have HB1 := Lib.hid (bstep (B := w.heap.size) (W := w) (by (try have hp := HB0.out); go_grown) (by go_size) hb1); clear hb1
  have hnn : ¬ (q + (m : Int) * 3 < 0) := by omega
  go_wp2_with fail
  go_ret
  exact ⟨rfl, HB1.out⟩
/-- new memory that holds a net, if it is told -/
def NewNetO (o : Option (Int × List Wy)) (w : World) (en : Ending) (w' : World) : Prop := match o with
  | none => ∃ A1 c1, en = .returned (.tuple #[.agg #[.int .i64 0, .slice A1 0 c1], .bool false]) ∧ Below w.heap.size w w'
  | some (n, L) => ∃ A1 c1 lo hi, en = .returned (.tuple #[.agg #[.int .i64 n, .slice A1 L.length c1], .bool true]) ∧ RowF w' lo hi A1 (L.length * 3) (wyF L) ∧ w.heap.size ≤ lo ∧ Below w.heap.size w w'
theorem newNet_any {o : Option (Int × List Wy)} {N : Int} {L : List Wy} {tb : Bool} (ho : (o = none ∧ N = 0 ∧ L = [] ∧ tb = false) ∨ (o = some (N, L) ∧ tb = true)) {w w' : World} {en : Ending} (h : NewNetO o w en w') :
    ∃ A1 c1 lo hi, en = .returned (.tuple #[.agg #[.int .i64 N, .slice A1 L.length c1], .bool tb]) ∧ RowF w' lo hi A1 (L.length * 3) (wyF L) ∧ w.heap.size ≤ lo ∧ Below w.heap.size w w' := by
  rcases ho with ⟨rfl, rfl, rfl, rfl⟩ | ⟨rfl, rfl⟩
  · obtain ⟨A1, c1, h1, h2⟩ := h
    exact ⟨A1, c1, w'.heap.size, w'.heap.size, h1, RowF.none _ _ _ _ _ (Nat.le_refl _), h2.size, h2⟩
  · exact h
end Go.Proofs.Ytcfendmhhhggeaa
