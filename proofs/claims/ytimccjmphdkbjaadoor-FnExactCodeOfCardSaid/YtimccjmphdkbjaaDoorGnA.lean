/- Nets as answers: new memory that holds ways; their marks. -/
import Derived.Test.YtimccjmphdkbjaaDoorLF
import Derived.Test.YtimccjmphdkbjaaDoorMH
import Derived.Test.YtimccjmphdkbjaaDoorXA
set_option linter.unusedSimpArgs false
set_option linter.unusedVariables false
attribute [local go_sem ↓] Go.wp_at_zero Go.wp_at_succ
namespace Go.Proofs.YtimccjmphdkbjaaDoor
open Go.ChangeShapes Go.WideShapes Go.ChangeAt Go.RowKit

/-- the numbers of ways, one after the other -/
def wyF (ws : List Wy) (j : Nat) : Int := match ws[j / 3]? with
  | some x => if j % 3 = 0 then x.a else if j % 3 = 1 then x.b else x.c
  | none => 0
theorem wyF_at {ws : List Wy} {i : Nat} {x : Wy} (h : ws[i]? = some x) : wyF ws (i * 3) = x.a ∧ wyF ws (i * 3 + 1) = x.b ∧ wyF ws (i * 3 + 2) = x.c := by
  have e0 : i * 3 / 3 = i := by omega
  have e1 : (i * 3 + 1) / 3 = i := by omega
  have e2 : (i * 3 + 2) / 3 = i := by omega
  unfold wyF
  rw [e0, e1, e2, h]
  simp only
  rw [if_pos (by omega), if_neg (by omega), if_pos (by omega), if_neg (by omega), if_neg (by omega)]
  exact ⟨rfl, rfl, rfl⟩
theorem wyF_cells {ws : List Wy} {j : Nat} (hj : j < ws.length * 3) : (wyCells ws)[j]? = some (.int .i64 (wyF ws j)) := by
  obtain ⟨x, hx⟩ : ∃ x, ws[j / 3]? = some x := ⟨_, List.getElem?_eq_getElem (by omega)⟩
  obtain ⟨g0, g1, g2⟩ := wyCells_get ws (j / 3) x hx
  obtain ⟨f0, f1, f2⟩ := wyF_at hx
  have h3 : j % 3 = 0 ∨ j % 3 = 1 ∨ j % 3 = 2 := by omega
  rcases h3 with h | h | h
  · rw [show j / 3 * 3 = j from by omega] at g0 f0
    rw [g0, f0]
  · rw [show j / 3 * 3 + 1 = j from by omega] at g1 f1
    rw [g1, f1]
  · rw [show j / 3 * 3 + 2 = j from by omega] at g2 f2
    rw [g2, f2]
theorem RowF.rw3 {w : World} {lo hi : Nat} {A : Option Addr} {ws : List Wy} (h : RowF w lo hi A (ws.length * 3) (wyF ws)) : RW w w.heap.size A ws := by
  intro i x hx
  have hl := (List.getElem?_eq_some_iff.1 hx).1
  obtain ⟨f0, f1, f2⟩ := wyF_at hx
  obtain ⟨b, o, ha, _, hh, c0, _⟩ := h.at_ (i * 3) (by omega)
  obtain ⟨b', o', ha', _, _, c1, _⟩ := h.at_ (i * 3 + 1) (by omega)
  rw [ha] at ha'
  injection ha' with ha'; injection ha' with e1 e2; subst e1; subst e2
  obtain ⟨b', o', ha', _, _, c2, _⟩ := h.at_ (i * 3 + 2) (by omega)
  rw [ha] at ha'
  injection ha' with ha'; injection ha' with e1 e2; subst e1; subst e2
  rw [f0] at c0
  rw [f1] at c1
  rw [f2] at c2
  exact ⟨b, o, ha, Nat.lt_of_lt_of_le hh h.top, c0, c1, c2⟩
theorem rowF_of_ways {w : World} {base c1 : Nat} {e : TypeId} {A1 : Option Addr} {ws : List Wy} (h : w.ownsRow base e 3 (.slice A1 ws.length c1) ws.length (wyCells ws)) : RowF w base w.heap.size A1 (ws.length * 3) (wyF ws) := by
  refine ⟨fun j hj => ?_, Nat.le_refl _⟩
  rcases h.2 with ⟨_, h2⟩ | ⟨g, cap, cur, hv, h3, h4, h5, h6, h7, h8⟩
  · omega
  · injection hv with hv1 hv2 hv3
    have hg := (Array.getElem?_eq_some_iff.1 h4).1
    refine ⟨g, 0, hv1, h3, hg, ?_, by simp [World.frozen?, h4]⟩
    rw [cell_of_row _ _ _ _ _ (0, 0) h4, Nat.zero_add, ← Array.getElem?_toList]
    have h9 := wyF_cells hj
    rw [← h8, List.getElem?_take, if_pos hj] at h9
    exact h9
theorem BoxSt.alloc_ {w0 w : World} {B : Nat} {tn tw : TypeId} {nn : Int} {v : Value} {ws : List Wy} (h : BoxSt w0 w B tn tw nn v ws) (o : Obj) : BoxSt w0 (w.alloc o) B tn tw nn v ws :=
  ⟨h.low.alloc (Nat.le_of_lt h.lt) o, (Below.heap_alloc w o B h.lt).trans h.blk, h.own.alloc o⟩
theorem BoxSt.row3 {w0 w : World} {B : Nat} {tn tw : TypeId} {nn : Int} {A1 : Option Addr} {c1 : Nat} {ws : List Wy} (h : BoxSt w0 w B tn tw nn (.slice A1 ws.length c1) ws) : RowF w (B + 1) w.heap.size A1 (ws.length * 3) (wyF ws) := rowF_of_ways h.own
/-- new memory that holds a net, if it is told -/
def NewNetO (o : Option (Int × List Wy)) (w : World) (en : Ending) (w' : World) : Prop := match o with
  | none => ∃ A1 c1, en = .returned (.tuple #[.agg #[.int .i64 0, .slice A1 0 c1], .bool false]) ∧ Below w.heap.size w w'
  | some (n, L) => ∃ A1 c1 lo hi, en = .returned (.tuple #[.agg #[.int .i64 n, .slice A1 L.length c1], .bool true]) ∧ RowF w' lo hi A1 (L.length * 3) (wyF L) ∧ w.heap.size ≤ lo ∧ Below w.heap.size w w'
theorem newNet_any {o : Option (Int × List Wy)} {N : Int} {L : List Wy} {tb : Bool} (ho : (o = none ∧ N = 0 ∧ L = [] ∧ tb = false) ∨ (o = some (N, L) ∧ tb = true)) {w w' : World} {en : Ending} (h : NewNetO o w en w') :
    ∃ A1 c1 lo hi, en = .returned (.tuple #[.agg #[.int .i64 N, .slice A1 L.length c1], .bool tb]) ∧ RowF w' lo hi A1 (L.length * 3) (wyF L) ∧ w.heap.size ≤ lo ∧ Below w.heap.size w w' := by
  rcases ho with ⟨rfl, rfl, rfl, rfl⟩ | ⟨rfl, rfl⟩
  · obtain ⟨A1, c1, h1, h2⟩ := h
    exact ⟨A1, c1, w'.heap.size, w'.heap.size, h1, RowF.none _ _ _ _ _ (Nat.le_refl _), h2.size, h2⟩
  · exact h
end Go.Proofs.YtimccjmphdkbjaaDoor
