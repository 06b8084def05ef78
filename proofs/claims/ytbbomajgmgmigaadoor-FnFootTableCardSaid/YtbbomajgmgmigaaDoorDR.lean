/- BridgeWays, of the program and of its model. -/
import Derived.Test.YtbbomajgmgmigaaDoorDQ
set_option linter.unusedSimpArgs false
set_option linter.unusedVariables false
namespace Go.Proofs.YtbbomajgmgmigaaDoor
open Go.ChangeShapes Go.WideShapes Go.ChangeAt Go.RowKit

/-- the places of a way are joined exactly if one comes from the one to the other one -/
theorem joins_way {n : Int} {ws : List Wy} {s : Int} (hn : NetIs n ws) {x : Wy} {k : Nat} (hx : ws[k]? = some x) : joins ws s (wayPl x) = bit (reach ws s x.a) x.b := by
  obtain ⟨a0, a1, b0, b1, _⟩ := hn.at_ hx
  have hw := wayPl_bd hn hx
  have hbits : ∀ q, 0 ≤ q → bit (wayPl x) q = (decide (q = x.a) || decide (q = x.b)) := fun q hq => by
    rw [wayPl_is, bit_ior, bit_shl x.a q a0 hq, bit_shl x.b q b0 hq]
  rw [Bool.eq_iff_iff, joins_iff hn hw.1 (wayPl_lt hn hx)]
  constructor
  · intro h
    exact h x.a x.b a0 b0 (by rw [hbits _ a0]; simp) (by rw [hbits _ b0]; simp)
  · intro h p q hp hq hbp hbq
    rw [hbits p hp] at hbp
    rw [hbits q hq] at hbq
    simp only [Bool.or_eq_true, decide_eq_true_eq] at hbp hbq
    have ha := (reach_is (s := s) hn a0 a1).has
    have hback : reach ws s x.b = reach ws s x.a := reach_back (s := s) hn a0 a1 b0 h
    have key : ∀ y, (y = x.a ∨ y = x.b) → reach ws s y = reach ws s x.a := fun y hy => by
      rcases hy with rfl | rfl
      · rfl
      · exact hback
    rw [key p hbp]
    rcases hbq with rfl | rfl
    · exact ha
    · exact h

/-- the bridges among the first k ways -/
noncomputable def brTo (ws : List Wy) (all : Int) : Nat → Int
  | 0 => 0
  | k + 1 => match ws[k]? with
    | some x => if bit (reach ws (all - 2 ^ k) x.a) x.b = true then brTo ws all k else ior (brTo ws all k) (2 ^ k)
    | none => brTo ws all k
theorem brTo_in {ws : List Wy} {all : Int} {k : Nat} {x : Wy} (hx : ws[k]? = some x) (h : bit (reach ws (all - 2 ^ k) x.a) x.b = true) : brTo ws all (k + 1) = brTo ws all k := by
  rw [brTo, hx]; simp only; rw [if_pos h]
theorem brTo_out {ws : List Wy} {all : Int} {k : Nat} {x : Wy} (hx : ws[k]? = some x) (h : bit (reach ws (all - 2 ^ k) x.a) x.b = false) : brTo ws all (k + 1) = ior (brTo ws all k) (2 ^ k) := by
  rw [brTo, hx]; simp only; rw [if_neg (by rw [h]; simp)]
theorem brTo_bd (ws : List Wy) (all : Int) : ∀ k, 0 ≤ brTo ws all k ∧ brTo ws all k < 2 ^ k
  | 0 => by simp [brTo]
  | k + 1 => by
    have ih := brTo_bd ws all k
    have h1 : ((2 : Int) ^ (k + 1)) = 2 ^ k * 2 := Int.pow_succ 2 k
    have h2 := pow_bd k k (by omega)
    rw [Int.toNat_natCast] at h2
    cases hx : ws[k]? with
    | none => rw [brTo, hx]; simp only; omega
    | some x =>
      cases hc : bit (reach ws (all - 2 ^ k) x.a) x.b
      · rw [brTo_out hx hc]; exact ior_bd _ _ (k + 1) (by omega) (by omega)
      · rw [brTo_in hx hc]; omega
theorem full_bit (len k : Nat) (h : k < len) : bit (full len) k = true := by
  unfold bit full
  have e : ((2 : Int) ^ len - 1).toNat = 2 ^ len - 1 := by
    have e1 : ((2 : Int) ^ len) = ((2 ^ len : Nat) : Int) := by simp
    have : 1 ≤ 2 ^ len := Nat.one_le_two_pow
    omega
  rw [e, Int.toNat_natCast, Nat.testBit_two_pow_sub_one]
  simpa using h
noncomputable def bridgesOf (n : Int) (ws : List Wy) : Int := if netOk n ws = true then brTo ws (full ws.length) ws.length else -1

theorem keep5 {w w' : World} {h g : Nat} {x0 x1 y0 y1 y2 : Value} (hb : Below w.heap.size w w') (hk : w.cell? ⟨h, 0, none⟩ = some x0 ∧ w.cell? ⟨h, 1, none⟩ = some x1 ∧ w.cell? ⟨g, 0, none⟩ = some y0 ∧ w.cell? ⟨g, 1, none⟩ = some y1 ∧ w.cell? ⟨g, 2, none⟩ = some y2) (hl : h < w.heap.size) (hg : g < w.heap.size) :
    w'.cell? ⟨h, 0, none⟩ = some x0 ∧ w'.cell? ⟨h, 1, none⟩ = some x1 ∧ w'.cell? ⟨g, 0, none⟩ = some y0 ∧ w'.cell? ⟨g, 1, none⟩ = some y1 ∧ w'.cell? ⟨g, 2, none⟩ = some y2 :=
  ⟨(hb.cell (p := ⟨h, 0, none⟩) hl).trans hk.1, (hb.cell (p := ⟨h, 1, none⟩) hl).trans hk.2.1, (hb.cell (p := ⟨g, 0, none⟩) hg).trans hk.2.2.1, (hb.cell (p := ⟨g, 1, none⟩) hg).trans hk.2.2.2.1, (hb.cell (p := ⟨g, 2, none⟩) hg).trans hk.2.2.2.2⟩
theorem start5 {w : World} {h : Nat} {x0 x1 y0 y1 y2 : Value} {t : TypeId} (b0 : w.cell? ⟨h, 0, none⟩ = some x0) (b1 : w.cell? ⟨h, 1, none⟩ = some x1) (hl : h < w.heap.size) :
    (w.alloc (.cells #[y0, y1, y2] t)).cell? ⟨h, 0, none⟩ = some x0 ∧ (w.alloc (.cells #[y0, y1, y2] t)).cell? ⟨h, 1, none⟩ = some x1 ∧ (w.alloc (.cells #[y0, y1, y2] t)).cell? ⟨w.heap.size, 0, none⟩ = some y0 ∧ (w.alloc (.cells #[y0, y1, y2] t)).cell? ⟨w.heap.size, 1, none⟩ = some y1 ∧ (w.alloc (.cells #[y0, y1, y2] t)).cell? ⟨w.heap.size, 2, none⟩ = some y2 :=
  ⟨(World.cell?_alloc_lt w _ _ hl).trans b0, (World.cell?_alloc_lt w _ _ hl).trans b1, cell_of_row _ _ 0 _ _ (0, 0) (heap_alloc_new w _), cell_of_row _ _ 1 _ _ (0, 0) (heap_alloc_new w _), cell_of_row _ _ 2 _ _ (0, 0) (heap_alloc_new w _)⟩


theorem keep4 {w w' : World} {h g o : Nat} {x0 x1 y0 y1 : Value} (hb : Below w.heap.size w w') (hk : w.cell? ⟨h, 0, none⟩ = some x0 ∧ w.cell? ⟨h, 1, none⟩ = some x1 ∧ w.cell? ⟨g, o, none⟩ = some y0 ∧ w.cell? ⟨g, o + 1, none⟩ = some y1) (hl : h < w.heap.size) (hg : g < w.heap.size) :
    w'.cell? ⟨h, 0, none⟩ = some x0 ∧ w'.cell? ⟨h, 1, none⟩ = some x1 ∧ w'.cell? ⟨g, o, none⟩ = some y0 ∧ w'.cell? ⟨g, o + 1, none⟩ = some y1 :=
  ⟨(hb.cell (p := ⟨h, 0, none⟩) hl).trans hk.1, (hb.cell (p := ⟨h, 1, none⟩) hl).trans hk.2.1, (hb.cell (p := ⟨g, o, none⟩) hg).trans hk.2.2.1, (hb.cell (p := ⟨g, o + 1, none⟩) hg).trans hk.2.2.2⟩

end Go.Proofs.YtbbomajgmgmigaaDoor
