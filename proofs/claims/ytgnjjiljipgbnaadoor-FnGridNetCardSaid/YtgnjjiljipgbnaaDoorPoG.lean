/- Grids as nets: how far their places are from each other, and what roots of three ends and least trees cost. Plain mathematics. -/
import Derived.Test.YtgnjjiljipgbnaaDoorPoM
import Derived.Test.YtgnjjiljipgbnaaDoorPoW
import Derived.Test.YtgnjjiljipgbnaaDoorCuL
import Derived.Test.YtgnjjiljipgbnaaDoorST
set_option linter.unusedVariables false
set_option linter.unusedSimpArgs false
namespace Go.Proofs.YtgnjjiljipgbnaaDoor
open Go.RowKit

/-- the point of a place -/
def gPt (C k : Nat) : Int × Int := (((k / C : Nat) : Int), ((k % C : Nat) : Int))
def gPts (C : Nat) (n : Nat) : List (Int × Int) := (List.range n).map (gPt C)
/-- the places above a row, and before a column -/
def gCols (C c : Nat) : Nat → Int
  | 0 => 0
  | k + 1 => gCols C c k + if k % C < c then 2 ^ k else 0
def gCuts (R C : Nat) : List Int := ((List.range R).map fun r => 2 ^ (r * C) - 1) ++ ((List.range C).map fun c => gCols C c (R * C))
def cutsOf (R C : Nat) (E : Int) : List (Int × Int) := ((gCuts R C).filter fun P => parts E P).map fun P => (P, 1)
def tri (a b c : Nat) : Int := ior (ior (2 ^ a) (2 ^ b)) (2 ^ c)
def wayB (ws : List Wy) (a c : Nat) : Bool := ws.any fun x => x.c == 1 && ((x.a == (a : Int) && x.b == (c : Int)) || (x.a == (c : Int) && x.b == (a : Int)))
theorem grid_net_all : ∀ R C : Fin 7, gOk R.val C.val = true → netOk ((R.val * C.val : Nat) : Int) (gridWs R.val C.val) = true := by decide +kernel
set_option maxRecDepth 100000 in
theorem grid_pack_all : ∀ R C : Fin 7, gOk R.val C.val = true → ∀ a b c : Fin 6, a.val < R.val * C.val → b.val < R.val * C.val → c.val < R.val * C.val →
    packsOk ((R.val * C.val : Nat) : Int) (gridWs R.val C.val) (tri a.val b.val c.val) (cutsOf R.val C.val (tri a.val b.val c.val)) = true ∧ wsum (cutsOf R.val C.val (tri a.val b.val c.val)) = boxOf [gPt C.val a.val, gPt C.val b.val, gPt C.val c.val] := by decide +kernel
theorem grid_next_all : ∀ R C : Fin 7, gOk R.val C.val = true → ∀ a b : Fin 6, a.val < R.val * C.val → b.val < R.val * C.val → a.val ≠ b.val →
    ∃ c : Fin 6, c.val < R.val * C.val ∧ wayB (gridWs R.val C.val) a.val c.val = true ∧ apart (gPt C.val c.val) (gPt C.val b.val) + 1 = apart (gPt C.val a.val) (gPt C.val b.val) := by decide +kernel
theorem grid_mid_all : ∀ R C : Fin 7, gOk R.val C.val = true → ∀ a b c : Fin 6, a.val < R.val * C.val → b.val < R.val * C.val → c.val < R.val * C.val →
    ∃ m : Fin 6, m.val < R.val * C.val ∧ apart (gPt C.val m.val) (gPt C.val a.val) + apart (gPt C.val m.val) (gPt C.val b.val) + apart (gPt C.val m.val) (gPt C.val c.val) = boxOf [gPt C.val a.val, gPt C.val b.val, gPt C.val c.val] := by decide +kernel
theorem grid_cost_all : ∀ R C : Fin 7, gOk R.val C.val = true → ∀ s : Fin 128, s.val < 2 ^ (gridWs R.val C.val).length → cost (gridWs R.val C.val) (s.val : Int) = pop (s.val : Int) := by decide +kernel
theorem grid_len_all : ∀ R C : Fin 7, gOk R.val C.val = true → (gridWs R.val C.val).length ≤ 7 := by decide +kernel
theorem grid_pts_all : ∀ R C : Fin 7, gOk R.val C.val = true → pointsOk (gPts C.val (R.val * C.val)) = true := by decide +kernel

theorem grid_n {R C : Nat} (hR : R < 7) (hC : C < 7) (hg : gOk R C = true) : 2 ≤ R * C ∧ R * C ≤ 6 := by unfold gOk at hg; simpa using hg
theorem tri_bit (a b c : Nat) {q : Int} (hq : 0 ≤ q) : bit (tri a b c) q = (decide (q = a) || decide (q = b) || decide (q = c)) := by
  unfold tri
  rw [bit_ior, bit_ior, bit_pow a q hq, bit_pow b q hq, bit_pow c q hq]
theorem tri_bd {R C : Nat} {a b c : Nat} (ha : a < R * C) (hb : b < R * C) (hc : c < R * C) : 0 ≤ tri a b c ∧ tri a b c < 2 ^ (((R * C : Nat)) : Int).toNat := by
  unfold tri
  exact ior_bd _ _ _ (ior_bd _ _ _ (pow_lt ha).2 (pow_lt hb).2).2 (pow_lt hc).2
section
variable {R C : Nat} (hR : R < 7) (hC : C < 7) (hg : gOk R C = true)
include hR hC hg
theorem grid_net : netOk ((R * C : Nat) : Int) (gridWs R C) = true := grid_net_all ⟨R, hR⟩ ⟨C, hC⟩ hg
theorem grid_is : NetIs ((R * C : Nat) : Int) (gridWs R C) := netOk_t (grid_net hR hC hg)
theorem grid_step {a c : Nat} (ha : a < R * C) (hc : c < R * C) (h : wayB (gridWs R C) a c = true) : 0 ≤ farF (gridWs R C) (R * C) a c ∧ farF (gridWs R C) (R * C) a c ≤ 1 := by
  unfold wayB at h
  rw [List.any_eq_true] at h
  obtain ⟨x, hx, h⟩ := h
  obtain ⟨k, hk, hxk⟩ := List.mem_iff_getElem.1 hx
  have hw := farF_way (grid_is hR hC hg) (k := k) (x := x) (by rw [← hxk]; exact List.getElem?_eq_getElem hk)
  simp only [Bool.and_eq_true, Bool.or_eq_true, beq_iff_eq] at h
  obtain ⟨h1, h2⟩ := h
  unfold WayLe at hw
  rcases h2 with ⟨h3, h4⟩ | ⟨h3, h4⟩
  · rw [h1, h3, h4, Int.toNat_natCast, Int.toNat_natCast] at hw; exact hw.1
  · rw [h1, h3, h4, Int.toNat_natCast, Int.toNat_natCast] at hw; exact hw.2
theorem grid_far_le : ∀ (d a b : Nat), a < R * C → b < R * C → apart (gPt C a) (gPt C b) = d → 0 ≤ farF (gridWs R C) (R * C) a b ∧ farF (gridWs R C) (R * C) a b ≤ d
  | d, a, b, ha, hb, hd => by
    have hn := grid_n hR hC hg
    by_cases e : a = b
    · subst e; rw [farF_diag (grid_is hR hC hg) ha]; omega
    · obtain ⟨c, hc, hw, hap⟩ := grid_next_all ⟨R, hR⟩ ⟨C, hC⟩ hg ⟨a, by omega⟩ ⟨b, by omega⟩ ha hb e
      simp only at hc hw hap
      have hnn := apart_nn (gPt C c.val) (gPt C b)
      match d, hd with
      | 0, hd => omega
      | d' + 1, hd =>
        have ih := grid_far_le d' c.val b hc hb (by omega)
        have h1 := grid_step hR hC hg ha hc hw
        have h2 := (farF_tri (grid_is hR hC hg) (m := R * C) hn.2).tri a b c.val ha hb hc h1.1 ih.1
        omega
/-- cuts bound from below -/
theorem grid_ge {a b c : Nat} (ha : a < R * C) (hb : b < R * C) (hc : c < R * C) : rc (gridWs R C) (tri a b c) < 0 ∨ boxOf [gPt C a, gPt C b, gPt C c] ≤ rc (gridWs R C) (tri a b c) := by
  have hn := grid_n hR hC hg
  obtain ⟨h1, h2⟩ := grid_pack_all ⟨R, hR⟩ ⟨C, hC⟩ hg ⟨a, by omega⟩ ⟨b, by omega⟩ ⟨c, by omega⟩ ha hb hc
  simp only at h1 h2
  have hb' := tri_bd ha hb hc
  have h3 := (packSum_rc h1).2.2.2
  rw [rootCost_rc (grid_net hR hC hg) (plOk_mk hb'.1 hb'.2), h2] at h3
  omega
theorem grid_le {a b c : Nat} (ha : a < R * C) (hb : b < R * C) (hc : c < R * C) : 0 ≤ rc (gridWs R C) (tri a b c) ∧ rc (gridWs R C) (tri a b c) ≤ boxOf [gPt C a, gPt C b, gPt C c] := by
  have hn := grid_n hR hC hg
  have hi := grid_is hR hC hg
  obtain ⟨m, hm, hs⟩ := grid_mid_all ⟨R, hR⟩ ⟨C, hC⟩ hg ⟨a, by omega⟩ ⟨b, by omega⟩ ⟨c, by omega⟩ ha hb hc
  simp only at hm hs
  obtain ⟨m, hm6⟩ := m
  simp only at hm hs
  have na := apart_nn (gPt C m) (gPt C a)
  have nb := apart_nn (gPt C m) (gPt C b)
  have nc := apart_nn (gPt C m) (gPt C c)
  have fa := grid_far_le hR hC hg (apart (gPt C m) (gPt C a)).toNat m a hm ha (by omega)
  have fb := grid_far_le hR hC hg (apart (gPt C m) (gPt C b)).toNat m b hm hb (by omega)
  have fc := grid_far_le hR hC hg (apart (gPt C m) (gPt C c)).toNat m c hm hc (by omega)
  have z0 : (0 : Int) < 2 ^ (((R * C : Nat)) : Int).toNat := Int.lt_trans (pow_lt ha).1 (pow_lt ha).2
  have r0 := rc_one hi hm
  have b0 := withp_bd (Int.le_refl 0) z0 hm
  have e0 : withp (withp 0 m) m = withp 0 m := withp_has b0.1 (by rw [withp_bit 0 m (by omega)]; simp)
  have g1 := rc_grow hi b0.1 b0.2 hm ha (by rw [e0, r0]; omega) fa.1
  rw [e0, r0] at g1
  have b1 := withp_bd b0.1 b0.2 ha
  have e1 : withp (withp (withp 0 m) a) m = withp (withp 0 m) a := withp_has b1.1 (by rw [withp_bit _ a (by omega), withp_bit 0 m (by omega)]; simp)
  have g2 := rc_grow hi b1.1 b1.2 hm hb (by rw [e1]; omega) fb.1
  rw [e1] at g2
  have b2 := withp_bd b1.1 b1.2 hb
  have e2 : withp (withp (withp (withp 0 m) a) b) m = withp (withp (withp 0 m) a) b := withp_has b2.1 (by rw [withp_bit _ b (by omega), withp_bit _ a (by omega), withp_bit 0 m (by omega)]; simp)
  have g3 := rc_grow hi b2.1 b2.2 hm hc (by rw [e2]; omega) fc.1
  rw [e2] at g3
  have b3 := withp_bd b2.1 b2.2 hc
  have ht := tri_bd ha hb hc
  have hm2 := rc_mono hi ht.1 ht.2 b3.1 b3.2 (fun q hq hb => by
    rw [tri_bit a b c hq] at hb
    rw [withp_bit _ c hq, withp_bit _ b hq, withp_bit _ a hq, withp_bit _ m hq]
    simp only [Bool.or_eq_true, decide_eq_true_eq] at hb ⊢
    omega) g3.1
  omega
/-- roots of three ends go half round -/
theorem grid_root {a b c : Nat} (ha : a < R * C) (hb : b < R * C) (hc : c < R * C) : rootCost ((R * C : Nat) : Int) (gridWs R C) (tri a b c) = boxOf [gPt C a, gPt C b, gPt C c] := by
  have ht := tri_bd ha hb hc
  rw [rootCost_rc (grid_net hR hC hg) (plOk_mk ht.1 ht.2)]
  have h1 := grid_ge hR hC hg ha hb hc
  have h2 := grid_le hR hC hg ha hb hc
  omega
/-- as far as their points -/
theorem grid_far {a b : Nat} (ha : a < R * C) (hb : b < R * C) : farF (gridWs R C) (R * C) a b = apart (gPt C a) (gPt C b) := by
  have hn := apart_nn (gPt C a) (gPt C b)
  have h1 := grid_far_le hR hC hg (apart (gPt C a) (gPt C b)).toNat a b ha hb (by omega)
  have h2 := rc_both (grid_is hR hC hg) ha hb
  have h3 := grid_ge hR hC hg ha hb hb
  have e : tri a b b = both a b := by
    have hbb := both_bd (n := ((R * C : Nat) : Int)) (a := (a : Int)) (b := (b : Int)) (by omega) (by omega) (by omega) (by omega)
    refine set_ext (tri_bd ha hb hb).1 hbb.1 fun q hq => ?_
    rw [tri_bit a b b hq, bit_both (by omega) (by omega) hq]
    simp
  rw [e, h2] at h3
  have h4 : apart (gPt C a) (gPt C b) ≤ boxOf [gPt C a, gPt C b, gPt C b] := box_far (by simp) (by simp)
  omega
theorem grid_joins : joins (gridWs R C) (full (gridWs R C).length) (allPl ((R * C : Nat) : Int)) = true := by
  rw [joins_all (grid_is hR hC hg)]
  intro p q p0 p1 q0 q1
  obtain ⟨a, rfl⟩ := Int.eq_ofNat_of_zero_le p0
  obtain ⟨b, rfl⟩ := Int.eq_ofNat_of_zero_le q0
  have ha : a < R * C := by omega
  have hb : b < R * C := by omega
  rw [← farF_join (grid_is hR hC hg) ha hb, grid_far hR hC hg ha hb]
  exact apart_nn _ _
theorem grid_span : spanCostOf ((R * C : Nat) : Int) (gridWs R C) = ((R * C : Nat) : Int) - 1 := by
  have hi := grid_is hR hC hg
  have hj := span_joins hi (grid_joins hR hC hg)
  unfold spanCostOf
  rw [if_pos (grid_net hR hC hg), if_pos hj, ← span_pop hi hj]
  have hb := span_bd (gridWs R C) (allPl ((R * C : Nat) : Int))
  obtain ⟨s, hs⟩ := Int.eq_ofNat_of_zero_le hb.1
  rw [hs] at hb ⊢
  have hl := grid_len_all ⟨R, hR⟩ ⟨C, hC⟩ hg
  simp only at hl
  have h1 := (full_lt (gridWs R C).length (s : Int)).1 hb.2
  have e9 : ((2 : Int) ^ (gridWs R C).length) = ((2 ^ (gridWs R C).length : Nat) : Int) := by simp
  have h2 : 2 ^ (gridWs R C).length ≤ 128 := Nat.pow_le_pow_right (n := 2) (by omega) hl
  exact grid_cost_all ⟨R, hR⟩ ⟨C, hC⟩ hg ⟨s, by omega⟩ (by simp only; omega)
theorem grid_pts : pointsOk (gPts C (R * C)) = true := grid_pts_all ⟨R, hR⟩ ⟨C, hC⟩ hg
end
end Go.Proofs.YtgnjjiljipgbnaaDoor
