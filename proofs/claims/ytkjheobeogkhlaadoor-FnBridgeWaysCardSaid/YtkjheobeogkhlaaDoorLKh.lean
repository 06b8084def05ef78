/- How many trees join all places: with a way more, and with it doubled. Plain mathematics. -/
import Derived.Test.YtkjheobeogkhlaaDoorLKd
import Derived.Test.YtkjheobeogkhlaaDoorDV
set_option linter.unusedSimpArgs false
set_option linter.unusedVariables false
namespace Go.Proofs.YtkjheobeogkhlaaDoor
open Go.RowKit

noncomputable def spans (n : Int) (ws : List Wy) (s : Nat) : Bool := pop (s : Int) == n - 1 && joins ws (s : Int) (allPl n)
theorem many_cnt (n : Int) (ws : List Wy) : ∀ k, manyTo n ws k = cntP (spans n ws) k
  | 0 => rfl
  | k + 1 => by rw [manyTo, cntP, many_cnt n ws k]; rfl
theorem cntP_add (P : Nat → Bool) (a : Nat) : ∀ b, cntP P (a + b) = cntP P a + cntP (fun j => P (a + j)) b
  | 0 => by simp [cntP]
  | b + 1 => by
    rw [show a + (b + 1) = a + b + 1 from by omega, cntP, cntP, cntP_add P a b]
    omega
theorem cntP_congr {P Q : Nat → Bool} : ∀ k, (∀ j, j < k → P j = Q j) → cntP P k = cntP Q k
  | 0, _ => rfl
  | k + 1, h => by rw [cntP, cntP, cntP_congr k (fun j hj => h j (by omega)), h k (by omega)]
theorem cntP_none {P : Nat → Bool} : ∀ k, (∀ j, j < k → P j = false) → cntP P k = 0
  | 0, _ => rfl
  | k + 1, h => by rw [cntP, cntP_none k (fun j hj => h j (by omega)), h k (by omega)]; simp
theorem cntP_nn (P : Nat → Bool) : ∀ k, 0 ≤ cntP P k ∧ cntP P k ≤ k
  | 0 => by simp [cntP]
  | k + 1 => by
    have := cntP_nn P k
    rw [cntP]; split <;> omega
theorem cntP_pos {P : Nat → Bool} {j : Nat} (hj : P j = true) : ∀ k, j < k → 0 < cntP P k
  | 0, h => by omega
  | k + 1, h => by
    have := (cntP_nn P k).1
    rw [cntP]
    by_cases e : j = k
    · subst e; rw [hj]; simp; omega
    · have := cntP_pos hj k (by omega)
      split <;> omega
/-- there are trees just if something joins all -/
theorem many_pos {n : Int} {ws : List Wy} (hn : NetIs n ws) : 0 < manyTo n ws (2 ^ ws.length) ↔ joins ws (span ws (allPl n)) (allPl n) = true := by
  have hb := span_bd ws (allPl n)
  have e2 : ((2 : Int) ^ ws.length) = ((2 ^ ws.length : Nat) : Int) := by simp
  rw [many_cnt]
  constructor
  · intro h
    apply Classical.byContradiction
    intro hno
    have : cntP (spans n ws) (2 ^ ws.length) = 0 := cntP_none _ fun j _ => by
      unfold spans
      cases hj : joins ws (j : Int) (allPl n)
      · simp
      · exact absurd (span_joins hn hj) hno
    omega
  · intro h
    obtain ⟨s, hs⟩ := Int.eq_ofNat_of_zero_le hb.1
    refine cntP_pos (j := s) ?_ _ (by unfold full at hb; omega)
    unfold spans
    rw [← hs, h, span_pop hn h]; simp
theorem many_told {n : Int} {ws : List Wy} (hno : netOk n ws = true) : decide (manyOf n ws > 0) = decide (spanTreeOf n ws ≥ 0) := by
  have hn := netOk_t hno
  rw [decide_eq_decide]
  unfold manyOf
  rw [if_pos hno]
  have hp := many_pos hn
  rcases span_told n ws with ⟨h1, _⟩ | ⟨_, hj, h1, _, h3, _⟩
  · rw [h1]
    constructor
    · intro h
      have hj := hp.1 h
      have hb := span_bd ws (allPl n)
      unfold spanTreeOf at h1
      rw [if_pos hno, if_pos hj] at h1
      omega
    · intro h; omega
  · exact ⟨fun _ => h3, fun _ => hp.2 hj⟩
/-! ### bits of a set with one more way on top -/
theorem bit_top {j m : Nat} (hj : j < 2 ^ m) (q : Int) (hq : 0 ≤ q) : bit (((2 ^ m + j : Nat)) : Int) q = (bit (j : Int) q || decide (q = m)) := by
  obtain ⟨k, rfl⟩ := Int.eq_ofNat_of_zero_le hq
  have e : 2 ^ m + j = 2 ^ m ||| j := by
    have h := Nat.two_pow_add_eq_or_of_lt hj 1
    simpa using h
  unfold bit
  rw [Int.toNat_natCast, Int.toNat_natCast, e, Nat.testBit_or, Nat.testBit_two_pow]
  rw [Bool.or_comm]
  congr 1
  rw [decide_eq_decide]
  omega
theorem pop_top_all : ∀ (m : Fin 10) (j : Fin 512), j.val < 2 ^ m.val → pop (((2 ^ m.val + j.val : Nat)) : Int) = pop (j.val : Int) + 1 := by decide +kernel
theorem pop_top {m j : Nat} (hm : m ≤ 9) (hj : j < 2 ^ m) : pop (((2 ^ m + j : Nat)) : Int) = pop (j : Int) + 1 := by
  have h9 : 2 ^ m ≤ 2 ^ 9 := Nat.pow_le_pow_right (by omega) hm
  exact pop_top_all ⟨m, by omega⟩ ⟨j, by omega⟩ hj
/-- the last way doubled -/
theorem dbl_at {ws : List Wy} {m : Nat} {x : Wy} (hm : ws.length = m + 1) (hx : ws[m]? = some x) (k : Nat) : (ws ++ [x])[k]? = if k = m + 1 then some x else ws[k]? := by
  by_cases h : k < ws.length
  · rw [List.getElem?_append_left h, if_neg (by omega)]
  · rw [List.getElem?_append_right (by omega)]
    by_cases e : k = m + 1
    · rw [if_pos e, e, hm]; simp
    · have h1 : ws[k]? = none := List.getElem?_eq_none (by omega)
      have h2 : [x][k - ws.length]? = none := List.getElem?_eq_none (by simp; omega)
      rw [if_neg e, h1, h2]
theorem dbl_net {n : Int} {ws : List Wy} (hn : NetIs n ws) {m : Nat} {x : Wy} (hm : ws.length = m + 1) (h8 : ws.length ≤ 8) (hx : ws[m]? = some x) : NetIs n (ws ++ [x]) :=
  ⟨hn.lo, hn.hi, by simp; omega, fun y hy => by
    rw [List.mem_append] at hy
    rcases hy with hy | hy
    · exact hn.ok y hy
    · rw [List.mem_singleton] at hy; subst hy; exact hn.at_ hx⟩
theorem dbl_take (ws : List Wy) (x : Wy) : (ws ++ [x]).take ws.length = ws := by simp
/-- below the last way nothing is turned -/
theorem spans_take {n : Int} {ws : List Wy} {m s : Nat} (hs : s < 2 ^ m) : spans n (ws.take m) s = spans n ws s := by
  have e2 : ((2 : Int) ^ m) = ((2 ^ m : Nat) : Int) := by simp
  unfold spans
  rw [take_joins (by omega) (by omega)]
/-- the twin stands for the last way -/
theorem spans_twin {n : Int} {ws : List Wy} (hn : NetIs n ws) {m j : Nat} {x : Wy} (hm : ws.length = m + 1) (h8 : ws.length ≤ 8) (hx : ws[m]? = some x) (hj : j < 2 ^ m) :
    spans n (ws ++ [x]) (2 ^ (m + 1) + j) = spans n ws (2 ^ m + j) := by
  have hj2 : j < 2 ^ (m + 1) := Nat.lt_of_lt_of_le hj (Nat.pow_le_pow_right (by omega) (by omega))
  have ht1 := fun q hq => bit_top hj2 q hq
  have ht0 := fun q hq => bit_top hj q hq
  have ej : ((2 : Int) ^ m) = ((2 ^ m : Nat) : Int) := by simp
  have hjm : ∀ k : Nat, bit (j : Int) k = true → k < m := fun k hb => by have := set_sub (n := m) (by omega) (by omega) hb; omega
  unfold spans
  rw [pop_top (by omega) hj2, pop_top (by omega) hj]
  congr 1
  refine joins_alike (fun T => ?_) _
  constructor
  · intro h k y hy hb
    rw [ht0 k (by omega)] at hb
    simp only [Bool.or_eq_true, decide_eq_true_eq] at hb
    rcases hb with hb | hb
    · have hk := hjm k hb
      exact h k y (by rw [dbl_at hm hx, if_neg (by omega)]; exact hy) (by rw [ht1 k (by omega), hb]; rfl)
    · have hk : k = m := by omega
      subst hk
      rw [hx] at hy; injection hy with hy; subst hy
      exact h (k + 1) x (by rw [dbl_at hm hx, if_pos rfl]) (by rw [ht1 _ (by omega)]; simp)
  · intro h k y hy hb
    rw [ht1 k (by omega)] at hb
    simp only [Bool.or_eq_true, decide_eq_true_eq] at hb
    rw [dbl_at hm hx] at hy
    rcases hb with hb | hb
    · have hk := hjm k hb
      rw [if_neg (by omega)] at hy
      exact h k y hy (by rw [ht0 k (by omega), hb]; rfl)
    · have hk : k = m + 1 := by omega
      rw [if_pos hk] at hy
      injection hy with hy; subst hy
      exact h m x hx (by rw [ht0 m (by omega)]; simp)
/-- with both there is no tree -/
theorem spans_both {n : Int} {ws : List Wy} (hn : NetIs n ws) {m j : Nat} {x : Wy} (hm : ws.length = m + 1) (h8 : ws.length ≤ 8) (hx : ws[m]? = some x) (hj : j < 2 ^ m) :
    spans n (ws ++ [x]) (2 ^ (m + 1) + (2 ^ m + j)) = false := by
  have hd := dbl_net hn hm h8 hx
  have hal := allPl_bd hn
  have h2 := hn.lo
  have hp2 : 2 ^ (m + 1) = 2 ^ m * 2 := Nat.pow_succ 2 m
  have hj2 : 2 ^ m + j < 2 ^ (m + 1) := by omega
  have h9 : 2 ^ m ≤ 2 ^ 7 := Nat.pow_le_pow_right (by omega) (by omega)
  have ht1 := fun q hq => bit_top hj2 q hq
  have ht0 := fun q hq => bit_top hj q hq
  have ej : ((2 : Int) ^ m) = ((2 ^ m : Nat) : Int) := by simp
  have hjm : ∀ k : Nat, bit (j : Int) k = true → k < m := fun k hb => by have := set_sub (n := m) (by omega) (by omega) hb; omega
  cases hs : spans n (ws ++ [x]) (2 ^ (m + 1) + (2 ^ m + j))
  · rfl
  · exfalso
    unfold spans at hs
    simp only [Bool.and_eq_true, beq_iff_eq] at hs
    have hpa := pop_allPl (n := n) (by omega) hn.hi
    have hbm : bit (((2 ^ (m + 1) + (2 ^ m + j) : Nat)) : Int) (m : Nat) = true := by rw [ht1 m (by omega), ht0 m (by omega)]; simp
    have htw := tree_way hd (s := ((2 ^ (m + 1) + (2 ^ m + j) : Nat) : Int)) (e := allPl n) (by omega) (by omega) (by omega) hal.2.2 (by rw [hs.1, hpa]) (k := m) (by omega) hbm (a := 0) (Int.le_refl _) (by rw [allPl_bit (Int.le_refl _) (by omega)]; simp; omega)
    have hless : ((2 ^ (m + 1) + (2 ^ m + j) : Nat) : Int) - 2 ^ m = ((2 ^ (m + 1) + j : Nat) : Int) := by rw [ej]; omega
    have hj3 : j < 2 ^ (m + 1) := by omega
    have ht2 := fun q hq => bit_top hj3 q hq
    rw [hless] at htw
    -- the twin joins what the last way did
    have : joins (ws ++ [x]) ((2 ^ (m + 1) + j : Nat) : Int) (allPl n) = true := by
      rw [joins_all hd]
      intro p q p0 p1 q0 q1
      refine re_over hd p0 p1 q0 (fun k y hy hb => ?_) ((joins_all hd).1 hs.2 p q p0 p1 q0 q1)
      rw [ht1 k (by omega), ht0 k (by omega)] at hb
      simp only [Bool.or_eq_true, decide_eq_true_eq] at hb
      rcases hb with (hb | hb) | hb
      · exact re_way hd hy (by rw [ht2 k (by omega), hb]; rfl)
      · have hk : k = m := by omega
        subst hk
        rw [dbl_at hm hx, if_neg (by omega), hx] at hy
        injection hy with hy; subst hy
        exact re_way (k := k + 1) hd (by rw [dbl_at hm hx, if_pos rfl]) (by rw [ht2 _ (by omega)]; simp)
      · exact re_way hd hy (by rw [ht2 k (by omega)]; simp; omega)
    rw [this] at htw; cases htw
/-- as many more with the last way doubled as without it fewer -/
theorem many_dbl {n : Int} {ws : List Wy} (hno : netOk n ws = true) {m : Nat} {x : Wy} (hm : ws.length = m + 1) (h8 : ws.length ≤ 8) (hx : ws[m]? = some x) :
    manyOf n (ws ++ [x]) - manyOf n ws = manyOf n ws - manyOf n (ws.take m) ∧ 0 ≤ manyOf n (ws ++ [x]) ∧ manyOf n (ws ++ [x]) ≤ 512 ∧ 0 ≤ manyOf n (ws.take m) ∧ manyOf n (ws.take m) ≤ 512 ∧ 0 ≤ manyOf n ws ∧ manyOf n ws ≤ 512 := by
  have hn := netOk_t hno
  have hp2 : 2 ^ (m + 1) = 2 ^ m + 2 ^ m := by rw [Nat.pow_succ]; omega
  have hp3 : 2 ^ (m + 1 + 1) = 2 ^ (m + 1) + (2 ^ m + 2 ^ m) := by rw [Nat.pow_succ]; omega
  have hmt : (ws.take m).length = m := by rw [List.length_take]; omega
  have h9 : 2 ^ m ≤ 2 ^ 7 := Nat.pow_le_pow_right (by omega) (by omega)
  have e1 : manyOf n (ws.take m) = cntP (spans n ws) (2 ^ m) := by
    unfold manyOf
    rw [if_pos (netOk_of (take_net hn m)), hmt, many_cnt]
    exact cntP_congr _ fun j hj => spans_take hj
  have e2 : manyOf n ws = cntP (spans n ws) (2 ^ m) + cntP (fun j => spans n ws (2 ^ m + j)) (2 ^ m) := by
    unfold manyOf
    rw [if_pos hno, hm, many_cnt, hp2, cntP_add]
  have e3 : manyOf n (ws ++ [x]) = manyOf n ws + cntP (fun j => spans n ws (2 ^ m + j)) (2 ^ m) := by
    unfold manyOf
    rw [if_pos hno, if_pos (netOk_of (dbl_net hn hm h8 hx)), List.length_append, List.length_singleton, hm, many_cnt, many_cnt, hp3, cntP_add, cntP_add]
    have f1 : cntP (spans n (ws ++ [x])) (2 ^ (m + 1)) = cntP (spans n ws) (2 ^ (m + 1)) := cntP_congr _ fun j hj => by
      have := spans_take (n := n) (ws := ws ++ [x]) (m := ws.length) (s := j) (by rw [hm]; exact hj)
      rw [dbl_take] at this
      exact this.symm
    have f2 : cntP (fun j => spans n (ws ++ [x]) (2 ^ (m + 1) + j)) (2 ^ m) = cntP (fun j => spans n ws (2 ^ m + j)) (2 ^ m) := cntP_congr _ fun j hj => spans_twin hn hm h8 hx hj
    have f3 : cntP (fun j => spans n (ws ++ [x]) (2 ^ (m + 1) + (2 ^ m + j))) (2 ^ m) = 0 := cntP_none _ fun j hj => spans_both hn hm h8 hx hj
    omega
  have b1 := cntP_nn (spans n ws) (2 ^ m)
  have b2 := cntP_nn (fun j => spans n ws (2 ^ m + j)) (2 ^ m)
  omega
end Go.Proofs.YtkjheobeogkhlaaDoor
