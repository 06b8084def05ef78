/- A bridge taken away: there are trees without each other way, and none without a bridge. Plain mathematics. -/
import Derived.Test.YtkjheobeogkhlaaDoorLKh
import Derived.Test.YtkjheobeogkhlaaDoorLK
set_option linter.unusedSimpArgs false
set_option linter.unusedVariables false
namespace Go.Proofs.YtkjheobeogkhlaaDoor
open Go.RowKit

/-- the first j ways but way k -/
def rmTo (ws : List Wy) (k : Nat) : Nat → List Wy
  | 0 => []
  | j + 1 => match ws[j]? with
    | some x => if j = k then rmTo ws k j else rmTo ws k j ++ [x]
    | none => rmTo ws k j
theorem rmTo_in {ws : List Wy} {k j : Nat} {x : Wy} (hx : ws[j]? = some x) (h : j ≠ k) : rmTo ws k (j + 1) = rmTo ws k j ++ [x] := by
  rw [rmTo, hx]; simp only; rw [if_neg h]
theorem rmTo_out {ws : List Wy} {k j : Nat} {x : Wy} (hx : ws[j]? = some x) (h : j = k) : rmTo ws k (j + 1) = rmTo ws k j := by
  rw [rmTo, hx]; simp only; rw [if_pos h]
theorem rmTo_len (ws : List Wy) (k : Nat) : ∀ j, j ≤ ws.length → (rmTo ws k j).length = if k < j then j - 1 else j
  | 0, _ => by simp [rmTo]
  | j + 1, h => by
    obtain ⟨x, hx⟩ : ∃ x, ws[j]? = some x := ⟨_, List.getElem?_eq_getElem (by omega)⟩
    have ih := rmTo_len ws k j (by omega)
    by_cases e : j = k
    · rw [rmTo_out hx e, ih]; split <;> split <;> omega
    · rw [rmTo_in hx e, List.length_append, ih, List.length_singleton]; split <;> split <;> omega
theorem rmTo_mem (ws : List Wy) (k : Nat) (y : Wy) : ∀ j, j ≤ ws.length → (y ∈ rmTo ws k j ↔ ∃ i, i < j ∧ i ≠ k ∧ ws[i]? = some y)
  | 0, _ => by simp [rmTo]
  | j + 1, h => by
    obtain ⟨x, hx⟩ : ∃ x, ws[j]? = some x := ⟨_, List.getElem?_eq_getElem (by omega)⟩
    have ih := rmTo_mem ws k y j (by omega)
    by_cases e : j = k
    · rw [rmTo_out hx e, ih]
      constructor
      · rintro ⟨i, h1, h2, h3⟩; exact ⟨i, by omega, h2, h3⟩
      · rintro ⟨i, h1, h2, h3⟩; exact ⟨i, by omega, h2, h3⟩
    · rw [rmTo_in hx e, List.mem_append, ih, List.mem_singleton]
      constructor
      · rintro (⟨i, h1, h2, h3⟩ | rfl)
        · exact ⟨i, by omega, h2, h3⟩
        · exact ⟨j, by omega, e, hx⟩
      · rintro ⟨i, h1, h2, h3⟩
        by_cases ei : i = j
        · subst ei; rw [hx] at h3; injection h3 with h3; exact .inr h3.symm
        · exact .inl ⟨i, by omega, h2, h3⟩
def rm (ws : List Wy) (k : Nat) : List Wy := rmTo ws k ws.length
theorem rm_len {ws : List Wy} {k : Nat} (hk : k < ws.length) : (rm ws k).length = ws.length - 1 := by
  unfold rm
  rw [rmTo_len ws k _ (Nat.le_refl _), if_pos hk]
theorem rm_net {n : Int} {ws : List Wy} (hn : NetIs n ws) {k : Nat} (hk : k < ws.length) : NetIs n (rm ws k) :=
  ⟨hn.lo, hn.hi, by rw [rm_len hk]; have := hn.len; omega, fun y hy => by
    obtain ⟨i, _, _, hi⟩ := (rmTo_mem ws k y _ (Nat.le_refl _)).1 hy
    exact hn.at_ hi⟩
theorem full_less_bit {len k j : Nat} (hk : k < len) (hl : len ≤ 9) (hj : j < len) : bit (full len - 2 ^ k) j = !decide (j = k) := by
  have hfb := full_bd len hl
  have h := (idiff_one (u := full len) (k := k) hfb.1 (by omega) (by omega) (full_bit _ _ hk)).1
  rw [← h, bit_less (full len) k j (by omega), full_bit _ _ hj, Bool.true_and]
  congr 1
  rw [decide_eq_decide]
  omega
theorem rm_joins {n : Int} {ws : List Wy} (hn : NetIs n ws) {k : Nat} (hk : k < ws.length) (e : Int) : joins (rm ws k) (full (rm ws k).length) e = joins ws (full ws.length - 2 ^ k) e := by
  have hfb := full_bd ws.length hn.len
  have hone := idiff_one (u := full ws.length) (k := k) hfb.1 (by omega) (by have := hn.len; omega) (full_bit _ _ hk)
  refine joins_alike (fun T => ?_) e
  constructor
  · intro h j x hx hb
    have hj := (List.getElem?_eq_some_iff.1 hx).1
    rw [full_less_bit hk hn.len hj] at hb
    have hjk : j ≠ k := by simpa using hb
    have hm : x ∈ rm ws k := (rmTo_mem ws k x _ (Nat.le_refl _)).2 ⟨j, hj, hjk, hx⟩
    obtain ⟨i, hi⟩ := List.getElem?_of_mem hm
    exact h i x hi (full_bit _ _ (List.getElem?_eq_some_iff.1 hi).1)
  · intro h i x hx hb
    have hm : x ∈ rm ws k := List.mem_of_getElem? hx
    obtain ⟨j, hj, hjk, hxj⟩ := (rmTo_mem ws k x _ (Nat.le_refl _)).1 hm
    exact h j x hxj (by rw [full_less_bit hk hn.len hj]; simpa using hjk)
theorem brTo_bit {n : Int} {ws : List Wy} (hn : NetIs n ws) (all : Int) (j : Nat) (x : Wy) (hx : ws[j]? = some x) : ∀ m, bit (brTo ws all m) j = (decide (j < m) && !bit (reach ws (all - 2 ^ j) x.a) x.b)
  | 0 => by rw [show brTo ws all 0 = 0 from rfl, bit_zero_]; simp
  | m + 1 => by
    have ih := brTo_bit hn all j x hx m
    cases hy : ws[m]? with
    | none =>
      have hj := (List.getElem?_eq_some_iff.1 hx).1
      have hm : ¬ m < ws.length := fun h => by rw [List.getElem?_eq_getElem h] at hy; cases hy
      have : brTo ws all (m + 1) = brTo ws all m := by rw [brTo, hy]
      rw [this, ih]
      have h1 : decide (j < m) = true := by simp; omega
      have h2 : decide (j < m + 1) = true := by simp; omega
      rw [h1, h2]
    | some y =>
      by_cases e : j = m
      · subst e
        rw [hx] at hy; injection hy with hy; subst hy
        have hb := brTo_bd ws all j
        have hjj : bit (brTo ws all j) j = false := bit_big hb.1 hb.2 (Int.le_refl _)
        cases hr : bit (reach ws (all - 2 ^ j) x.a) x.b
        · rw [brTo_out hx hr, bit_ior, hjj, bit_pow j j (by omega)]; simp
        · rw [brTo_in hx hr, hjj]; simp
      · have hd : decide (j < m + 1) = decide (j < m) := by rw [decide_eq_decide]; omega
        rw [hd, ← ih]
        cases hr : bit (reach ws (all - 2 ^ m) y.a) y.b
        · rw [brTo_out hy hr, bit_ior, bit_pow m j (by omega)]
          have : decide ((j : Int) = m) = false := by simp; omega
          rw [this, Bool.or_false]
        · rw [brTo_in hy hr]
/-- without way k there are trees just if its places are joined by all others -/
theorem rm_many {n : Int} {ws : List Wy} (hno : netOk n ws = true) (hj : joins ws (span ws (allPl n)) (allPl n) = true) {k : Nat} {x : Wy} (hx : ws[k]? = some x) :
    (manyOf n (rm ws k) == 0) = bit (brTo ws (full ws.length) ws.length) k := by
  have hn := netOk_t hno
  have hk := (List.getElem?_eq_some_iff.1 hx).1
  have hr := rm_net hn hk
  have hxa := hn.at_ hx
  have hfb := full_bd ws.length hn.len
  have hfr := full_bd (rm ws k).length hr.len
  have hsb := span_bd ws (allPl n)
  have hone := idiff_one (u := full ws.length) (k := k) hfb.1 (by omega) (by have := hn.len; omega) (full_bit _ _ hk)
  rw [brTo_bit hn _ k x hx]
  have hd : decide (k < ws.length) = true := by simpa using hk
  rw [hd, Bool.true_and]
  have hall := full_joins hn hsb.1 hsb.2 hj
  have hmp := many_pos hr
  have hsr := span_bd (rm ws k) (allPl n)
  have key : joins (rm ws k) (span (rm ws k) (allPl n)) (allPl n) = true ↔ bit (reach ws (full ws.length - 2 ^ k) x.a) x.b = true := by
    constructor
    · intro h
      have h2 := full_joins hr hsr.1 hsr.2 h
      rw [rm_joins hn hk] at h2
      exact (joins_all hn).1 h2 x.a x.b hxa.1 hxa.2.1 hxa.2.2.1 hxa.2.2.2.1
    · intro h
      refine span_joins hr (t := full (rm ws k).length) ?_
      rw [rm_joins hn hk, joins_all hn]
      intro p q p0 p1 q0 q1
      refine re_over hn p0 p1 q0 (fun j y hy _ => ?_) ((joins_all hn).1 hall p q p0 p1 q0 q1)
      have hj := (List.getElem?_eq_some_iff.1 hy).1
      by_cases e : j = k
      · subst e; rw [hx] at hy; injection hy with hy; subst hy; exact h
      · exact re_way hn hy (by rw [full_less_bit hk hn.len hj]; simpa using e)
  have hnn : 0 ≤ manyTo n (rm ws k) (2 ^ (rm ws k).length) := (manyTo_bd n _ _).1
  unfold manyOf
  rw [if_pos (netOk_of hr), Bool.eq_iff_iff, beq_iff_eq, Bool.not_eq_true', ← Bool.not_eq_true, ← key, ← hmp]
  omega
/-- bridges are in the tree -/
theorem bridges_in {n : Int} {ws : List Wy} (hn : NetIs n ws) (hj : joins ws (span ws (allPl n)) (allPl n) = true) : idiff (brTo ws (full ws.length) ws.length) (span ws (allPl n)) = 0 := by
  have hb := brTo_bd ws (full ws.length) ws.length
  have hsb := span_bd ws (allPl n)
  refine (idiff_zero hb.1).2 fun q hq h => ?_
  obtain ⟨k, rfl⟩ := Int.eq_ofNat_of_zero_le hq
  have hk : k < ws.length := by have := set_sub hb.1 hb.2 h; omega
  obtain ⟨x, hx⟩ : ∃ x, ws[k]? = some x := ⟨_, List.getElem?_eq_getElem hk⟩
  have hxa := hn.at_ hx
  rw [brTo_bit hn _ k x hx] at h
  simp only [Bool.and_eq_true, Bool.not_eq_true'] at h
  cases hs : bit (span ws (allPl n)) k
  · exfalso
    have h1 := (joins_all hn).1 hj x.a x.b hxa.1 hxa.2.1 hxa.2.2.1 hxa.2.2.2.1
    have h2 := re_mono (t := full ws.length - 2 ^ k) hn hxa.1 hxa.2.1 hxa.2.2.1 (fun j hj0 hbj => by
      obtain ⟨i, rfl⟩ := Int.eq_ofNat_of_zero_le hj0
      have hi : i < ws.length := by have := set_sub (n := ws.length) hsb.1 (by unfold full at hsb; omega) hbj; omega
      rw [full_less_bit hk hn.len hi]
      have : i ≠ k := fun e => by subst e; rw [hs] at hbj; cases hbj
      simpa using this) h1
    rw [h.2] at h2; cases h2
  · rfl
end Go.Proofs.YtkjheobeogkhlaaDoor
