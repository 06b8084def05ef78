/- SpanMany, of the program and of its model. -/
import Derived.Test.YtbbomajgmgmigaaDoorDS
import Derived.Deep.RegionWith
set_option linter.unusedSimpArgs false
set_option linter.unusedVariables false
namespace Go.Proofs.YtbbomajgmgmigaaDoor
open Go.ChangeShapes Go.WideShapes Go.ChangeAt Go.RowKit

/-- all places below n -/
def allPl (n : Int) : Int := 2 ^ n.toNat - 1
theorem allPl_bit {n q : Int} (h0 : 0 ≤ q) (hn : 0 ≤ n) : bit (allPl n) q = decide (q < n) := by
  unfold bit allPl
  have e : ((2 : Int) ^ n.toNat - 1).toNat = 2 ^ n.toNat - 1 := by
    have e1 : ((2 : Int) ^ n.toNat) = ((2 ^ n.toNat : Nat) : Int) := by simp
    have : 1 ≤ 2 ^ n.toNat := Nat.one_le_two_pow
    omega
  rw [e, Nat.testBit_two_pow_sub_one, Bool.eq_iff_iff]
  simp only [decide_eq_true_eq]
  omega
theorem allPl_bd {n : Int} {ws : List Wy} (hn : NetIs n ws) : 0 < allPl n ∧ allPl n < 64 ∧ allPl n < 2 ^ n.toNat := by
  have h := pow_bd n 6 (by have := hn.hi; omega)
  have h1 : (2 : Int) ^ 1 ≤ 2 ^ n.toNat := by
    have hh : 2 ^ 1 ≤ 2 ^ n.toNat := Nat.pow_le_pow_right (by omega) (by have := hn.lo; omega)
    have e1 : ((2 : Int) ^ n.toNat) = ((2 ^ n.toNat : Nat) : Int) := by simp
    omega
  unfold allPl; omega
theorem nds_bit (ws : List Wy) (s : Int) {n : Int} (hn : NetIs n ws) : ∀ (k j : Nat) (x : Wy), j < k → ws[j]? = some x → bit s j = true → bit (nodesTo ws s k) x.a = true ∧ bit (nodesTo ws s k) x.b = true
  | 0, j, _, hj, _, _ => by omega
  | k + 1, j, x, hj, hx, hb => by
    obtain ⟨a0, _, b0, _⟩ := hn.at_ hx
    cases hy : ws[k]? with
    | none =>
      have hjk : j ≠ k := fun e => by subst e; rw [hx] at hy; cases hy
      simp only [nodesTo, hy]
      exact nds_bit ws s hn k j x (by omega) hx hb
    | some y =>
      by_cases hjk : j = k
      · subst hjk
        rw [hx] at hy; injection hy with hy; subst hy
        rw [nodesTo_yes hx hb, bit_ior, bit_ior, wayPl_is, bit_ior, bit_ior, bit_shl _ _ a0 a0, bit_shl _ _ b0 b0]
        simp
      · have ih := nds_bit ws s hn k j x (by omega) hx hb
        cases hbk : bit s k
        · rw [nodesTo_no hy hbk]; exact ih
        · rw [nodesTo_yes hy hbk, bit_ior, bit_ior, ih.1, ih.2]
          simp
/-- if all places are joined, all are places of the set -/
theorem joins_nds {n : Int} {ws : List Wy} (hn : NetIs n ws) {s : Int} (h : joins ws s (allPl n) = true) : nds ws s = allPl n := by
  have hb := allPl_bd hn
  have hd := nds_bd hn s
  have hj := (joins_iff hn (by omega) hb.2.2).1 h
  refine set_ext hd.1 (by omega) fun q hq => ?_
  rw [allPl_bit hq (by have := hn.lo; omega)]
  by_cases hqn : q < n
  · rw [decide_eq_true hqn]
    apply Classical.byContradiction
    intro hno
    rw [Bool.not_eq_true] at hno
    -- then one comes from q to q alone
    obtain ⟨o, ho0, hon, hoq⟩ : ∃ o : Int, 0 ≤ o ∧ o < n ∧ o ≠ q := by
      by_cases h0 : q = 0
      · exact ⟨1, by omega, by have := hn.lo; omega, by omega⟩
      · exact ⟨0, by omega, by have := hn.lo; omega, by omega⟩
    have hr := hj q o hq ho0 (by rw [allPl_bit hq (by have := hn.lo; omega)]; simpa using hqn) (by rw [allPl_bit ho0 (by have := hn.lo; omega)]; simpa using hon)
    have hl := (reach_is (s := s) hn hq hqn).least (fun y => decide (y = q)) (by simp) (fun k x hx hbk => by
      have hk := (List.getElem?_eq_some_iff.1 hx).1
      obtain ⟨h1, h2⟩ := nds_bit ws s hn ws.length k x hk hx hbk
      have ha : x.a ≠ q := fun e => by rw [e] at h1; unfold nds at hno; rw [hno] at h1; cases h1
      have hb' : x.b ≠ q := fun e => by rw [e] at h2; unfold nds at hno; rw [hno] at h2; cases h2
      simp [ha, hb']) o ho0 hr
    simp at hl
    exact hoq hl
  · rw [decide_eq_false hqn]
    exact bit_big hd.1 hd.2.2 (by have := hn.lo; omega)
theorem pop_all : ∀ n : Fin 7, pop (2 ^ n.val - 1) = n.val := by decide +kernel
theorem pop_allPl {n : Int} (h0 : 0 ≤ n) (h6 : n ≤ 6) : pop (allPl n) = n := by
  have := pop_all ⟨n.toNat, by omega⟩
  unfold allPl
  simp only at this
  rw [this]; omega
theorem pop_zero_iff : ∀ s : Fin 512, pop (s.val : Int) = 0 → s.val = 0 := by decide +kernel
/-- trees that join all places are the sets that join all places and have one way fewer -/
theorem span_iff {n : Int} {ws : List Wy} (hn : NetIs n ws) {s : Int} : (tree ws s && joins ws s (allPl n)) = (pop s == n - 1 && joins ws s (allPl n)) := by
  cases h : joins ws s (allPl n)
  · simp
  · have hd := joins_nds hn h
    have hp := pop_allPl (n := n) (by have := hn.lo; omega) hn.hi
    have h2 := hn.lo
    unfold tree
    rw [hd, hp, h]
    simp only [Bool.and_true]
    by_cases hs : s = 0
    · -- no ways join no two places
      exfalso
      subst hs
      have hnz : nds ws 0 = 0 := by
        have : ∀ k, nodesTo ws 0 k = 0 := fun k => by
          induction k with
          | zero => rfl
          | succ k ih =>
            cases hx : ws[k]? with
            | none => simp only [nodesTo, hx]; exact ih
            | some x => rw [nodesTo_no hx (bit_zero_ _)]; exact ih
        exact this _
      have := (allPl_bd hn).1
      omega
    · have : (s == 0) = false := by simp [hs]
      rw [this, Bool.false_or]
/-- how many of the sets below k are trees that join all places -/
noncomputable def manyTo (n : Int) (ws : List Wy) : Nat → Int
  | 0 => 0
  | k + 1 => manyTo n ws k + if (pop k == n - 1 && joins ws k (allPl n)) = true then 1 else 0
theorem manyTo_bd (n : Int) (ws : List Wy) : ∀ k, 0 ≤ manyTo n ws k ∧ manyTo n ws k ≤ k
  | 0 => by simp [manyTo]
  | k + 1 => by
    have ih := manyTo_bd n ws k
    rw [manyTo]
    split <;> omega
noncomputable def manyOf (n : Int) (ws : List Wy) : Int := if netOk n ws = true then manyTo n ws (2 ^ ws.length) else -1

theorem allPlaces_any (n : Int) (v : Value) (h0 : 0 ≤ n) (h6 : n ≤ 6) (w : World) :
    Calls Tryd.prog 52 #[.agg #[.int .i64 n, v]] w fun e w' => e = .returned (.int .i64 (allPl n)) ∧ Below w.heap.size w w' := by
  have hp := pow_bd n 6 (by omega)
  go_enter Tryd.func52, Tryd.ntmps52
  go_wp2
  go_ret
  exact ⟨ret_int rfl, by go_grown⟩

end Go.Proofs.YtbbomajgmgmigaaDoor
