/- The least set that joins two places: it joins them, no way of it is needless, and it costs what the table tells. -/
import Derived.Test.YtbbomajgmgmigaaDoorPaM
import Derived.Test.YtbbomajgmgmigaaDoorDT
import Derived.Test.YtbbomajgmgmigaaDoorTree
set_option linter.unusedSimpArgs false
set_option linter.unusedVariables false
namespace Go.Proofs.YtbbomajgmgmigaaDoor
open Go.RowKit

theorem lessb_all : ∀ (u : Fin 512) (k j : Fin 9), u.val.testBit k.val = true → (u.val - 2 ^ k.val).testBit j.val = (u.val.testBit j.val && !(j.val == k.val)) := by decide +kernel
theorem lessb {u : Int} {k j : Nat} (u0 : 0 ≤ u) (u1 : u < 512) (hk : k < 9) (hj : j < 9) (h : bit u k = true) : bit (u - 2 ^ k) j = (bit u j && !(j == k)) ∧ (2 : Int) ^ k ≤ u := by
  have hb : u.toNat.testBit k = true := by simpa [bit] using h
  have := lessb_all ⟨u.toNat, by omega⟩ ⟨k, hk⟩ ⟨j, hj⟩ hb
  simp only at this
  have hge : 2 ^ k ≤ u.toNat := Nat.ge_two_pow_of_testBit hb
  have e : ((2 : Int) ^ k) = ((2 ^ k : Nat) : Int) := by simp
  have e2 : (u - 2 ^ k).toNat = u.toNat - 2 ^ k := by omega
  refine ⟨?_, by omega⟩
  unfold bit
  rw [Int.toNat_natCast, e2, this]
theorem chp_false {ws : List Wy} {a b : Int} : chp ws a b = false ↔ cost ws b < cost ws a ∨ (cost ws a = cost ws b ∧ pop b ≤ pop a) := by
  unfold chp
  split <;> simp only [decide_eq_false_iff_not] <;> omega
theorem chp_true {ws : List Wy} {a b : Int} : chp ws a b = true ↔ cost ws a < cost ws b ∨ (cost ws a = cost ws b ∧ pop a < pop b) := by
  unfold chp
  split <;> simp only [decide_eq_true_eq] <;> omega
theorem bestTo_least (ws : List Wy) (e : Int) : ∀ k, (0 ≤ bestTo ws e k → joins ws (bestTo ws e k) e = true) ∧ ∀ s : Nat, s < k → joins ws s e = true → 0 ≤ bestTo ws e k ∧ chp ws s (bestTo ws e k) = false
  | 0 => ⟨fun h => by simp [bestTo] at h, fun s hs => by omega⟩
  | k + 1 => by
    obtain ⟨ih1, ih2⟩ := bestTo_least ws e k
    by_cases hj : joins ws k e = true
    · by_cases hc : bestTo ws e k < 0 ∨ chp ws k (bestTo ws e k) = true
      · rw [bestTo_yes hc hj]
        refine ⟨fun _ => hj, fun s hs hjs => ⟨by omega, ?_⟩⟩
        by_cases e2 : s = k
        · subst e2; rw [chp_false]; omega
        · obtain ⟨i0, i1⟩ := ih2 s (by omega) hjs
          rcases hc with hc | hc
          · omega
          · rw [chp_false] at i1 ⊢
            rw [chp_true] at hc
            omega
      · have h1 : ¬ bestTo ws e k < 0 := fun h => hc (.inl h)
        have h2 : chp ws k (bestTo ws e k) = false := by
          cases h : chp ws k (bestTo ws e k)
          · rfl
          · exact absurd (.inr h) hc
        rw [bestTo_no (.inr ⟨h1, h2⟩)]
        refine ⟨ih1, fun s hs hjs => ?_⟩
        by_cases e2 : s = k
        · subst e2; exact ⟨by omega, h2⟩
        · exact ih2 s (by omega) hjs
    · have hj' : joins ws k e = false := by cases h : joins ws k e; rfl; exact absurd h hj
      rw [bestTo_no (.inl hj')]
      refine ⟨ih1, fun s hs hjs => ?_⟩
      by_cases e2 : s = k
      · subst e2; exact absurd hjs hj
      · exact ih2 s (by omega) hjs
theorem best_bd (ws : List Wy) (e : Int) : -1 ≤ best ws e ∧ best ws e < 2 ^ ws.length := by
  have h := bestTo_bd ws e (2 ^ ws.length)
  have e2 : ((2 : Int) ^ ws.length) = ((2 ^ ws.length : Nat) : Int) := by simp
  unfold best
  omega
theorem best_joins {ws : List Wy} {e : Int} (h : 0 ≤ best ws e) : joins ws (best ws e) e = true := (bestTo_least ws e _).1 h
theorem best_least {ws : List Wy} {e s : Int} (s0 : 0 ≤ s) (s1 : s < 2 ^ ws.length) (hj : joins ws s e = true) : chp ws s (best ws e) = false := by
  have e2 : ((2 : Int) ^ ws.length) = ((2 ^ ws.length : Nat) : Int) := by simp
  have h := (bestTo_least ws e (2 ^ ws.length)).2 s.toNat (by omega) (by rw [Int.toNat_of_nonneg s0]; exact hj)
  rw [Int.toNat_of_nonneg s0] at h
  exact h.2
/-- no way of it is needless -/
theorem best_needs {n : Int} {ws : List Wy} (hn : NetIs n ws) {e : Int} (h : 0 ≤ best ws e) {k : Nat} (hk : k < ws.length) (hb : bit (best ws e) k = true) : joins ws (best ws e - 2 ^ k) e = false := by
  have hl := hn.len
  have hbb := best_bd ws e
  have hpl := pow_bd (ws.length : Int) 9 (by omega)
  rw [Int.toNat_natCast] at hpl
  have lb := fun j (hj : j < 9) => lessb (j := j) h (by omega) (show k < 9 by omega) hj hb
  have l2 := (lb 0 (by omega)).2
  cases hj : joins ws (best ws e - 2 ^ k) e
  · rfl
  · exfalso
    have hp := pop_less h (by omega) (show k < 9 by omega) hb
    have h1 : (1 : Int) ≤ 2 ^ k := by have e2 : ((2 : Int) ^ k) = ((2 ^ k : Nat) : Int) := by simp
                                      have := Nat.one_le_two_pow (n := k)
                                      omega
    have hc := best_least (s := best ws e - 2 ^ k) (by omega) (by omega) hj
    have hm : cost ws (best ws e - 2 ^ k) ≤ cost ws (best ws e) := cost_mono hn (fun q hq hbq => by
      have hq9 := set_sub (n := 9) (show 0 ≤ best ws e - 2 ^ k by omega) (by omega) hbq
      have := (lb q.toNat (by omega)).1
      rw [Int.toNat_of_nonneg hq] at this
      rw [this, Bool.and_eq_true] at hbq
      exact hbq.1)
    rw [chp_false] at hc
    omega
theorem both_comm (a b : Int) : both a b = both b a := by
  unfold both ior
  rw [Nat.or_comm]
theorem bit_both {a b q : Int} (a0 : 0 ≤ a) (b0 : 0 ≤ b) (hq : 0 ≤ q) : bit (both a b) q = (decide (q = a) || decide (q = b)) := by
  unfold both
  rw [bit_ior, bit_shl _ _ a0 hq, bit_shl _ _ b0 hq]
theorem both_bd {n a b : Int} (a0 : 0 ≤ a) (a1 : a < n) (b0 : 0 ≤ b) (b1 : b < n) : 0 ≤ both a b ∧ both a b < 2 ^ n.toNat := by
  have h : ∀ x : Int, 0 ≤ x → x < n → 0 ≤ (2 : Int) ^ x.toNat ∧ (2 : Int) ^ x.toNat < 2 ^ n.toNat := fun x x0 x1 => by
    have e1 : ((2 : Int) ^ x.toNat) = ((2 ^ x.toNat : Nat) : Int) := by simp
    have e2 : ((2 : Int) ^ n.toNat) = ((2 ^ n.toNat : Nat) : Int) := by simp
    have h2 : 2 ^ x.toNat < 2 ^ n.toNat := Nat.pow_lt_pow_right (by omega) (by omega)
    have h3 := Nat.one_le_two_pow (n := x.toNat)
    omega
  exact ior_bd _ _ n.toNat (h a a0 a1).2 (h b b0 b1).2
theorem joins_both {n : Int} {ws : List Wy} (hn : NetIs n ws) {s a b : Int} (a0 : 0 ≤ a) (a1 : a < n) (b0 : 0 ≤ b) (b1 : b < n) : joins ws s (both a b) = true ↔ bit (reach ws s a) b = true := by
  have hb := both_bd a0 a1 b0 b1
  rw [joins_iff hn hb.1 hb.2]
  constructor
  · intro h
    exact h a b a0 b0 (by rw [bit_both a0 b0 a0]; simp) (by rw [bit_both a0 b0 b0]; simp)
  · intro h p q hp hq h1 h2
    rw [bit_both a0 b0 hp] at h1
    rw [bit_both a0 b0 hq] at h2
    simp only [Bool.or_eq_true, decide_eq_true_eq] at h1 h2
    rcases h1 with rfl | rfl <;> rcases h2 with rfl | rfl
    · exact (reach_is hn hp a1).has
    · exact h
    · exact re_sym hn a0 a1 hp h
    · exact (reach_is hn hp b1).has
/-- it costs what the table tells -/
theorem best_cost {m : Nat} {ws : List Wy} (hn : NetIs (m : Int) ws) {a b : Nat} (ha : a < m) (hb : b < m) (h : 0 ≤ best ws (both a b)) : cost ws (best ws (both a b)) = farF ws m a b := by
  have h6 := hn.hi
  have hj := (joins_both hn (show (0 : Int) ≤ (a : Int) by omega) (by omega) (show (0 : Int) ≤ (b : Int) by omega) (by omega)).1 (best_joins h)
  have hle := far_le hn ha (farF_tri hn (by omega)) (fun k x hx => farF_way hn hx) hj
  obtain ⟨s, s0, s1, s2, s3⟩ := rep_fw hn a b ha hb hle.1
  have hc := best_least s0 (by unfold full at s1; omega) ((joins_both hn (show (0 : Int) ≤ (a : Int) by omega) (by omega) (show (0 : Int) ≤ (b : Int) by omega) (by omega)).2 s2)
  rw [chp_false] at hc
  omega
end Go.Proofs.YtbbomajgmgmigaaDoor
