/- How many ways of a set a place has; leaves, forks and places by it; a tree with ways has two leaves more than forks at least. Plain mathematics. -/
import Derived.Test.YtnbihejoglgdhaaDoorME
import Derived.Test.YtnbihejoglgdhaaDoorMF
set_option linter.unusedVariables false
set_option linter.unusedSimpArgs false
namespace Go.Proofs.YtnbihejoglgdhaaDoor
open Go.RowKit

/-- how many of the first k ways are of the set and have place p -/
def dgTo (ws : List Wy) (s p : Int) : Nat → Int
  | 0 => 0
  | k + 1 => dgTo ws s p k + (match ws[k]? with
    | some x => if bit s k = true ∧ (x.a = p ∨ x.b = p) then 1 else 0
    | none => 0)
theorem dgTo_yes {ws : List Wy} {s p : Int} {k : Nat} {x : Wy} (hx : ws[k]? = some x) (hb : bit s k = true) (hp : x.a = p ∨ x.b = p) : dgTo ws s p (k + 1) = dgTo ws s p k + 1 := by
  rw [dgTo, hx]; simp only; rw [if_pos ⟨hb, hp⟩]
theorem dgTo_no {ws : List Wy} {s p : Int} {k : Nat} {x : Wy} (hx : ws[k]? = some x) (h : ¬ (bit s k = true ∧ (x.a = p ∨ x.b = p))) : dgTo ws s p (k + 1) = dgTo ws s p k := by
  rw [dgTo, hx]; simp only; rw [if_neg h]; omega
theorem dgTo_bd (ws : List Wy) (s p : Int) : ∀ k : Nat, 0 ≤ dgTo ws s p k ∧ dgTo ws s p k ≤ k
  | 0 => by unfold dgTo; omega
  | k + 1 => by
    have := dgTo_bd ws s p k
    cases hx : ws[k]? with
    | none => rw [dgTo, hx]; simp only; omega
    | some x =>
      by_cases h : bit s k = true ∧ (x.a = p ∨ x.b = p)
      · rw [dgTo_yes hx h.1 h.2]; omega
      · rw [dgTo_no hx h]; omega
def dg (ws : List Wy) (s p : Int) : Int := dgTo ws s p ws.length
theorem dg_bd {n : Int} {ws : List Wy} (hn : NetIs n ws) (s p : Int) : 0 ≤ dg ws s p ∧ dg ws s p ≤ 9 := by
  have := dgTo_bd ws s p ws.length
  have := hn.len
  unfold dg; omega
/-- what is met once, and again, by the count -/
theorem lv_dg {n : Int} {ws : List Wy} (hn : NetIs n ws) (s p : Int) (hp : 0 ≤ p) : ∀ k : Nat, (bit (lvTo ws s k).1 p = decide (1 ≤ dgTo ws s p k)) ∧ (bit (lvTo ws s k).2 p = decide (2 ≤ dgTo ws s p k))
  | 0 => by simp only [lvTo, dgTo, bit_zero_]; exact ⟨rfl, rfl⟩
  | k + 1 => by
    obtain ⟨h1, h2⟩ := lv_dg hn s p hp k
    have hbd := dgTo_bd ws s p k
    cases hx : ws[k]? with
    | none =>
      have e : dgTo ws s p (k + 1) = dgTo ws s p k := by rw [dgTo, hx]; simp only; omega
      rw [e]; simp only [lvTo, hx]; exact ⟨h1, h2⟩
    | some x =>
      obtain ⟨a0, a1, b0, b1, hne, _⟩ := hn.at_ hx
      cases hb : bit s k
      · rw [lvTo_no hx hb, dgTo_no hx (fun h => by rw [hb] at h; cases h.1)]; exact ⟨h1, h2⟩
      · have hw : bit (wayPl x) p = decide (x.a = p ∨ x.b = p) := by
          rw [show wayPl x = ior (2 ^ x.a.toNat) (2 ^ x.b.toNat) from rfl, bit_ior, bit_shl _ _ a0 hp, bit_shl _ _ b0 hp, Bool.eq_iff_iff]
          simp only [Bool.or_eq_true, decide_eq_true_eq]
          constructor
          · rintro (h | h)
            · exact .inl h.symm
            · exact .inr h.symm
          · rintro (h | h)
            · exact .inl h.symm
            · exact .inr h.symm
        rw [(lvTo_yes hx hb).1, (lvTo_yes hx hb).2, bit_ior, bit_ior, bit_iand, h1, h2, hw]
        by_cases h : x.a = p ∨ x.b = p
        · rw [dgTo_yes hx hb h]
          have e1 : decide (x.a = p ∨ x.b = p) = true := by simpa using h
          rw [e1, Bool.or_true, Bool.and_true]
          constructor
          · symm; rw [decide_eq_true_eq]; omega
          · rw [Bool.eq_iff_iff]; simp only [Bool.or_eq_true, decide_eq_true_eq]; omega
        · rw [dgTo_no hx (fun g => h g.2)]
          have e1 : decide (x.a = p ∨ x.b = p) = false := by simpa using h
          rw [e1, Bool.or_false, Bool.and_false, Bool.or_false]; exact ⟨rfl, rfl⟩
theorem nds_dg {n : Int} {ws : List Wy} (hn : NetIs n ws) (s p : Int) (hp : 0 ≤ p) : bit (nds ws s) p = decide (1 ≤ dg ws s p) := by
  have h := (lv_dg hn s p hp ws.length).1
  rw [lv_nodes] at h; exact h
theorem lvs_dg {n : Int} {ws : List Wy} (hn : NetIs n ws) (s p : Int) (hp : 0 ≤ p) : bit (lvs ws s) p = decide (dg ws s p = 1) := by
  unfold lvs
  rw [bit_idiff, (lv_dg hn s p hp ws.length).1, (lv_dg hn s p hp ws.length).2, Bool.eq_iff_iff]
  simp only [Bool.and_eq_true, Bool.not_eq_true', decide_eq_true_eq, decide_eq_false_iff_not]
  unfold dg; omega

/-! ### sums over places -/
def sumTo (f : Nat → Int) : Nat → Int
  | 0 => 0
  | k + 1 => sumTo f k + f k
theorem sumTo_two {f g h : Nat → Int} : ∀ m, (∀ k, k < m → h k = f k + g k) → sumTo h m = sumTo f m + sumTo g m
  | 0, _ => rfl
  | m + 1, hh => by
    rw [sumTo, sumTo, sumTo, sumTo_two m (fun k hk => hh k (by omega)), hh m (by omega)]; omega
theorem sumTo_le {f g : Nat → Int} : ∀ m, (∀ k, k < m → f k ≤ g k) → sumTo f m ≤ sumTo g m
  | 0, _ => Int.le_refl _
  | m + 1, hh => by
    have h1 := sumTo_le m (fun k hk => hh k (by omega))
    have h2 := hh m (by omega)
    rw [sumTo, sumTo]; omega
theorem sumTo_congr {f g : Nat → Int} (m : Nat) (h : ∀ k, k < m → f k = g k) : sumTo f m = sumTo g m :=
  Int.le_antisymm (sumTo_le m fun k hk => by rw [h k hk]; exact Int.le_refl _) (sumTo_le m fun k hk => by rw [h k hk]; exact Int.le_refl _)
theorem sumTo_cnt (s : Int) : ∀ m, sumTo (fun p => if bit s p then 1 else 0) m = cntTo s m
  | 0 => rfl
  | m + 1 => by rw [sumTo, cntTo, sumTo_cnt s m]
theorem pop_sum {s : Int} {m : Nat} (hm : m ≤ 9) (s0 : 0 ≤ s) (s1 : s < 2 ^ m) : pop s = sumTo (fun p => if bit s p then 1 else 0) m := by
  have hp := pow_bd (m : Int) 9 (by omega)
  rw [Int.toNat_natCast] at hp
  have e2 : ((2 : Int) ^ m) = ((2 ^ m : Nat) : Int) := by simp
  have h2 := cnt_all ⟨m, by omega⟩ ⟨s.toNat, by omega⟩ (by simp only; omega)
  simp only [Int.toNat_of_nonneg s0] at h2
  rw [sumTo_cnt, h2]
theorem sum_zero : ∀ m, sumTo (fun _ => (0 : Int)) m = 0
  | 0 => rfl
  | m + 1 => by rw [sumTo, sum_zero m]; rfl
/-- one place of m -/
theorem sum_one (a : Int) : ∀ m : Nat, sumTo (fun p => if a = (p : Int) then 1 else 0) m = if 0 ≤ a ∧ a < m then 1 else 0
  | 0 => by rw [sumTo, if_neg (by omega)]
  | m + 1 => by
    rw [sumTo, sum_one a m]
    by_cases h1 : 0 ≤ a ∧ a < m
    · rw [if_pos h1, if_neg (by omega), if_pos (by omega)]; rfl
    · by_cases h2 : a = m
      · rw [if_neg h1, if_pos h2, if_pos (by omega)]; rfl
      · rw [if_neg h1, if_neg h2, if_neg (by omega)]; rfl
/-- each way is counted at both its places -/
theorem dg_sum {m : Nat} {ws : List Wy} (hn : NetIs (m : Int) ws) (s : Int) : ∀ k : Nat, k ≤ ws.length → sumTo (fun p => dgTo ws s p k) m = 2 * cntTo s k
  | 0, _ => by simp only [dgTo]; rw [sum_zero]; rfl
  | k + 1, hk => by
    have ih := dg_sum hn s k (by omega)
    obtain ⟨x, hx⟩ : ∃ x, ws[k]? = some x := ⟨_, List.getElem?_eq_getElem (by omega)⟩
    obtain ⟨a0, a1, b0, b1, hne, _⟩ := hn.at_ hx
    cases hb : bit s k
    · rw [cntTo, hb, sumTo_congr m (g := fun p => dgTo ws s p k) (fun p _ => dgTo_no hx (fun h => by rw [hb] at h; cases h.1)), ih]; simp
    · rw [cntTo, hb, sumTo_two (f := fun p => dgTo ws s p k) (g := fun p => (if x.a = (p : Int) then 1 else 0) + (if x.b = (p : Int) then 1 else 0)) m (fun p _ => ?_), ih,
        sumTo_two (f := fun p => if x.a = (p : Int) then 1 else 0) (g := fun p => if x.b = (p : Int) then 1 else 0) m (fun p _ => rfl), sum_one, sum_one, if_pos ⟨a0, a1⟩, if_pos ⟨b0, b1⟩]
      · simp only [if_true]; omega
      · by_cases h1 : x.a = (p : Int)
        · rw [dgTo_yes hx hb (.inl h1), if_pos h1, if_neg (by omega)]; omega
        · by_cases h2 : x.b = (p : Int)
          · rw [dgTo_yes hx hb (.inr h2), if_neg h1, if_pos h2]; omega
          · rw [dgTo_no hx (fun h => h.2.elim h1 h2), if_neg h1, if_neg h2]; omega
theorem dg_all {m : Nat} {ws : List Wy} (hn : NetIs (m : Int) ws) {s : Int} (s0 : 0 ≤ s) (s1 : s ≤ full ws.length) : sumTo (fun p => dg ws s p) m = 2 * pop s := by
  have hl := hn.len
  have h1 : sumTo (fun p => dg ws s p) m = 2 * cntTo s ws.length := dg_sum hn s ws.length (Nat.le_refl _)
  rw [h1, pop_sum hl s0 (by unfold full at s1; omega), sumTo_cnt]
/-- forks: places with three ways or more, among the first p -/
def fkTo (ws : List Wy) (s : Int) : Nat → Int
  | 0 => 0
  | p + 1 => if 3 ≤ dg ws s p then ior (fkTo ws s p) (2 ^ p) else fkTo ws s p
theorem fkTo_bd (ws : List Wy) (s : Int) : ∀ p : Nat, 0 ≤ fkTo ws s p ∧ fkTo ws s p < 2 ^ p
  | 0 => by unfold fkTo; simp
  | p + 1 => by
    have ih := fkTo_bd ws s p
    have e1 : ((2 : Int) ^ (p + 1)) = 2 ^ p * 2 := Int.pow_succ 2 p
    rw [fkTo]; split
    · exact ior_bd _ _ _ (by omega) (by omega)
    · omega
theorem fkTo_bit (ws : List Wy) (s : Int) (q : Nat) : ∀ p : Nat, bit (fkTo ws s p) q = (decide (q < p) && decide (3 ≤ dg ws s q))
  | 0 => by rw [fkTo, bit_zero_]; simp
  | p + 1 => by
    have ih := fkTo_bit ws s q p
    by_cases e : q = p
    · subst e
      rw [fkTo]
      have hz : bit (fkTo ws s q) q = false := by rw [ih]; simp
      by_cases h : 3 ≤ dg ws s q
      · rw [if_pos h, bit_ior, bit_pow q q (by omega)]; simp [h]
      · rw [if_neg h, hz]; simp [h]
    · have hd : decide (q < p + 1) = decide (q < p) := by rw [decide_eq_decide]; omega
      rw [hd, ← ih, fkTo]
      split
      · rw [bit_ior, bit_pow p q (by omega)]
        have : decide ((q : Int) = p) = false := by simp; omega
        rw [this, Bool.or_false]
      · rfl
def fks (n : Int) (ws : List Wy) (s : Int) : Int := fkTo ws s n.toNat
theorem fks_bd {n : Int} (ws : List Wy) (s : Int) : 0 ≤ fks n ws s ∧ fks n ws s < 2 ^ n.toNat := fkTo_bd ws s _
/-- each fork is a place of the set -/
theorem fks_nds {n : Int} {ws : List Wy} (hn : NetIs n ws) (s q : Int) (hq : 0 ≤ q) (h : bit (fks n ws s) q = true) : bit (nds ws s) q = true := by
  obtain ⟨k, rfl⟩ := Int.eq_ofNat_of_zero_le hq
  unfold fks at h
  rw [fkTo_bit] at h
  simp only [Bool.and_eq_true, decide_eq_true_eq] at h
  rw [nds_dg hn s k hq, decide_eq_true_eq]; omega
/-- of a tree with ways -/
theorem tree_forks {m : Nat} {ws : List Wy} (hn : NetIs (m : Int) ws) {s : Int} (s0 : 0 ≤ s) (s1 : s ≤ full ws.length) (ht : pop s = pop (nds ws s) - 1) : pop (fks (m : Int) ws s) + 2 ≤ pop (lvs ws s) := by
  have h6 := hn.hi
  have hnb := nds_bd hn s
  have hfb := fks_bd (n := (m : Int)) ws s
  have hl := idiff_bd (lvTo ws s ws.length).1 (lvTo ws s ws.length).2 (lvTo_bd hn s ws.length).1.1
  have hlb : 0 ≤ lvs ws s ∧ lvs ws s < 2 ^ m := by
    have e : (lvTo ws s ws.length).1 = nds ws s := lv_nodes ws s _
    have := hnb.2.2
    rw [Int.toNat_natCast] at this
    unfold lvs; rw [e] at hl ⊢; omega
  rw [Int.toNat_natCast] at hnb hfb
  have hS := dg_all hn s0 s1
  rw [ht, pop_sum (m := m) (by omega) hnb.1 hnb.2.2] at hS
  rw [pop_sum (m := m) (by omega) hlb.1 hlb.2, pop_sum (m := m) (by omega) hfb.1 hfb.2]
  have key := sumTo_le (f := fun p => ((if bit (nds ws s) p then 1 else 0) + (if bit (nds ws s) p then 1 else 0)) + (if bit (fks (m : Int) ws s) p then 1 else 0)) (g := fun p => dg ws s p + (if bit (lvs ws s) p then 1 else 0)) m (fun p hp => by
    have hd := dg_bd hn s p
    have e1 := nds_dg hn s p (by omega)
    have e2 := lvs_dg hn s p (by omega)
    have e3 : bit (fks (m : Int) ws s) p = decide (3 ≤ dg ws s p) := by
      unfold fks; rw [Int.toNat_natCast, fkTo_bit]; simp [hp]
    simp only [e1, e2, e3, decide_eq_true_eq]
    split <;> split <;> split <;> omega)
  rw [sumTo_two (f := fun p => (if bit (nds ws s) p then 1 else 0) + (if bit (nds ws s) p then 1 else 0)) (g := fun p => (if bit (fks (m : Int) ws s) p then 1 else 0)) m (fun p _ => rfl),
    sumTo_two (f := fun p => if bit (nds ws s) p then 1 else 0) (g := fun p => if bit (nds ws s) p then 1 else 0) m (fun p _ => rfl),
    sumTo_two (f := fun p => dg ws s p) (g := fun p => if bit (lvs ws s) p then 1 else 0) m (fun p _ => rfl)] at key
  omega
end Go.Proofs.YtnbihejoglgdhaaDoor
