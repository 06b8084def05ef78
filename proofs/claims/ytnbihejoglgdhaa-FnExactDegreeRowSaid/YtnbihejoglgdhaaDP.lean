/- Pruned, of the program and of its model. -/
import Derived.Test.YtnbihejoglgdhaaDB
import Derived.Test.YtnbihejoglgdhaaWL
import Derived.Test.YtnbihejoglgdhaaLO
import Derived.Test.YtnbihejoglgdhaaMem
import Derived.Deep.RegionHeld3
set_option linter.unusedSimpArgs false
set_option linter.unusedVariables false
namespace Go.Proofs.Ytnbihejoglgdhaa
open Go.ChangeShapes Go.WideShapes Go.ChangeAt Go.RowKit

/-- the ways of the set among the first k that have a place of p -/
def atTo (ws : List Wy) (s p : Int) : Nat → Int
  | 0 => 0
  | k + 1 => match ws[k]? with
    | some x => if bit s k = true ∧ iand (wayPl x) p ≠ 0 then ior (atTo ws s p k) (2 ^ k) else atTo ws s p k
    | none => atTo ws s p k
theorem atTo_yes {ws : List Wy} {s p : Int} {k : Nat} {x : Wy} (hx : ws[k]? = some x) (hb : bit s k = true) (hi : iand (wayPl x) p ≠ 0) : atTo ws s p (k + 1) = ior (atTo ws s p k) (2 ^ k) := by
  rw [atTo, hx]; simp only; rw [if_pos ⟨hb, hi⟩]
theorem atTo_no {ws : List Wy} {s p : Int} {k : Nat} {x : Wy} (hx : ws[k]? = some x) (h : ¬ (bit s k = true ∧ iand (wayPl x) p ≠ 0)) : atTo ws s p (k + 1) = atTo ws s p k := by
  rw [atTo, hx]; simp only; rw [if_neg h]
theorem bit_shlN (k : Nat) (i : Int) (hi : 0 ≤ i) : bit (2 ^ k) i = decide (i = k) := by
  have := bit_shl (k : Int) i (by omega) hi
  rwa [Int.toNat_natCast] at this
theorem atTo_bd (ws : List Wy) (s p : Int) : ∀ k, 0 ≤ atTo ws s p k ∧ atTo ws s p k < 2 ^ k
  | 0 => by simp [atTo]
  | k + 1 => by
    have ih := atTo_bd ws s p k
    have h1 : ((2 : Int) ^ (k + 1)) = 2 ^ k * 2 := Int.pow_succ 2 k
    have h2 := pow_bd k k (by omega)
    rw [Int.toNat_natCast] at h2
    cases hx : ws[k]? with
    | none => rw [atTo, hx]; simp only; omega
    | some x =>
      by_cases hc : bit s k = true ∧ iand (wayPl x) p ≠ 0
      · rw [atTo_yes hx hc.1 hc.2]
        exact ior_bd _ _ (k + 1) (by omega) (by omega)
      · rw [atTo_no hx hc]; omega
theorem atTo_sub (ws : List Wy) (s p : Int) : ∀ (k : Nat) (q : Int), 0 ≤ q → bit (atTo ws s p k) q = true → bit s q = true
  | 0, q, _, h => by rw [atTo, bit_zero_] at h; cases h
  | k + 1, q, hq, h => by
    cases hx : ws[k]? with
    | none => rw [atTo, hx] at h; exact atTo_sub ws s p k q hq h
    | some x =>
      by_cases hc : bit s k = true ∧ iand (wayPl x) p ≠ 0
      · rw [atTo_yes hx hc.1 hc.2, bit_ior, bit_shlN k q hq] at h
        simp only [Bool.or_eq_true] at h
        rcases h with h | h
        · exact atTo_sub ws s p k q hq h
        · have : q = k := by simpa using h
          rw [this]; exact hc.1
      · rw [atTo_no hx hc] at h; exact atTo_sub ws s p k q hq h
/-- the ways with a leaf that is no end -/
def needl (ws : List Wy) (e s : Int) : Int := atTo ws s (idiff (lvs ws s) e) ws.length
theorem needl_bd (ws : List Wy) (e s : Int) (hl : ws.length ≤ 9) : 0 ≤ needl ws e s ∧ needl ws e s < 512 := by
  have h := atTo_bd ws s (idiff (lvs ws s) e) ws.length
  have h2 := pow_bd (ws.length : Int) 9 (by omega)
  rw [Int.toNat_natCast] at h2
  unfold needl; omega
theorem idiff_less {s m : Int} (h0 : 0 ≤ s) (hm : m ≠ 0) (hm0 : 0 ≤ m) (hs : ∀ q, 0 ≤ q → bit m q = true → bit s q = true) : 0 ≤ idiff s m ∧ idiff s m < s := by
  have hb := idiff_bd s m h0
  refine ⟨hb.1, ?_⟩
  apply Classical.byContradiction
  intro hn
  have he : idiff s m = s := by omega
  apply hm
  refine set_ext hm0 (Int.le_refl 0) fun q hq => ?_
  rw [bit_zero_]
  cases hq' : bit m q
  · rfl
  · have h1 := bit_idiff s m q
    rw [he, hq', hs q hq hq'] at h1
    cases h1
theorem needl_less {ws : List Wy} {e s : Int} (h0 : 0 ≤ s) (h : needl ws e s ≠ 0) : 0 ≤ idiff s (needl ws e s) ∧ idiff s (needl ws e s) < s :=
  idiff_less h0 h (atTo_bd ws s _ _).1 (fun q hq hb => atTo_sub ws s _ _ q hq hb)
def prF (ws : List Wy) (e : Int) : Nat → Int → Int
  | 0, s => s
  | f + 1, s => if needl ws e s = 0 then s else prF ws e f (idiff s (needl ws e s))
theorem needl_zero (ws : List Wy) (e : Int) : needl ws e 0 = 0 := by
  have h := atTo_bd ws 0 (idiff (lvs ws 0) e) ws.length
  refine set_ext h.1 (Int.le_refl 0) fun q hq => ?_
  rw [bit_zero_]
  cases hq' : bit (needl ws e 0) q
  · rfl
  · have := atTo_sub ws 0 _ _ q hq hq'
    rw [bit_zero_] at this; cases this
theorem prF_more (ws : List Wy) (e : Int) : ∀ (f g : Nat) (s : Int), 0 ≤ s → s.toNat ≤ f → s.toNat ≤ g → prF ws e f s = prF ws e g s
  | 0, 0, _, _, _, _ => rfl
  | 0, g + 1, s, h0, hf, _ => by
    have : s = 0 := by omega
    subst this
    rw [prF, prF, if_pos (needl_zero ws e)]
  | f + 1, 0, s, h0, _, hg => by
    have : s = 0 := by omega
    subst this
    rw [prF, prF, if_pos (needl_zero ws e)]
  | f + 1, g + 1, s, h0, hf, hg => by
    rw [prF, prF]
    by_cases h : needl ws e s = 0
    · rw [if_pos h, if_pos h]
    · rw [if_neg h, if_neg h]
      have := needl_less h0 h
      exact prF_more ws e f g _ this.1 (by omega) (by omega)
/-- what is left of the set in the end -/
def pr (ws : List Wy) (e s : Int) : Int := prF ws e s.toNat s
theorem pr_done {ws : List Wy} {e s : Int} (h0 : 0 ≤ s) (h : needl ws e s = 0) : pr ws e s = s := by
  unfold pr
  rw [prF_more ws e s.toNat (s.toNat + 1) s h0 (Nat.le_refl _) (by omega), prF, if_pos h]
theorem pr_step {ws : List Wy} {e s : Int} (h0 : 0 ≤ s) (h : needl ws e s ≠ 0) : pr ws e s = pr ws e (idiff s (needl ws e s)) := by
  have hl := needl_less h0 h
  unfold pr
  rw [prF_more ws e s.toNat (s.toNat + 1) s h0 (Nat.le_refl _) (by omega), prF, if_neg h]
  exact prF_more ws e _ _ _ hl.1 (by omega) (Nat.le_refl _)


noncomputable def prunedOf (n : Int) (ws : List Wy) (s e : Int) : Int := if (treeOk n ws s && plOk n e) = true then pr ws e s else -1
theorem setOk_less {n : Int} {ws : List Wy} {s t : Int} (h : setOk n ws s = true) (h0 : 0 ≤ t) (h1 : t ≤ s) : setOk n ws t = true := by
  unfold setOk at h ⊢
  simp only [Bool.and_eq_true, decide_eq_true_eq] at h ⊢
  exact ⟨⟨h.1.1, h0⟩, by omega⟩
theorem lvs_bd {n : Int} {ws : List Wy} (hn : NetIs n ws) (s : Int) : 0 ≤ lvs ws s ∧ lvs ws s < 64 := by
  obtain ⟨⟨o0, o1⟩, _⟩ := lvTo_bd hn s ws.length
  have := idiff_bd (lvTo ws s ws.length).1 (lvTo ws s ws.length).2 o0
  unfold lvs; omega

end Go.Proofs.Ytnbihejoglgdhaa
