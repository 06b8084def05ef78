/- Nearest ends, what ends cover, the fewest ends, the farthest places, the centre. Plain mathematics. -/
import Derived.Test.YthadehgpeafniaaNxM
import Derived.Test.YthadehgpeafniaaCpN
set_option linter.unusedVariables false
set_option linter.unusedSimpArgs false
namespace Go.Proofs.Ythadehgpeafniaa
open Go.RowKit

/-! ### a set by its members -/
def pickP (P : Nat → Bool) : Nat → Int
  | 0 => 0
  | k + 1 => if P k = true then ior (pickP P k) (2 ^ k) else pickP P k
theorem pickP_bd (P : Nat → Bool) : ∀ k : Nat, 0 ≤ pickP P k ∧ pickP P k < 2 ^ k
  | 0 => by unfold pickP; simp
  | k + 1 => by
    have ih := pickP_bd P k
    have e1 : ((2 : Int) ^ (k + 1)) = 2 ^ k * 2 := Int.pow_succ 2 k
    rw [pickP]; split
    · exact ior_bd _ _ _ (by omega) (by omega)
    · omega
theorem pickP_bit (P : Nat → Bool) (j : Nat) : ∀ k : Nat, bit (pickP P k) j = (decide (j < k) && P j)
  | 0 => by rw [pickP, bit_zero_]; simp
  | k + 1 => by
    have ih := pickP_bit P j k
    by_cases e : j = k
    · subst e
      rw [pickP]
      have hz : bit (pickP P j) j = false := by rw [ih]; simp
      by_cases h : P j = true
      · rw [if_pos h, bit_ior, bit_pow j j (by omega)]; simp [h]
      · rw [if_neg h, hz]; simp [h]
    · have hd : decide (j < k + 1) = decide (j < k) := by rw [decide_eq_decide]; omega
      rw [hd, ← ih, pickP]
      split
      · rw [bit_ior, bit_pow k j (by omega)]
        have : decide ((j : Int) = k) = false := by simp; omega
        rw [this, Bool.or_false]
      · rfl

/-! ### the nearest end -/
/-- among the first k places -/
def nrTo (F : Nat → Nat → Int) (e : Int) (a : Nat) : Nat → Int
  | 0 => -1
  | k + 1 => if (bit e k && decide (0 ≤ F a k) && (decide (nrTo F e a k < 0) || decide (F a k < F a (nrTo F e a k).toNat))) = true then k else nrTo F e a k
structure Nr (F : Nat → Nat → Int) (e : Int) (a k : Nat) (r : Int) : Prop where
  lo : -1 ≤ r
  hi : r < k
  none : r < 0 → ∀ j, j < k → bit e (j : Nat) = true → F a j < 0
  some : 0 ≤ r → bit e r = true ∧ 0 ≤ F a r.toNat ∧ ∀ j, j < k → bit e (j : Nat) = true → 0 ≤ F a j → F a r.toNat ≤ F a j ∧ (F a j = F a r.toNat → r ≤ j)
theorem nrTo_ok (F : Nat → Nat → Int) (e : Int) (a : Nat) : ∀ k, Nr F e a k (nrTo F e a k)
  | 0 => ⟨by simp [nrTo], by simp [nrTo], fun _ j hj => by omega, fun h => by simp [nrTo] at h⟩
  | k + 1 => by
    have ih := nrTo_ok F e a k
    rw [nrTo]
    by_cases h : (bit e k && decide (0 ≤ F a k) && (decide (nrTo F e a k < 0) || decide (F a k < F a (nrTo F e a k).toNat))) = true
    · rw [if_pos h]
      simp only [Bool.and_eq_true, Bool.or_eq_true, decide_eq_true_eq] at h
      obtain ⟨⟨h1, h2⟩, h3⟩ := h
      refine ⟨by omega, by omega, fun h9 => by omega, fun _ => ⟨h1, by rw [Int.toNat_natCast]; exact h2, fun j hj hb h0 => ?_⟩⟩
      rw [Int.toNat_natCast]
      by_cases ej : j = k
      · subst ej; exact ⟨Int.le_refl _, fun _ => Int.le_refl _⟩
      · by_cases hn : nrTo F e a k < 0
        · have := ih.none hn j (by omega) hb; omega
        · obtain ⟨g1, g2, g3⟩ := ih.some (by omega)
          obtain ⟨g4, _⟩ := g3 j (by omega) hb h0
          rcases h3 with h3 | h3
          · omega
          · exact ⟨by omega, fun h9 => by omega⟩
    · rw [if_neg h]
      have hk : bit e (k : Nat) = true → 0 ≤ F a k → ¬ nrTo F e a k < 0 ∧ ¬ F a k < F a (nrTo F e a k).toNat := fun h1 h2 => by
        refine ⟨fun h3 => h ?_, fun h3 => h ?_⟩
        · rw [h1, decide_eq_true h2, decide_eq_true h3]; rfl
        · rw [h1, decide_eq_true h2, decide_eq_true h3]; simp
      refine ⟨ih.lo, by have := ih.hi; omega, fun h9 j hj hb => ?_, fun h9 => ?_⟩
      · by_cases ej : j = k
        · subst ej
          by_cases h2 : 0 ≤ F a j
          · exact absurd h9 (hk hb h2).1
          · omega
        · exact ih.none h9 j (by omega) hb
      · obtain ⟨g1, g2, g3⟩ := ih.some h9
        refine ⟨g1, g2, fun j hj hb h0 => ?_⟩
        by_cases ej : j = k
        · subst ej
          have := (hk hb h0).2
          have := ih.hi
          exact ⟨by omega, fun _ => by omega⟩
        · exact g3 j (by omega) hb h0
def nearestRow (n : Int) (ws : List Wy) (e : Int) : List Int := if (netOk n ws && plOk n e) = true then (List.range n.toNat).map (fun a => nrTo (farF ws n.toNat) e a n.toNat) else []

/-! ### what ends cover -/
/-- each place is at most c from an end -/
def Cov (F : Nat → Nat → Int) (m : Nat) (e c : Int) : Prop := ∀ k, k < m → ∃ j, j < m ∧ bit e (j : Nat) = true ∧ 0 ≤ F k j ∧ F k j ≤ c
/-- the first k places: the greatest distance, or none -/
def cvTo (F : Nat → Nat → Int) (m : Nat) (e : Int) : Nat → Int
  | 0 => -1
  | k + 1 => max (cvTo F m e k) (F k (nrTo F e k m).toNat)
def allNr (F : Nat → Nat → Int) (m : Nat) (e : Int) : Bool := (List.range m).all fun k => decide (0 ≤ nrTo F e k m)
def cv (F : Nat → Nat → Int) (m : Nat) (e : Int) : Int := if allNr F m e = true then cvTo F m e m else -1
def coverCost (n : Int) (ws : List Wy) (e : Int) : Int := if (netOk n ws && plOk n e) = true then cv (farF ws n.toNat) n.toNat e else -1
theorem allNr_iff {F : Nat → Nat → Int} {m : Nat} {e : Int} : allNr F m e = true ↔ ∀ k, k < m → 0 ≤ nrTo F e k m := by
  unfold allNr; simp
theorem cvTo_le {F : Nat → Nat → Int} {m : Nat} {e c : Int} (c0 : -1 ≤ c) : ∀ k, cvTo F m e k ≤ c ↔ ∀ j, j < k → F j (nrTo F e j m).toNat ≤ c
  | 0 => ⟨fun _ j hj => by omega, fun _ => by rw [cvTo]; exact c0⟩
  | k + 1 => by
    have ih := cvTo_le (F := F) (m := m) (e := e) c0 k
    rw [cvTo]
    constructor
    · intro h j hj
      by_cases ej : j = k
      · subst ej; omega
      · exact ih.1 (by omega) j (by omega)
    · intro h
      have h1 := ih.2 fun j hj => h j (by omega)
      have h2 := h k (by omega)
      omega
theorem cvTo_ge (F : Nat → Nat → Int) (m : Nat) (e : Int) : ∀ k, -1 ≤ cvTo F m e k
  | 0 => Int.le_refl _
  | k + 1 => by have := cvTo_ge F m e k; rw [cvTo]; omega
/-- it is told and at most c exactly if all are within c -/
theorem cv_iff {F : Nat → Nat → Int} {m : Nat} (hm : 0 < m) {e c : Int} : (0 ≤ cv F m e ∧ cv F m e ≤ c) ↔ Cov F m e c := by
  unfold cv
  constructor
  · rintro ⟨h0, h1⟩
    by_cases ha : allNr F m e = true
    · rw [if_pos ha] at h0 h1
      intro k hk
      have h2 := allNr_iff.1 ha k hk
      have ok := nrTo_ok F e k m
      obtain ⟨g1, g2, _⟩ := ok.some h2
      have h3 := (cvTo_le (F := F) (m := m) (e := e) (c := c) (by omega) m).1 h1 k hk
      have := ok.hi
      exact ⟨(nrTo F e k m).toNat, by omega, by rw [Int.toNat_of_nonneg h2]; exact g1, g2, h3⟩
    · rw [if_neg ha] at h0; omega
  · intro h
    have ha : allNr F m e = true := allNr_iff.2 fun k hk => by
      obtain ⟨j, hj, hb, h0, _⟩ := h k hk
      apply Classical.byContradiction
      intro hc
      have := (nrTo_ok F e k m).none (by omega) j hj hb
      omega
    rw [if_pos ha]
    have hk : ∀ k, k < m → 0 ≤ F k (nrTo F e k m).toNat ∧ F k (nrTo F e k m).toNat ≤ c := fun k hk => by
      obtain ⟨j, hj, hb, h0, h1⟩ := h k hk
      obtain ⟨g1, g2, g3⟩ := (nrTo_ok F e k m).some (allNr_iff.1 ha k hk)
      have := (g3 j hj hb h0).1
      omega
    have c0 : 0 ≤ c := by have := hk 0 hm; omega
    refine ⟨?_, (cvTo_le (by omega) m).2 fun j hj => (hk j hj).2⟩
    have h9 := (cvTo_le (F := F) (m := m) (e := e) (c := cvTo F m e m) (cvTo_ge F m e m) m).1 (Int.le_refl _) 0 hm
    have := hk 0 hm
    omega
theorem cv_more {F : Nat → Nat → Int} {m : Nat} (hm : 0 < m) {e f : Int} (hs : ∀ j : Nat, bit e j = true → bit f j = true) (h : 0 ≤ cv F m e) : 0 ≤ cv F m f ∧ cv F m f ≤ cv F m e :=
  (cv_iff hm).2 fun k hk => by
    obtain ⟨j, a, b, c, d⟩ := (cv_iff hm).1 ⟨h, Int.le_refl _⟩ k hk
    exact ⟨j, a, hs j b, c, d⟩
theorem cv_neg {F : Nat → Nat → Int} {m : Nat} {e : Int} : -1 ≤ cv F m e := by
  unfold cv; split
  · exact cvTo_ge F m e m
  · omega
/-- more ends: nobody is farther -/
theorem nr_more {F : Nat → Nat → Int} {e f : Int} {a m : Nat} (hs : ∀ j : Nat, bit e j = true → bit f j = true) (h : 0 ≤ nrTo F e a m) : 0 ≤ nrTo F f a m ∧ F a (nrTo F f a m).toNat ≤ F a (nrTo F e a m).toNat := by
  have ok := nrTo_ok F e a m
  have ok' := nrTo_ok F f a m
  obtain ⟨g1, g2, g3⟩ := ok.some h
  have hj : bit f ((nrTo F e a m).toNat : Nat) = true := hs _ (by rw [Int.toNat_of_nonneg h]; exact g1)
  have hlt := ok.hi
  have h9 : 0 ≤ nrTo F f a m := by
    apply Classical.byContradiction
    intro hc
    have := ok'.none (by omega) (nrTo F e a m).toNat (by omega) hj
    omega
  exact ⟨h9, ((ok'.some h9).2.2 (nrTo F e a m).toNat (by omega) hj g2).1⟩

/-! ### the fewest ends -/
def feTo (F : Nat → Nat → Int) (m : Nat) (c : Int) : Nat → Int
  | 0 => m
  | k + 1 => if (decide (0 ≤ cv F m k) && decide (cv F m k ≤ c)) = true then min (feTo F m c k) (pop k) else feTo F m c k
def fe (F : Nat → Nat → Int) (m : Nat) (c : Int) : Int := feTo F m c (2 ^ m)
def fewestEnds (n : Int) (ws : List Wy) (far : Int) : Int := if (netOk n ws && decide (0 ≤ far)) = true then fe (farF ws n.toNat) n.toNat far else -1
theorem feTo_ok (F : Nat → Nat → Int) (m : Nat) (c : Int) : ∀ K : Nat, feTo F m c K ≤ m ∧ (∀ k : Nat, k < K → 0 ≤ cv F m k → cv F m k ≤ c → feTo F m c K ≤ pop k) ∧ (feTo F m c K = m ∨ ∃ k : Nat, k < K ∧ 0 ≤ cv F m k ∧ cv F m k ≤ c ∧ feTo F m c K = pop k)
  | 0 => ⟨Int.le_refl _, fun k h => by omega, .inl rfl⟩
  | K + 1 => by
    obtain ⟨h1, h2, h3⟩ := feTo_ok F m c K
    rw [feTo]
    by_cases h : (decide (0 ≤ cv F m K) && decide (cv F m K ≤ c)) = true
    · rw [if_pos h]
      simp only [Bool.and_eq_true, decide_eq_true_eq] at h
      refine ⟨by omega, fun k hk h0 hc => ?_, ?_⟩
      · by_cases e : k = K
        · subst e; omega
        · have := h2 k (by omega) h0 hc; omega
      · by_cases hp : feTo F m c K ≤ pop K
        · rw [show min (feTo F m c K) (pop K) = feTo F m c K from by omega]
          rcases h3 with h3 | ⟨k, a, b, d, e⟩
          · exact .inl h3
          · exact .inr ⟨k, by omega, b, d, e⟩
        · exact .inr ⟨K, by omega, h.1, h.2, by omega⟩
    · rw [if_neg h]
      refine ⟨h1, fun k hk h0 hc => ?_, ?_⟩
      · by_cases e : k = K
        · subst e; exact absurd (by rw [decide_eq_true h0, decide_eq_true hc]; rfl) h
        · exact h2 k (by omega) h0 hc
      · rcases h3 with h3 | ⟨k, a, b, d, e⟩
        · exact .inl h3
        · exact .inr ⟨k, by omega, b, d, e⟩
section
variable {F : Nat → Nat → Int} {m : Nat} (hm : 0 < m)
include hm
theorem fe_le {c e : Int} (e0 : 0 ≤ e) (e1 : e < 2 ^ m) (h : Cov F m e c) : fe F m c ≤ pop e := by
  obtain ⟨k, rfl⟩ := Int.eq_ofNat_of_zero_le e0
  have e2 : ((2 : Int) ^ m) = ((2 ^ m : Nat) : Int) := by simp
  obtain ⟨h0, h1⟩ := (cv_iff hm).2 h
  exact (feTo_ok F m c (2 ^ m)).2.1 k (by omega) h0 h1
/-- some ends are so few (F has 0 from each place to itself) -/
theorem fe_ex (hd : ∀ a, a < m → F a a = 0) (hm6 : m ≤ 6) {c : Int} (c0 : 0 ≤ c) : ∃ e : Int, 0 ≤ e ∧ e < 2 ^ m ∧ Cov F m e c ∧ fe F m c = pop e := by
  have e2 : ((2 : Int) ^ m) = ((2 ^ m : Nat) : Int) := by simp
  rcases (feTo_ok F m c (2 ^ m)).2.2 with h | ⟨k, a, b, d, e⟩
  · refine ⟨2 ^ m - 1, by have := Nat.two_pow_pos m; omega, by omega, fun k hk => ⟨k, hk, ?_, by rw [hd k hk]; exact Int.le_refl _, by rw [hd k hk]; exact c0⟩, ?_⟩
    · have h9 := allPl_bit (n := (m : Int)) (q := (k : Int)) (by omega) (by omega)
      unfold allPl at h9
      rw [Int.toNat_natCast] at h9
      rw [h9]; simp; omega
    · have h9 := pop_allPl (n := (m : Int)) (by omega) (by omega)
      unfold allPl at h9
      rw [Int.toNat_natCast] at h9
      unfold fe
      rw [h, h9]
  · exact ⟨k, by omega, by omega, (cv_iff hm).1 ⟨b, d⟩, e⟩
theorem fe_mono (hd : ∀ a, a < m → F a a = 0) (hm6 : m ≤ 6) {c d : Int} (c0 : 0 ≤ c) (h : c ≤ d) : fe F m d ≤ fe F m c := by
  obtain ⟨e, e0, e1, hc, hf⟩ := fe_ex hm hd hm6 c0
  rw [hf]
  exact fe_le hm e0 e1 fun k hk => by
    obtain ⟨j, a, b, p, q⟩ := hc k hk
    exact ⟨j, a, b, p, by omega⟩
end
/-- as many values as there are places that have them at most -/
theorem cnB_img {P Q : Nat → Bool} {f : Nat → Nat} {m : Nat} (hf : ∀ v, v < m → P v = true → ∃ j, j < m ∧ Q j = true ∧ f j = v) : cnB P m ≤ cnB Q m := by
  classical
  have key : ∀ k, k ≤ m → cnB (fun v => P v && decide (∃ j, j < k ∧ Q j = true ∧ f j = v)) m ≤ cnB Q k := by
    intro k
    induction k with
    | zero =>
      intro _
      rw [cnB_none m (fun v _ => by simp)]
      exact (cnB_bd Q 0).1
    | succ k ih =>
      intro hk
      have h1 := ih (by omega)
      cases hq : Q k
      · have e1 : cnB Q (k + 1) = cnB Q k := by rw [cnB, hq]; simp
        rw [e1]
        refine Int.le_trans (cnB_le m fun v hv h => ?_) h1
        simp only [Bool.and_eq_true, decide_eq_true_eq] at h ⊢
        obtain ⟨a, j, b, c, d⟩ := h
        refine ⟨a, j, ?_, c, d⟩
        by_cases e : j = k
        · subst e; rw [hq] at c; cases c
        · omega
      · have e1 : cnB Q (k + 1) = cnB Q k + 1 := by rw [cnB, hq]; simp
        rw [e1]
        have h2 := cnB_one (P := fun v => P v && decide (∃ j, j < k + 1 ∧ Q j = true ∧ f j = v)) (Q := fun v => P v && decide (∃ j, j < k ∧ Q j = true ∧ f j = v)) (f k) m (fun v hv hne h => by
          simp only [Bool.and_eq_true, decide_eq_true_eq] at h ⊢
          obtain ⟨a, j, b, c, d⟩ := h
          refine ⟨a, j, ?_, c, d⟩
          by_cases e : j = k
          · subst e; exact absurd d.symm hne
          · omega)
        omega
  have h9 := key m (Nat.le_refl _)
  refine Int.le_trans (cnB_le m fun v hv h => ?_) h9
  simp only [Bool.and_eq_true, decide_eq_true_eq]
  exact ⟨h, hf v hv h⟩
/-- as many parts as least places -/
noncomputable def partsAll (ws : List Wy) (m : Nat) : Int := cnB (lowB ws (full ws.length)) m
section
variable {m : Nat} {ws : List Wy} (hn : NetIs (m : Int) ws)
include hn
theorem far_bd81 {a b : Nat} (ha : a < m) (hb : b < m) : farF ws m a b ≤ 81 := by
  rw [← rc_both hn ha hb]
  exact (rc_ge hn _).2
theorem parts_le {c e : Int} (e0 : 0 ≤ e) (e1 : e < 2 ^ m) (h : Cov (farF ws m) m e c) : partsAll ws m ≤ pop e := by
  have h6 := hn.hi
  rw [pop_cnB (m := m) (by omega) e0 e1]
  classical
  have hlow : ∀ j, ∃ u, j < m → u < m ∧ lowB ws (full ws.length) u = true ∧ bit (reach ws (full ws.length) j) u = true := fun j => by
    by_cases hj : j < m
    · obtain ⟨u, h1, h2, h3⟩ := low_ex hn (s := full ws.length) j hj
      exact ⟨u, fun _ => ⟨by omega, h2, h3⟩⟩
    · exact ⟨0, fun h9 => absurd h9 hj⟩
  obtain ⟨f, hf⟩ := Classical.axiomOfChoice hlow
  refine cnB_img (f := f) fun v hv hl => ?_
  obtain ⟨j, hj, hb, h0, _⟩ := h v hv
  obtain ⟨f1, f2, f3⟩ := hf j hj
  refine ⟨j, hj, hb, ?_⟩
  have h1 := (farF_join hn hv hj).1 h0
  have h2 := re_trans hn (by omega) (by omega) (by omega) h1 f3
  exact (low_same hn hv f1 hl f2 h2).symm
/-- one end of each part is enough, if it may be as far as can be -/
theorem parts_cov : ∃ e : Int, 0 ≤ e ∧ e < 2 ^ m ∧ Cov (farF ws m) m e 81 ∧ pop e = partsAll ws m := by
  have h6 := hn.hi
  have hb := pickP_bd (lowB ws (full ws.length)) m
  refine ⟨pickP (lowB ws (full ws.length)) m, hb.1, hb.2, fun k hk => ?_, ?_⟩
  · obtain ⟨u, h1, h2, h3⟩ := low_ex hn (s := full ws.length) k hk
    refine ⟨u, by omega, by rw [pickP_bit, decide_eq_true (show u < m by omega), h2]; rfl, (farF_join hn hk (by omega)).2 h3, far_bd81 hn hk (by omega)⟩
  · rw [pop_cnB (m := m) (by omega) hb.1 hb.2]
    exact cnB_congr m fun v hv => by rw [pickP_bit, decide_eq_true hv, Bool.true_and]
end
end Go.Proofs.Ythadehgpeafniaa
