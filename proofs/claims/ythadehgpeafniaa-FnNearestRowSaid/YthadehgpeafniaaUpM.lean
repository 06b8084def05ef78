/- The way up of each place of a tree, and that no group pays more for its ways up than it would pay alone (Bird). Plain mathematics. -/
import Derived.Test.YthadehgpeafniaaCuM
set_option linter.unusedVariables false
set_option linter.unusedSimpArgs false
namespace Go.Proofs.Ythadehgpeafniaa
open Go.RowKit

/-! ### a set by its members -/
def selTo (P : Nat → Bool) : Nat → Int
  | 0 => 0
  | k + 1 => if P k = true then ior (selTo P k) (2 ^ k) else selTo P k
theorem selTo_bd (P : Nat → Bool) : ∀ k : Nat, 0 ≤ selTo P k ∧ selTo P k < 2 ^ k
  | 0 => by unfold selTo; simp
  | k + 1 => by
    have ih := selTo_bd P k
    have e1 : ((2 : Int) ^ (k + 1)) = 2 ^ k * 2 := Int.pow_succ 2 k
    rw [selTo]; split
    · exact ior_bd _ _ _ (by omega) (by omega)
    · omega
theorem selTo_bit (P : Nat → Bool) (j : Nat) : ∀ k : Nat, bit (selTo P k) j = (decide (j < k) && P j)
  | 0 => by rw [selTo, bit_zero_]; simp
  | k + 1 => by
    have ih := selTo_bit P j k
    by_cases e : j = k
    · subst e
      rw [selTo]
      have hz : bit (selTo P j) j = false := by rw [ih]; simp
      by_cases h : P j = true
      · rw [if_pos h, bit_ior, bit_pow j j (by omega)]; simp [h]
      · rw [if_neg h, hz]; simp [h]
    · have hd : decide (j < k + 1) = decide (j < k) := by rw [decide_eq_decide]; omega
      rw [hd, ← ih, selTo]
      split
      · rw [bit_ior, bit_pow k j (by omega)]
        have : decide ((j : Int) = k) = false := by simp; omega
        rw [this, Bool.or_false]
      · rfl

/-! ### the way up -/
/-- none of the set's ways is joined by the others -/
def Indep (ws : List Wy) (t : Int) : Prop := ∀ (k : Nat) (x : Wy), ws[k]? = some x → bit t k = true → bit (reach ws (idiff t (2 ^ k)) x.a) x.b = false
/-- way k goes up from v: without it v is not come to from 0, its other place is -/
structure Up (ws : List Wy) (t v : Int) (k : Nat) : Prop where
  has : bit t k = true
  out : bit (reach ws (idiff t (2 ^ k)) 0) v = false
  way : ∃ x u, ws[k]? = some x ∧ ((v = x.a ∧ u = x.b) ∨ (v = x.b ∧ u = x.a)) ∧ bit (reach ws (idiff t (2 ^ k)) 0) u = true

theorem less_bit {t : Int} {k j : Nat} : bit (idiff t (2 ^ k)) j = (bit t j && !decide (j = k)) := by
  rw [bit_idiff, bit_pow k j (by omega)]
  congr 2
  rw [decide_eq_decide]; omega
theorem zero_lt {n : Int} {ws : List Wy} (hn : NetIs n ws) : (0 : Int) < n := by have := hn.lo; omega
/-- what is come to without a way is closed, but for that way -/
theorem less_closed {n : Int} {ws : List Wy} (hn : NetIs n ws) {t : Int} {k j : Nat} {x : Wy} (hx : ws[j]? = some x) (hj : bit t j = true) (hne : j ≠ k) : bit (reach ws (idiff t (2 ^ k)) 0) x.a = bit (reach ws (idiff t (2 ^ k)) 0) x.b :=
  (reach_is hn (Int.le_refl 0) (zero_lt hn)).closed j x hx (by rw [less_bit, hj]; simp [hne])
/-- each way that is come to goes up from one of its places -/
theorem up_some {n : Int} {ws : List Wy} (hn : NetIs n ws) {t : Int} (hi : Indep ws t) {k : Nat} {x : Wy} (hx : ws[k]? = some x) (hk : bit t k = true) (hr : bit (reach ws t 0) x.a = true) : Up ws t x.a k ∨ Up ws t x.b k := by
  have hb := hn.at_ hx
  have hz := zero_lt hn
  have hno := hi k x hx hk
  cases ha : bit (reach ws (idiff t (2 ^ k)) 0) x.a with
  | true =>
    cases hb' : bit (reach ws (idiff t (2 ^ k)) 0) x.b with
    | true =>
      have := re_trans hn hb.1 hb.2.1 (Int.le_refl 0) (re_sym hn (Int.le_refl 0) hz hb.1 ha) hb'
      rw [hno] at this; cases this
    | false => exact .inr ⟨hk, hb', x, x.a, hx, .inr ⟨rfl, rfl⟩, ha⟩
  | false =>
    cases hb' : bit (reach ws (idiff t (2 ^ k)) 0) x.b with
    | true => exact .inl ⟨hk, ha, x, x.b, hx, .inl ⟨rfl, rfl⟩, hb'⟩
    | false =>
      have hR := reach_is (s := idiff t (2 ^ k)) hn (Int.le_refl 0) hz
      have := (reach_is (s := t) hn (Int.le_refl 0) hz).least (bit (reach ws (idiff t (2 ^ k)) 0)) hR.has (fun j y hy hj => by
        by_cases e : j = k
        · subst e; rw [hx] at hy; obtain rfl := Option.some.inj hy; rw [ha, hb']
        · exact less_closed hn hy hj e) x.a hb.1 hr
      rw [ha] at this; cases this
/-- from one of its places only -/
theorem up_one_place {ws : List Wy} {t v v' : Int} {k : Nat} (h : Up ws t v k) (h' : Up ws t v' k) : v = v' := by
  obtain ⟨x, u, hx, hc, hu⟩ := h.way
  obtain ⟨x', u', hx', hc', hu'⟩ := h'.way
  rw [hx] at hx'; obtain rfl := Option.some.inj hx'
  rcases hc with ⟨h1, h2⟩ | ⟨h1, h2⟩ <;> rcases hc' with ⟨h3, h4⟩ | ⟨h3, h4⟩
  · rw [h1, h3]
  · exfalso; have := h.out; rw [h1, ← h4, hu'] at this; cases this
  · exfalso; have := h.out; rw [h1, ← h4, hu'] at this; cases this
  · rw [h1, h3]
/-- each place that is come to has one way up at most -/
theorem up_one {n : Int} {ws : List Wy} (hn : NetIs n ws) {t v : Int} {k k' : Nat} (hv : 0 ≤ v) (hr : bit (reach ws t 0) v = true) (h : Up ws t v k) (h' : Up ws t v k') : k = k' := by
  by_cases e : k = k'
  · exact e
  exfalso
  have hz := zero_lt hn
  obtain ⟨x, u, hx, hc, hu⟩ := h.way
  obtain ⟨x', u', hx', hc', hu'⟩ := h'.way
  have key : (bit (reach ws (idiff t (2 ^ k)) 0) v && bit (reach ws (idiff t (2 ^ k')) 0) v) = true := by
    refine (reach_is (s := t) hn (Int.le_refl 0) hz).least (fun q => bit (reach ws (idiff t (2 ^ k)) 0) q && bit (reach ws (idiff t (2 ^ k')) 0) q) ?_ ?_ v hv hr
    · simp only [(reach_is (s := idiff t (2 ^ k)) hn (Int.le_refl 0) hz).has, (reach_is (s := idiff t (2 ^ k')) hn (Int.le_refl 0) hz).has]; rfl
    · intro j y hy hj
      simp only
      by_cases e1 : j = k
      · subst e1
        rw [hx] at hy; obtain rfl := Option.some.inj hy
        have hc1 := less_closed (k := k') hn hx hj e
        have ho := h'.out
        rcases hc with ⟨h1, h2⟩ | ⟨h1, h2⟩
        · rw [h1] at ho; rw [← hc1, ho]; simp
        · rw [h1] at ho; rw [hc1, ho]; simp
      · have hc1 := less_closed (k := k) hn hy hj e1
        by_cases e2 : j = k'
        · subst e2
          rw [hx'] at hy; obtain rfl := Option.some.inj hy
          have ho := h.out
          rcases hc' with ⟨h1, h2⟩ | ⟨h1, h2⟩
          · rw [h1] at ho; rw [← hc1, ho]; simp
          · rw [h1] at ho; rw [hc1, ho]; simp
        · rw [hc1, less_closed (k := k') hn hy hj e2]
  rw [h.out] at key; cases key
/-- the source has none -/
theorem up_zero {n : Int} {ws : List Wy} (hn : NetIs n ws) {t : Int} {k : Nat} (h : Up ws t 0 k) : False := by
  have := (reach_is (s := idiff t (2 ^ k)) hn (Int.le_refl 0) (zero_lt hn)).has
  rw [h.out] at this; cases this

/-! ### how the ways up are found: place by place -/
/-- whatever way of t is not within the places found, they are come to without it -/
structure Found (n : Int) (ws : List Wy) (t now : Int) : Prop where
  zero : bit now 0 = true
  sub : ∀ q, 0 ≤ q → bit now q = true → q < n
  come : ∀ q, 0 ≤ q → bit now q = true → ∀ (j : Nat) (y : Wy), ws[j]? = some y → bit t j = true → (bit now y.a && bit now y.b) = false → bit (reach ws (idiff t (2 ^ j)) 0) q = true
theorem Found.start {n : Int} {ws : List Wy} (hn : NetIs n ws) (t : Int) : Found n ws t 1 := by
  have h1 : ∀ q : Int, 0 ≤ q → bit 1 q = decide (q = 0) := fun q hq => bit_shl 0 q (Int.le_refl 0) hq
  have hz := zero_lt hn
  refine ⟨by rw [h1 0 (Int.le_refl 0)]; rfl, fun q hq h => ?_, fun q hq h j y hy hj _ => ?_⟩
  · rw [h1 q hq] at h; have := of_decide_eq_true h; omega
  · rw [h1 q hq] at h; have := of_decide_eq_true h; subst this
    exact (reach_is hn (Int.le_refl 0) hz).has
/-- the way that finds a place is its way up -/
theorem Found.up {n : Int} {ws : List Wy} (hn : NetIs n ws) {t now : Int} (hi : Indep ws t) (h : Found n ws t now) {k : Nat} {x : Wy} {v u : Int} (hx : ws[k]? = some x) (hk : bit t k = true) (hvu : (v = x.a ∧ u = x.b) ∨ (v = x.b ∧ u = x.a)) (hu : bit now u = true) (hv : bit now v = false) : Up ws t v k := by
  have hb := hn.at_ hx
  have hz := zero_lt hn
  have hu0 : 0 ≤ u ∧ u < n := by rcases hvu with ⟨_, e⟩ | ⟨_, e⟩ <;> subst e <;> omega
  have hcu := h.come u hu0.1 hu k x hx hk (by rcases hvu with ⟨e, _⟩ | ⟨e, _⟩ <;> subst e <;> rw [hv] <;> simp)
  refine ⟨hk, ?_, x, u, hx, hvu, hcu⟩
  cases ho : bit (reach ws (idiff t (2 ^ k)) 0) v with
  | false => rfl
  | true =>
    exfalso
    have hno := hi k x hx hk
    rcases hvu with ⟨e1, e2⟩ | ⟨e1, e2⟩
    · subst e1 e2
      have := re_trans hn hb.1 hb.2.1 (Int.le_refl 0) (re_sym hn (Int.le_refl 0) hz hb.1 ho) hcu
      rw [hno] at this; cases this
    · subst e1 e2
      have := re_trans hn hb.1 hb.2.1 (Int.le_refl 0) (re_sym hn (Int.le_refl 0) hz hb.1 hcu) ho
      rw [hno] at this; cases this
theorem Found.step {n : Int} {ws : List Wy} (hn : NetIs n ws) {t now : Int} (h : Found n ws t now) {k : Nat} {x : Wy} {v u : Int} (hx : ws[k]? = some x) (hk : bit t k = true) (hvu : (v = x.a ∧ u = x.b) ∨ (v = x.b ∧ u = x.a)) (hu : bit now u = true) (hv : bit now v = false) : Found n ws t (ior now (2 ^ v.toNat)) := by
  have hb := hn.at_ hx
  have hz := zero_lt hn
  have hu0 : 0 ≤ u ∧ u < n := by rcases hvu with ⟨_, e⟩ | ⟨_, e⟩ <;> subst e <;> omega
  have hv0 : 0 ≤ v ∧ v < n := by rcases hvu with ⟨e, _⟩ | ⟨e, _⟩ <;> subst e <;> omega
  have hbit : ∀ q : Int, 0 ≤ q → bit (ior now (2 ^ v.toNat)) q = (bit now q || decide (q = v)) := fun q hq => by rw [bit_ior, bit_shl v q hv0.1 hq]
  have hold : ∀ y : Wy, 0 ≤ y.a → 0 ≤ y.b → (bit (ior now (2 ^ v.toNat)) y.a && bit (ior now (2 ^ v.toNat)) y.b) = false → (bit now y.a && bit now y.b) = false := fun y h1 h2 h3 => by
    rw [hbit _ h1, hbit _ h2] at h3
    revert h3
    cases bit now y.a <;> cases bit now y.b <;> simp
  refine ⟨by rw [hbit 0 (Int.le_refl 0), h.zero]; rfl, fun q hq hqn => ?_, fun q hq hqn j y hy hj hnb => ?_⟩
  · rw [hbit q hq] at hqn
    rcases Bool.or_eq_true _ _ |>.mp hqn with h1 | h1
    · exact h.sub q hq h1
    · have := of_decide_eq_true h1; omega
  · have hyb := hn.at_ hy
    have hnb' := hold y hyb.1 hyb.2.2.1 hnb
    rw [hbit q hq] at hqn
    rcases Bool.or_eq_true _ _ |>.mp hqn with h1 | h1
    · exact h.come q hq h1 j y hy hj hnb'
    · have e := of_decide_eq_true h1; subst e
      have hjk : k ≠ j := by
        intro e; subst e; rw [hx] at hy; obtain rfl := Option.some.inj hy
        rw [hbit _ hyb.1, hbit _ hyb.2.2.1] at hnb
        rcases hvu with ⟨e1, e2⟩ | ⟨e1, e2⟩
        · rw [← e1, ← e2, hu] at hnb; simp at hnb
        · rw [← e1, ← e2, hu] at hnb; simp at hnb
      have hcu := h.come u hu0.1 hu j y hy hj hnb'
      have hcl := less_closed (k := j) hn hx hk hjk
      rcases hvu with ⟨e1, e2⟩ | ⟨e1, e2⟩
      · rw [e1, hcl, ← e2]; exact hcu
      · rw [e1, ← hcl, ← e2]; exact hcu
/-- where no way leads on, all is found that t comes to -/
theorem Found.all {n : Int} {ws : List Wy} (hn : NetIs n ws) {t now : Int} (h : Found n ws t now) (he : ∀ (k : Nat) (x : Wy), ws[k]? = some x → bit t k = true → bit now x.a = bit now x.b) {q : Int} (hq : 0 ≤ q) (hr : bit (reach ws t 0) q = true) : bit now q = true :=
  (reach_is (s := t) hn (Int.le_refl 0) (zero_lt hn)).least (bit now) h.zero he q hq hr
end Go.Proofs.Ythadehgpeafniaa
