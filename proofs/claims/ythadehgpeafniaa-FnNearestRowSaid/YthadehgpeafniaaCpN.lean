/- Into how many parts a set of ways falls. Plain mathematics. -/
import Derived.Test.YthadehgpeafniaaUpM
import Derived.Test.YthadehgpeafniaaMJ
set_option linter.unusedVariables false
set_option linter.unusedSimpArgs false
namespace Go.Proofs.Ythadehgpeafniaa
open Go.RowKit

/-! ### counts -/
def cnB (P : Nat → Bool) : Nat → Int
  | 0 => 0
  | k + 1 => cnB P k + if P k = true then 1 else 0
theorem cnB_bd (P : Nat → Bool) : ∀ k : Nat, 0 ≤ cnB P k ∧ cnB P k ≤ k
  | 0 => by simp [cnB]
  | k + 1 => by
    have := cnB_bd P k
    rw [cnB]; split <;> omega
theorem cnB_le {P Q : Nat → Bool} : ∀ k : Nat, (∀ v, v < k → P v = true → Q v = true) → cnB P k ≤ cnB Q k
  | 0, _ => by simp [cnB]
  | k + 1, h => by
    have ih := cnB_le k (fun v hv => h v (by omega))
    have := h k (by omega)
    rw [cnB, cnB]
    by_cases hp : P k = true
    · rw [if_pos hp, if_pos (this hp)]; omega
    · rw [if_neg hp]; split <;> omega
theorem cnB_congr {P Q : Nat → Bool} (k : Nat) (h : ∀ v, v < k → P v = Q v) : cnB P k = cnB Q k := by
  have h1 := cnB_le (P := P) (Q := Q) k (fun v hv hp => by rw [← h v hv]; exact hp)
  have h2 := cnB_le (P := Q) (Q := P) k (fun v hv hp => by rw [h v hv]; exact hp)
  omega
theorem cnB_all {P : Nat → Bool} : ∀ k : Nat, (∀ v, v < k → P v = true) → cnB P k = k
  | 0, _ => rfl
  | k + 1, h => by rw [cnB, cnB_all k (fun v hv => h v (by omega)), if_pos (h k (by omega))]; omega
theorem cnB_none {P : Nat → Bool} : ∀ k : Nat, (∀ v, v < k → P v = false) → cnB P k = 0
  | 0, _ => rfl
  | k + 1, h => by rw [cnB, cnB_none k (fun v hv => h v (by omega)), if_neg (by rw [h k (by omega)]; simp)]; rfl
/-- all but one -/
theorem cnB_one {P Q : Nat → Bool} (v0 : Nat) : ∀ k : Nat, (∀ v, v < k → v ≠ v0 → P v = true → Q v = true) → cnB P k ≤ cnB Q k + 1
  | 0, _ => by simp [cnB]
  | k + 1, h => by
    have ih := cnB_one v0 k (fun v hv => h v (by omega))
    rw [cnB, cnB]
    by_cases e : k = v0
    · have := cnB_le (P := P) (Q := Q) k (fun v hv hp => h v (by omega) (by omega) hp)
      split <;> split <;> omega
    · have h2 := h k (by omega) e
      by_cases hp : P k = true
      · rw [if_pos hp, if_pos (h2 hp)]; omega
      · rw [if_neg hp]; split <;> omega
theorem cnB_add {P Q R : Nat → Bool} : ∀ k : Nat, (∀ v, v < k → R v = (P v || Q v) ∧ (P v && Q v) = false) → cnB R k = cnB P k + cnB Q k
  | 0, _ => by simp [cnB]
  | k + 1, h => by
    obtain ⟨h1, h2⟩ := h k (by omega)
    rw [cnB, cnB, cnB, cnB_add k (fun v hv => h v (by omega)), h1]
    cases hp : P k <;> cases hq : Q k <;> rw [hp, hq] at h2 <;> simp at h2 ⊢ <;> omega
theorem cnB_pos {P : Nat → Bool} {v : Nat} {k : Nat} (hv : v < k) (hp : P v = true) : 1 ≤ cnB P k := by
  induction k with
  | zero => omega
  | succ k ih =>
    rw [cnB]
    have hb := cnB_bd P k
    by_cases e : v = k
    · subst e; rw [if_pos hp]; omega
    · have := ih (by omega); split <;> omega
theorem cnB_le1 {P : Nat → Bool} : ∀ k : Nat, (∀ u v, u < k → v < k → P u = true → P v = true → u = v) → cnB P k ≤ 1
  | 0, _ => by simp [cnB]
  | k + 1, h => by
    have ih := cnB_le1 k (fun u v hu hv => h u v (by omega) (by omega))
    rw [cnB]
    by_cases hp : P k = true
    · rw [if_pos hp, cnB_none k (fun v hv => by
        cases hq : P v with
        | false => rfl
        | true => have := h v k (by omega) (by omega) hq hp; omega)]; omega
    · rw [if_neg hp]; omega
theorem pop_cnB_all : ∀ s : Fin 512, pop (s.val : Int) = cnB (fun j => s.val.testBit j) 9 := by decide +kernel
theorem cnB_more {P : Nat → Bool} {m : Nat} : ∀ d : Nat, (∀ v, m ≤ v → P v = false) → cnB P (m + d) = cnB P m
  | 0, _ => rfl
  | d + 1, h => by rw [Nat.add_succ, cnB, cnB_more d h, if_neg (by rw [h _ (by omega)]; simp)]; omega
theorem pop_cnB {s : Int} {m : Nat} (hm : m ≤ 9) (s0 : 0 ≤ s) (s1 : s < 2 ^ m) : pop s = cnB (fun j => bit s j) m := by
  have h9 := Nat.pow_le_pow_right (n := 2) (by omega) hm
  have e2 : ((2 : Int) ^ m) = ((2 ^ m : Nat) : Int) := by simp
  have h := pop_cnB_all ⟨s.toNat, by omega⟩
  simp only [Int.toNat_of_nonneg s0] at h
  rw [h]
  have e : (fun j : Nat => s.toNat.testBit j) = fun j : Nat => bit s (j : Int) := by funext j; unfold bit; simp
  rw [e]
  have := cnB_more (P := fun j : Nat => bit s (j : Int)) (m := m) (9 - m) (fun v hv => by
    cases hb : bit s (v : Int) with
    | false => rfl
    | true => have := set_sub (n := m) s0 s1 hb; omega)
  rwa [show m + (9 - m) = 9 from by omega] at this

/-! ### least places -/
noncomputable def lowB (ws : List Wy) (s : Int) (v : Nat) : Bool := decide (iand (reach ws s v) (2 ^ v - 1) = 0)
theorem below_bit (v : Nat) {q : Int} (hq : 0 ≤ q) : bit (2 ^ v - 1) q = decide (q < v) := by
  have h := allPl_bit (n := (v : Int)) hq (by omega)
  unfold allPl at h
  rwa [Int.toNat_natCast] at h
theorem lowB_iff {ws : List Wy} {s : Int} {v : Nat} : lowB ws s v = true ↔ ∀ u : Nat, u < v → bit (reach ws s v) u = false := by
  unfold lowB
  rw [decide_eq_true_eq]
  constructor
  · intro h u hu
    have hb : bit (iand (reach ws s v) (2 ^ v - 1)) u = false := by rw [h]; exact bit_zero_ _
    rw [bit_iand, below_bit v (by omega)] at hb
    have : decide ((u : Int) < v) = true := by simpa using hu
    rw [this, Bool.and_true] at hb
    exact hb
  · intro h
    refine set_ext (by unfold iand; omega) (Int.le_refl 0) fun q hq => ?_
    rw [bit_zero_, bit_iand, below_bit v hq]
    by_cases hqv : q < v
    · have := h q.toNat (by omega)
      rw [Int.toNat_of_nonneg hq] at this
      rw [this]; rfl
    · rw [decide_eq_false hqv, Bool.and_false]
/-- as many parts as least places -/
noncomputable def ptTo (ws : List Wy) (s : Int) (k : Nat) : Int := cnB (fun v => bit (nodesTo ws s ws.length) v && lowB ws s v) k
noncomputable def partMany (n : Int) (ws : List Wy) (s : Int) : Int := if setOk n ws s = true then ptTo ws s n.toNat else -1
section
variable {m : Nat} {ws : List Wy} (hn : NetIs (m : Int) ws)
include hn
theorem low_same {s : Int} {u v : Nat} (hu : u < m) (hv : v < m) (lu : lowB ws s u = true) (lv : lowB ws s v = true) (h : bit (reach ws s u) v = true) : u = v := by
  have h' := re_sym hn (by omega) (by omega) (by omega) h
  by_cases e : u < v
  · have := lowB_iff.1 lv u e; rw [h'] at this; cases this
  · by_cases e2 : v < u
    · have := lowB_iff.1 lu v e2; rw [h] at this; cases this
    · omega
theorem low_ex {s : Int} : ∀ (v : Nat), v < m → ∃ u : Nat, u ≤ v ∧ lowB ws s u = true ∧ bit (reach ws s v) u = true := by
  intro v
  induction v using Nat.strongRecOn with
  | _ v ih =>
    intro hv
    cases hl : lowB ws s v with
    | true => exact ⟨v, Nat.le_refl _, hl, (reach_is hn (by omega) (by omega)).has⟩
    | false =>
      have : ∃ u : Nat, u < v ∧ bit (reach ws s v) u = true := by
        apply Classical.byContradiction
        intro hne
        have : lowB ws s v = true := lowB_iff.2 fun u hu => by
          cases hb : bit (reach ws s v) u with
          | false => rfl
          | true => exact absurd ⟨u, hu, hb⟩ hne
        rw [hl] at this; cases this
      obtain ⟨u, hu, hb⟩ := this
      obtain ⟨t, h1, h2, h3⟩ := ih u hu (by omega)
      exact ⟨t, by omega, h2, re_trans hn (by omega) (by omega) (by omega) hb h3⟩
/-- with a way more -/
theorem re_more {s t : Int} {k : Nat} {x : Wy} (hx : ws[k]? = some x) (ht : ∀ j : Nat, bit t j = true → bit s j = true ∨ j = k) {v u : Nat} (hv : v < m) (hu : u < m) (h : bit (reach ws t v) u = true) :
    bit (reach ws s v) u = true ∨ (bit (reach ws s x.a) v = true ∧ bit (reach ws s x.b) u = true) ∨ (bit (reach ws s x.b) v = true ∧ bit (reach ws s x.a) u = true) := by
  have hb := hn.at_ hx
  have Rv := reach_is (s := s) hn (p := (v : Int)) (by omega) (by omega)
  have Ra := reach_is (s := s) hn (p := x.a) (by omega) (by omega)
  have Rb := reach_is (s := s) hn (p := x.b) (by omega) (by omega)
  have key := (reach_is (s := t) hn (p := (v : Int)) (by omega) (by omega)).least
    (fun q => bit (reach ws s v) q || (bit (reach ws s x.a) v && bit (reach ws s x.b) q) || (bit (reach ws s x.b) v && bit (reach ws s x.a) q))
    (by simp only [Rv.has]; rfl) (fun j y hy hj => by
      rcases ht j hj with h1 | h1
      · simp only [Rv.closed j y hy h1, Ra.closed j y hy h1, Rb.closed j y hy h1]
      · subst h1
        rw [hx] at hy; obtain rfl := Option.some.inj hy
        simp only [Ra.has, Rb.has, Bool.and_true]
        cases h1 : bit (reach ws s x.a) v with
        | true =>
          have h2 := re_sym hn (by omega) (by omega) (by omega) h1
          rw [h2]; simp
        | false =>
          cases h3 : bit (reach ws s x.b) v with
          | true =>
            have h4 := re_sym hn (by omega) (by omega) (by omega) h3
            rw [h4]; simp
          | false =>
            have n1 : bit (reach ws s v) x.a = false := by
              cases h5 : bit (reach ws s v) x.a with
              | false => rfl
              | true => have := re_sym hn (by omega) (by omega) (by omega) h5; rw [h1] at this; cases this
            have n2 : bit (reach ws s v) x.b = false := by
              cases h5 : bit (reach ws s v) x.b with
              | false => rfl
              | true => have := re_sym hn (by omega) (by omega) (by omega) h5; rw [h3] at this; cases this
            rw [n1, n2]; simp) (u : Int) (by omega) h
  simp only [Bool.or_eq_true, Bool.and_eq_true] at key
  rcases key with (h1 | h1) | h1
  · exact .inl h1
  · exact .inr (.inl h1)
  · exact .inr (.inr h1)
/-- a way more takes one least place at most -/
theorem low_less {s t : Int} {k : Nat} {x : Wy} (hx : ws[k]? = some x) (hs : ∀ j : Nat, bit s j = true → bit t j = true) (ht : ∀ j : Nat, bit t j = true → bit s j = true ∨ j = k) : cnB (lowB ws s) m ≤ cnB (lowB ws t) m + 1 := by
  have hb := hn.at_ hx
  have lost : ∀ v : Nat, v < m → lowB ws s v = true → lowB ws t v = false → ∃ u : Nat, u < v ∧ ((bit (reach ws s x.a) v = true ∧ bit (reach ws s x.b) u = true) ∨ (bit (reach ws s x.b) v = true ∧ bit (reach ws s x.a) u = true)) := fun v hv hl hl' => by
    have : ∃ u : Nat, u < v ∧ bit (reach ws t v) u = true := by
      apply Classical.byContradiction
      intro hne
      have : lowB ws t v = true := lowB_iff.2 fun u hu => by
        cases hb : bit (reach ws t v) u with
        | false => rfl
        | true => exact absurd ⟨u, hu, hb⟩ hne
      rw [hl'] at this; cases this
    obtain ⟨u, hu, hbt⟩ := this
    rcases re_more hn hx ht hv (by omega) hbt with h1 | h1
    · have := lowB_iff.1 hl u hu; rw [h1] at this; cases this
    · exact ⟨u, hu, h1⟩
  have tr : ∀ {p : Int} {u v : Nat}, 0 ≤ p → p < m → u < m → v < m → bit (reach ws s p) u = true → bit (reach ws s p) v = true → bit (reach ws s u) v = true := fun p0 p1 hu hv h1 h2 =>
    re_trans hn (by omega) (by omega) p0 (re_sym hn p0 p1 (by omega) h1) h2
  have one : ∀ v v' : Nat, v < m → v' < m → lowB ws s v = true → lowB ws t v = false → lowB ws s v' = true → lowB ws t v' = false → v = v' := fun v v' hv hv' l1 l2 l3 l4 => by
    obtain ⟨u, hu, h1⟩ := lost v hv l1 l2
    obtain ⟨u', hu', h2⟩ := lost v' hv' l3 l4
    have le : ∀ {p : Int} {y z : Nat}, 0 ≤ p → p < m → y < m → z < m → lowB ws s y = true → bit (reach ws s p) y = true → bit (reach ws s p) z = true → y ≤ z := by
      intro p y z p0 p1 hy hz l a1 a2
      by_cases e : z < y
      · have := lowB_iff.1 l _ e; rw [tr p0 p1 hy hz a1 a2] at this; cases this
      · omega
    rcases h1 with ⟨a1, a2⟩ | ⟨a1, a2⟩ <;> rcases h2 with ⟨b1, b2⟩ | ⟨b1, b2⟩
    · exact low_same hn hv hv' l1 l3 (tr (by omega) (by omega) hv hv' a1 b1)
    · have := le (by omega) (by omega) hv' (by omega) l3 b1 a2
      have := le (by omega) (by omega) hv (by omega) l1 a1 b2
      omega
    · have := le (by omega) (by omega) hv' (by omega) l3 b1 a2
      have := le (by omega) (by omega) hv (by omega) l1 a1 b2
      omega
    · exact low_same hn hv hv' l1 l3 (tr (by omega) (by omega) hv hv' a1 b1)
  by_cases hex : ∃ v : Nat, v < m ∧ lowB ws s v = true ∧ lowB ws t v = false
  · obtain ⟨v0, h0, h1, h2⟩ := hex
    exact cnB_one v0 m fun v hv hne hl => by
      cases hl' : lowB ws t v with
      | true => rfl
      | false => exact absurd (one v v0 hv h0 hl hl' h1 h2) hne
  · have := cnB_le (P := lowB ws s) (Q := lowB ws t) m fun v hv hl => by
      cases hl' : lowB ws t v with
      | true => rfl
      | false => exact absurd ⟨v, hv, hl, hl'⟩ hex
    omega
theorem reach_alone {s : Int} {v : Nat} (hv : v < m) (h : ∀ (k : Nat) (x : Wy), ws[k]? = some x → bit s k = true → (v : Int) ≠ x.a ∧ (v : Int) ≠ x.b) {u : Nat} (hu : bit (reach ws s v) u = true) : u = v := by
  have key := (reach_is (s := s) hn (p := (v : Int)) (by omega) (by omega)).least (fun q => decide (q = (v : Int))) (by simp) (fun k x hx hk => by
    obtain ⟨h1, h2⟩ := h k x hx hk
    show decide (x.a = (v : Int)) = decide (x.b = (v : Int))
    rw [decide_eq_false (fun e => h1 e.symm), decide_eq_false (fun e => h2 e.symm)]) (u : Int) (by omega) hu
  have := of_decide_eq_true key
  omega
/-- the least places of all, and the ways -/
theorem low_many (s : Int) : ∀ k : Nat, k ≤ ws.length → (m : Int) ≤ cnB (lowB ws (selTo (fun j => bit s j) k)) m + cnB (fun j => bit s j) k
  | 0, _ => by
    rw [cnB_all m (fun v hv => lowB_iff.2 fun u hu => by
      cases hb : bit (reach ws (selTo (fun j => bit s j) 0) v) u with
      | false => rfl
      | true =>
        have := reach_alone hn hv (fun k x hx hk => by rw [selTo_bit] at hk; simp at hk) hb
        omega)]
    simp [cnB]
  | k + 1, hk => by
    have ih := low_many s k (by omega)
    obtain ⟨x, hx⟩ : ∃ x, ws[k]? = some x := ⟨_, List.getElem?_eq_getElem (by omega)⟩
    rw [cnB]
    cases hb : bit s k with
    | false =>
      have e : selTo (fun j => bit s j) (k + 1) = selTo (fun j => bit s j) k := by rw [selTo, if_neg (by rw [hb]; simp)]
      rw [e, if_neg (by simp)]; omega
    | true =>
      rw [if_pos rfl]
      have := low_less hn (s := selTo (fun j => bit s j) k) (t := selTo (fun j => bit s j) (k + 1)) hx (fun j hj => by
        rw [selTo_bit] at hj ⊢
        simp only [Bool.and_eq_true, decide_eq_true_eq] at hj ⊢
        exact ⟨by omega, hj.2⟩) (fun j hj => by
        rw [selTo_bit] at hj ⊢
        simp only [Bool.and_eq_true, decide_eq_true_eq] at hj ⊢
        by_cases e : j = k
        · exact .inr e
        · exact .inl ⟨by omega, hj.2⟩)
      omega
omit hn in
theorem selTo_id {s : Int} (s0 : 0 ≤ s) (s1 : s ≤ full ws.length) : selTo (fun j => bit s j) ws.length = s :=
  set_ext (selTo_bd _ _).1 s0 fun q hq => by
    obtain ⟨j, rfl⟩ := Int.eq_ofNat_of_zero_le hq
    rw [selTo_bit]
    by_cases hj : j < ws.length
    · simp [hj]
    · cases hb : bit s (j : Int) with
      | false => simp
      | true =>
        have := set_sub (n := ws.length) s0 ((full_lt ws.length s).1 s1) hb
        omega
theorem node_iff (s : Int) {v : Nat} : bit (nodesTo ws s ws.length) v = true ↔ ∃ (k : Nat) (x : Wy), ws[k]? = some x ∧ bit s k = true ∧ ((v : Int) = x.a ∨ (v : Int) = x.b) := by
  rw [nodes_iff hn s v (by omega)]
  constructor
  · rintro ⟨k, x, _, h⟩; exact ⟨k, x, h⟩
  · rintro ⟨k, x, hx, h⟩; exact ⟨k, x, (List.getElem?_eq_some_iff.1 hx).1, hx, h⟩
theorem node_come {s : Int} {v u : Nat} (hv : v < m) (h : bit (nodesTo ws s ws.length) v = true) (hr : bit (reach ws s v) u = true) : bit (nodesTo ws s ws.length) u = true := by
  have key := (reach_is (s := s) hn (p := (v : Int)) (by omega) (by omega)).least (fun q => bit (nodesTo ws s ws.length) q.toNat) (by simpa using h) (fun k x hx hk => by
    have hb := hn.at_ hx
    have h1 : bit (nodesTo ws s ws.length) x.a.toNat = true := (node_iff hn s).2 ⟨k, x, hx, hk, .inl (by omega)⟩
    have h2 : bit (nodesTo ws s ws.length) x.b.toNat = true := (node_iff hn s).2 ⟨k, x, hx, hk, .inr (by omega)⟩
    show bit (nodesTo ws s ws.length) x.a.toNat = bit (nodesTo ws s ws.length) x.b.toNat
    rw [h1, h2]) u (by omega) hr
  simpa using key
/-- at least as many parts as places less ways -/
theorem parts_ge {s : Int} (s0 : 0 ≤ s) (s1 : s ≤ full ws.length) : pop (nodesTo ws s ws.length) - pop s ≤ ptTo ws s m := by
  have hl9 := hn.len
  have h6 := hn.hi
  have h1 := low_many hn s ws.length (Nat.le_refl _)
  rw [selTo_id s0 s1] at h1
  rw [← pop_cnB hl9 s0 ((full_lt ws.length s).1 s1)] at h1
  have hnb := nodesTo_bd hn s ws.length
  have h2 : pop (nodesTo ws s ws.length) = cnB (fun v => bit (nodesTo ws s ws.length) v) m := pop_cnB (by omega) hnb.1 (by have := nodesTo_lt hn s ws.length; rwa [Int.toNat_natCast] at this)
  have h3 : cnB (lowB ws s) m = ptTo ws s m + cnB (fun v => !bit (nodesTo ws s ws.length) v) m := by
    unfold ptTo
    refine cnB_add m fun v hv => ?_
    cases hN : bit (nodesTo ws s ws.length) v with
    | true => simp
    | false =>
      have : lowB ws s v = true := lowB_iff.2 fun u hu => by
        cases hb : bit (reach ws s v) u with
        | false => rfl
        | true =>
          have := reach_alone hn hv (fun k x hx hk => ⟨fun e => ?_, fun e => ?_⟩) hb
          · omega
          · have := (node_iff hn s).2 ⟨k, x, hx, hk, .inl e⟩; rw [hN] at this; cases this
          · have := (node_iff hn s).2 ⟨k, x, hx, hk, .inr e⟩; rw [hN] at this; cases this
      rw [this]; simp
  have h4 : cnB (fun _ => true) m = cnB (fun v => bit (nodesTo ws s ws.length) v) m + cnB (fun v => !bit (nodesTo ws s ws.length) v) m := cnB_add m fun v hv => by cases bit (nodesTo ws s ws.length) v <;> simp
  rw [cnB_all m (fun _ _ => rfl)] at h4
  omega
/-- parts are there exactly if there are ways -/
theorem parts_zero {s : Int} (s0 : 0 ≤ s) (s1 : s ≤ full ws.length) : s = 0 ↔ ptTo ws s m = 0 := by
  constructor
  · intro h
    subst h
    unfold ptTo
    refine cnB_none m fun v hv => ?_
    cases hN : bit (nodesTo ws 0 ws.length) v with
    | false => rfl
    | true =>
      obtain ⟨k, x, _, h2, _⟩ := (node_iff hn 0).1 hN
      rw [bit_zero_] at h2; cases h2
  · intro h
    apply Classical.byContradiction
    intro hne
    have : ∃ k : Nat, k < ws.length ∧ bit s k = true := by
      apply Classical.byContradiction
      intro hno
      apply hne
      rw [← selTo_id s0 s1]
      refine set_ext (selTo_bd _ _).1 (Int.le_refl 0) fun q hq => ?_
      obtain ⟨j, rfl⟩ := Int.eq_ofNat_of_zero_le hq
      rw [selTo_bit, bit_zero_]
      by_cases hj : j < ws.length
      · cases hb : bit s (j : Int) with
        | false => simp
        | true => exact absurd ⟨j, hj, hb⟩ hno
      · simp [hj]
    obtain ⟨k, hk, hb⟩ := this
    obtain ⟨x, hx⟩ : ∃ x, ws[k]? = some x := ⟨_, List.getElem?_eq_getElem hk⟩
    have hxb := hn.at_ hx
    obtain ⟨u, h1, h2, h3⟩ := low_ex hn (s := s) x.a.toNat (by omega)
    have hN := node_come hn (v := x.a.toNat) (by omega) ((node_iff hn s).2 ⟨k, x, hx, hb, .inl (by omega)⟩) h3
    have := cnB_pos (P := fun v => bit (nodesTo ws s ws.length) v && lowB ws s v) (v := u) (k := m) (by omega) (by simp only [hN, h2]; rfl)
    unfold ptTo at h
    omega
/-- what hangs together is one part at most -/
theorem parts_one {s : Int} (hj : joins ws s (nodesTo ws s ws.length) = true) : ptTo ws s m ≤ 1 := by
  have hnb := nodesTo_bd hn s ws.length
  have h := (joins_iff hn hnb.1 (nodesTo_lt hn s ws.length)).1 hj
  unfold ptTo
  refine cnB_le1 m fun u v hu hv h1 h2 => ?_
  simp only [Bool.and_eq_true] at h1 h2
  exact low_same hn hu hv h1.2 h2.2 (h u v (by omega) (by omega) h1.1 h2.1)
/-- each part has two places -/
theorem parts_half (s : Int) : 2 * ptTo ws s m ≤ m := by
  have key : ∀ k : Nat, k ≤ m → cnB (fun v => @decide (∃ j : Nat, j < k ∧ bit (nodesTo ws s ws.length) j = true ∧ lowB ws s j = false ∧ lowB ws s v = true ∧ bit (reach ws s j) v = true) (Classical.propDecidable _)) m ≤ cnB (fun j => bit (nodesTo ws s ws.length) j && !lowB ws s j) k := by
    intro k
    induction k with
    | zero => intro _; rw [cnB_none m (fun v _ => by simp)]; simp [cnB]
    | succ k ih =>
      intro hk
      have ih := ih (by omega)
      rw [cnB]
      by_cases hN : bit (nodesTo ws s ws.length) k = true ∧ lowB ws s k = false
      · rw [if_pos (by rw [hN.1, hN.2]; rfl)]
        obtain ⟨v0, h1, h2, h3⟩ := low_ex hn (s := s) k (by omega)
        refine Int.le_trans (cnB_one v0 m (Q := fun v => @decide (∃ j : Nat, j < k ∧ bit (nodesTo ws s ws.length) j = true ∧ lowB ws s j = false ∧ lowB ws s v = true ∧ bit (reach ws s j) v = true) (Classical.propDecidable _)) fun v hv hne hP => ?_) (by omega)
        simp only [decide_eq_true_eq] at hP ⊢
        obtain ⟨j, a1, a2, a3, a4, a5⟩ := hP
        by_cases e : j = k
        · subst e
          exact absurd (low_same hn hv (by omega) a4 h2 (re_trans hn (by omega) (by omega) (by omega) (re_sym hn (by omega) (by omega) (by omega) a5) h3)) hne
        · exact ⟨j, by omega, a2, a3, a4, a5⟩
      · rw [if_neg (fun h => hN (by simpa using h)), Int.add_zero]
        refine Int.le_trans (cnB_le m fun v hv hP => ?_) ih
        simp only [decide_eq_true_eq] at hP ⊢
        obtain ⟨j, a1, a2, a3, a4⟩ := hP
        by_cases e : j = k
        · subst e; exact absurd ⟨a2, a3⟩ hN
        · exact ⟨j, by omega, a2, a3, a4⟩
  have h1 := key m (Nat.le_refl _)
  have h2 : ptTo ws s m ≤ cnB (fun v => @decide (∃ j : Nat, j < m ∧ bit (nodesTo ws s ws.length) j = true ∧ lowB ws s j = false ∧ lowB ws s v = true ∧ bit (reach ws s j) v = true) (Classical.propDecidable _)) m := by
    unfold ptTo
    refine cnB_le m fun v hv hP => ?_
    simp only [Bool.and_eq_true, decide_eq_true_eq] at hP ⊢
    obtain ⟨k, x, hx, hk, he⟩ := (node_iff hn s).1 hP.1
    have hb := hn.at_ hx
    have hw := re_way hn hx hk
    obtain ⟨z, hz, hvz⟩ : ∃ z : Nat, (z : Int) ≠ v ∧ z < m ∧ bit (reach ws s v) z = true ∧ ((z : Int) = x.a ∨ (z : Int) = x.b) := by
      rcases he with e | e
      · exact ⟨x.b.toNat, by omega, by omega, by rw [e, Int.toNat_of_nonneg hb.2.2.1]; exact hw, .inr (by omega)⟩
      · exact ⟨x.a.toNat, by omega, by omega, by rw [e, Int.toNat_of_nonneg hb.1]; exact re_sym hn hb.1 hb.2.1 hb.2.2.1 hw, .inl (by omega)⟩
    obtain ⟨hzm, hr, hzx⟩ := hvz
    have hr' := re_sym hn (by omega) (by omega) (by omega) hr
    refine ⟨z, hzm, (node_iff hn s).2 ⟨k, x, hx, hk, hzx⟩, ?_, hP.2, hr'⟩
    cases hl : lowB ws s z with
    | false => rfl
    | true => exact absurd (low_same hn hv hzm hP.2 hl hr) (by omega)
  have h3 := cnB_add (P := fun v => bit (nodesTo ws s ws.length) v && lowB ws s v) (Q := fun j => bit (nodesTo ws s ws.length) j && !lowB ws s j) (R := fun v => bit (nodesTo ws s ws.length) v) m fun v hv => by
    cases bit (nodesTo ws s ws.length) v <;> cases lowB ws s v <;> simp
  have h4 := cnB_bd (fun v => bit (nodesTo ws s ws.length) v) m
  unfold ptTo at *
  omega
end
end Go.Proofs.Ythadehgpeafniaa
