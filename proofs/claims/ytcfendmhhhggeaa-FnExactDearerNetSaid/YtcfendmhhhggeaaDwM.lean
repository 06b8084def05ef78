/- Costs of roots without some ways, and with some; what each root must have, and what some have. Plain mathematics. -/
import Derived.Test.YtcfendmhhhggeaaFtM
set_option linter.unusedVariables false
set_option linter.unusedSimpArgs false
namespace Go.Proofs.Ytcfendmhhhggeaa
open Go.RowKit

/-- the least cost of the first sets that join, of those that P holds of -/
noncomputable def lcTo (ws : List Wy) (P : Int → Bool) (e : Int) : Nat → Int
  | 0 => -1
  | k + 1 => if (P k && joins ws k e) = true then lowC (lcTo ws P e k) (cost ws k) else lcTo ws P e k
noncomputable def lc (ws : List Wy) (P : Int → Bool) (e : Int) : Int := lcTo ws P e (2 ^ ws.length)
/-- all of s is in t -/
def subS (s t : Int) : Bool := idiff s t == 0
theorem subS_iff {s t : Int} (hs : 0 ≤ s) : subS s t = true ↔ ∀ q, 0 ≤ q → bit s q = true → bit t q = true := by
  unfold subS; rw [beq_iff_eq]; exact idiff_zero hs
noncomputable def costWithout (n : Int) (ws : List Wy) (e t : Int) : Int := if (netOk n ws && (plOk n e && inB' t (full ws.length))) = true then lc ws (fun s => subS s (idiff (full ws.length) t)) e else -1
where inB' (t f : Int) : Bool := decide (0 ≤ t) && decide (t ≤ f)
noncomputable def costWith (n : Int) (ws : List Wy) (e t : Int) : Int := if (netOk n ws && (plOk n e && costWithout.inB' t (full ws.length))) = true then lc ws (fun s => subS t s) e else -1
noncomputable def mustTo (n : Int) (ws : List Wy) (e : Int) : Nat → Int
  | 0 => 0
  | k + 1 => if costWithout n ws e (2 ^ k) = rootCost n ws e then mustTo n ws e k else ior (mustTo n ws e k) (2 ^ k)
noncomputable def mustWays (n : Int) (ws : List Wy) (e : Int) : Int := if rootCost n ws e < 0 then -1 else mustTo n ws e ws.length
def orAll (L : List Int) : Int := L.foldl ior 0
noncomputable def mayWays (n : Int) (ws : List Wy) (e : Int) : Int := if rootCost n ws e < 0 then -1 else orAll (rootsOf n ws e)

section
variable {n : Int} {ws : List Wy} (hn : NetIs n ws)
include hn
theorem lcTo_ok (P : Int → Bool) (e : Int) : ∀ N : Nat, -1 ≤ lcTo ws P e N ∧ (lcTo ws P e N < 0 → ∀ j : Nat, j < N → P j = true → joins ws j e = false) ∧ (0 ≤ lcTo ws P e N → ∃ j : Nat, j < N ∧ P j = true ∧ joins ws j e = true ∧ cost ws j = lcTo ws P e N) ∧ ∀ j : Nat, j < N → P j = true → joins ws j e = true → 0 ≤ lcTo ws P e N ∧ lcTo ws P e N ≤ cost ws j
  | 0 => ⟨by simp [lcTo], fun _ j h => by omega, fun h => by simp [lcTo] at h, fun j h => by omega⟩
  | N + 1 => by
    obtain ⟨h0, h1, h2, h3⟩ := lcTo_ok P e N
    have hc := (cost_bds hn (N : Int)).1
    rw [lcTo]
    by_cases hp : (P N && joins ws N e) = true
    · rw [if_pos hp]
      rw [Bool.and_eq_true] at hp
      have hlow : 0 ≤ lowC (lcTo ws P e N) (cost ws N) ∧ lowC (lcTo ws P e N) (cost ws N) ≤ cost ws N ∧ (0 ≤ lcTo ws P e N → lowC (lcTo ws P e N) (cost ws N) ≤ lcTo ws P e N) ∧ (lowC (lcTo ws P e N) (cost ws N) = cost ws N ∨ (lowC (lcTo ws P e N) (cost ws N) = lcTo ws P e N ∧ 0 ≤ lcTo ws P e N)) := by
        unfold lowC; split <;> omega
      refine ⟨by omega, fun h => by omega, fun _ => ?_, fun j hj hpj hjj => ?_⟩
      · rcases hlow.2.2.2 with h | ⟨h, h'⟩
        · exact ⟨N, by omega, hp.1, hp.2, h.symm⟩
        · obtain ⟨j, a, b, c, d⟩ := h2 h'
          exact ⟨j, by omega, b, c, by rw [h]; exact d⟩
      · by_cases ej : j = N
        · subst ej; omega
        · have := h3 j (by omega) hpj hjj; omega
    · rw [if_neg hp]
      refine ⟨h0, fun h j hj hpj => ?_, fun h => ?_, fun j hj hpj hjj => ?_⟩
      · by_cases ej : j = N
        · subst ej
          cases hjj : joins ws j e
          · rfl
          · exact absurd (by rw [hpj, hjj]; rfl) hp
        · exact h1 h j (by omega) hpj
      · obtain ⟨j, a, b, c, d⟩ := h2 h
        exact ⟨j, by omega, b, c, d⟩
      · by_cases ej : j = N
        · subst ej; exact absurd (by rw [hpj, hjj]; rfl) hp
        · exact h3 j (by omega) hpj hjj
theorem lc_bd (P : Int → Bool) (e : Int) : -1 ≤ lc ws P e ∧ lc ws P e ≤ 81 := by
  obtain ⟨h0, _, h2, _⟩ := lcTo_ok hn P e (2 ^ ws.length)
  refine ⟨h0, ?_⟩
  unfold lc
  by_cases h : 0 ≤ lcTo ws P e (2 ^ ws.length)
  · obtain ⟨j, _, _, _, d⟩ := h2 h
    have := (cost_bds hn (j : Int)).2; omega
  · omega
theorem lc_le {P : Int → Bool} {e s : Int} (s0 : 0 ≤ s) (s1 : s ≤ full ws.length) (hp : P s = true) (hj : joins ws s e = true) : 0 ≤ lc ws P e ∧ lc ws P e ≤ cost ws s := by
  obtain ⟨j, rfl⟩ := Int.eq_ofNat_of_zero_le s0
  have e2 : ((2 : Int) ^ ws.length) = ((2 ^ ws.length : Nat) : Int) := by simp
  have := (full_lt ws.length _).1 s1
  exact (lcTo_ok hn P e (2 ^ ws.length)).2.2.2 j (by omega) hp hj
theorem lc_set {P : Int → Bool} {e : Int} (h : 0 ≤ lc ws P e) : ∃ s, 0 ≤ s ∧ s ≤ full ws.length ∧ P s = true ∧ joins ws s e = true ∧ cost ws s = lc ws P e := by
  obtain ⟨j, a, b, c, d⟩ := (lcTo_ok hn P e (2 ^ ws.length)).2.2.1 h
  have e2 : ((2 : Int) ^ ws.length) = ((2 ^ ws.length : Nat) : Int) := by simp
  exact ⟨j, by omega, (full_lt ws.length _).2 (by omega), b, c, d⟩
theorem lc_none {P : Int → Bool} {e s : Int} (h : lc ws P e < 0) (s0 : 0 ≤ s) (s1 : s ≤ full ws.length) (hp : P s = true) : joins ws s e = false := by
  cases hj : joins ws s e
  · rfl
  · have := lc_le hn s0 s1 hp hj; omega
/-- it is at least the cost of a root -/
theorem lc_rc {P : Int → Bool} {e : Int} (h : 0 ≤ lc ws P e) : 0 ≤ rc ws e ∧ rc ws e ≤ lc ws P e := by
  obtain ⟨s, s0, s1, _, hj, hc⟩ := lc_set hn h
  have := rc_le hn s0 s1 hj
  omega
/-- it is just that if P holds of a root -/
theorem lc_root {P : Int → Bool} {e s : Int} (s0 : 0 ≤ s) (s1 : s ≤ full ws.length) (hp : P s = true) (hj : joins ws s e = true) (hc : cost ws s = rc ws e) : lc ws P e = rc ws e := by
  have h1 := lc_le hn s0 s1 hp hj
  have h2 := lc_rc hn h1.1
  omega
end
theorem fullb_in {len : Nat} {q : Int} (h0 : 0 ≤ q) (h1 : q < len) : bit (full len) q = true := by
  obtain ⟨j, rfl⟩ := Int.eq_ofNat_of_zero_le h0
  exact full_all len j (by omega)
theorem in_full {len : Nat} {s : Int} (s0 : 0 ≤ s) (s1 : s ≤ full len) {q : Int} (hb : bit s q = true) : q < (len : Int) := set_sub s0 ((full_lt len s).1 s1) hb
section
variable {n : Int} {ws : List Wy} {e : Int} (hno : netOk n ws = true) (he : plOk n e = true)
include hno he
theorem cw_is {t : Int} (t0 : 0 ≤ t) (t1 : t ≤ full ws.length) : costWithout n ws e t = lc ws (fun s => subS s (idiff (full ws.length) t)) e := by
  unfold costWithout costWithout.inB'
  rw [hno, he, decide_eq_true t0, decide_eq_true t1]; rfl
theorem ch_is {t : Int} (t0 : 0 ≤ t) (t1 : t ≤ full ws.length) : costWith n ws e t = lc ws (fun s => subS t s) e := by
  unfold costWith costWithout.inB'
  rw [hno, he, decide_eq_true t0, decide_eq_true t1]; rfl
/-- without no ways, and without those that are not of a root -/
theorem cw_keep {t : Int} (t0 : 0 ≤ t) (t1 : t ≤ full ws.length) (h : ∀ q, 0 ≤ q → bit (best ws e) q = true → bit t q = false) (hb : 0 ≤ best ws e) : costWithout n ws e t = rc ws e := by
  have hn := netOk_t hno
  rw [cw_is hno he t0 t1]
  refine lc_root hn hb (best_full ws e) ((subS_iff hb).2 fun q hq hbq => ?_) (best_joins hb) (by unfold rc; rw [if_neg (by omega)])
  rw [bit_idiff, fullb_in hq (in_full hb (best_full ws e) hbq), h q hq hbq]; rfl
theorem cw_ge {t : Int} (t0 : 0 ≤ t) (t1 : t ≤ full ws.length) : costWithout n ws e t = -1 ∨ (0 ≤ rc ws e ∧ rc ws e ≤ costWithout n ws e t) := by
  have hn := netOk_t hno
  rw [cw_is hno he t0 t1]
  have hb := lc_bd hn (fun s => subS s (idiff (full ws.length) t)) e
  by_cases h : 0 ≤ lc ws (fun s => subS s (idiff (full ws.length) t)) e
  · exact .inr (lc_rc hn h)
  · left; omega
theorem cw_zero : costWithout n ws e 0 = rc ws e := by
  have hn := netOk_t hno
  have hf := full_bd ws.length hn.len
  by_cases hb : 0 ≤ best ws e
  · exact cw_keep hno he (Int.le_refl 0) hf.1 (fun q _ _ => bit_zero_ q) hb
  · have hr : rc ws e = -1 := by unfold rc; rw [if_pos (by omega)]
    rcases cw_ge hno he (Int.le_refl 0) hf.1 with h | ⟨h, _⟩ <;> omega
theorem cw_root (hb : 0 ≤ best ws e) : costWithout n ws e (idiff (full ws.length) (best ws e)) = rc ws e := by
  have hn := netOk_t hno
  have hf := full_bd ws.length hn.len
  have hd := idiff_bd (full ws.length) (best ws e) hf.1
  exact cw_keep hno he hd.1 hd.2 (fun q hq hbq => by rw [bit_idiff, hbq]; simp) hb
/-- with a way and without it the least root is found -/
theorem one_or {t : Int} (t0 : 0 ≤ t) (t1 : t ≤ full ws.length) (ht : ∀ q, 0 ≤ q → bit t q = true → q = 0) (h : 0 ≤ rc ws e) : costWith n ws e t = rc ws e ∨ costWithout n ws e t = rc ws e := by
  have hn := netOk_t hno
  have hb : 0 ≤ best ws e := by unfold rc at h; split at h <;> omega
  have hc : cost ws (best ws e) = rc ws e := by unfold rc; rw [if_neg (by omega)]
  cases hx : bit (best ws e) 0
  · right
    exact cw_keep hno he t0 t1 (fun q hq hbq => by
      cases hy : bit t q
      · rfl
      · have := ht q hq hy; subst this; rw [hx] at hbq; cases hbq) hb
  · left
    rw [ch_is hno he t0 t1]
    exact lc_root hn hb (best_full ws e) ((subS_iff t0).2 fun q hq hbq => by rw [ht q hq hbq]; exact hx) (best_joins hb) hc
theorem ch_ge {t : Int} (t0 : 0 ≤ t) (t1 : t ≤ full ws.length) (h : 0 ≤ rc ws e) : rc ws e ≤ costWith n ws e t := by
  have hn := netOk_t hno
  obtain ⟨e0, e1⟩ := plOk_t he
  have hf := full_bd ws.length hn.len
  rw [ch_is hno he t0 t1]
  have hj := (rc_told hn e0 e1).1 h
  have h1 := lc_le hn (P := fun s => subS t s) hf.1 (Int.le_refl _) ((subS_iff t0).2 fun q hq hbq => fullb_in hq (in_full t0 t1 hbq)) hj
  exact (lc_rc hn h1.1).2
theorem ch_none {t : Int} (t0 : 0 ≤ t) (t1 : t ≤ full ws.length) (h : rc ws e < 0) : costWith n ws e t = -1 := by
  have hn := netOk_t hno
  rw [ch_is hno he t0 t1]
  have hb := lc_bd hn (fun s => subS t s) e
  by_cases h9 : 0 ≤ lc ws (fun s => subS t s) e
  · have := (lc_rc hn h9).1; omega
  · omega
theorem ch_all (h : 0 ≤ rc ws e) : costWith n ws e (full ws.length) = cost ws (full ws.length) := by
  have hn := netOk_t hno
  obtain ⟨e0, e1⟩ := plOk_t he
  have hf := full_bd ws.length hn.len
  rw [ch_is hno he hf.1 (Int.le_refl _)]
  have hj := (rc_told hn e0 e1).1 h
  have h1 := lc_le hn (P := fun s => subS (full ws.length) s) hf.1 (Int.le_refl _) ((subS_iff hf.1).2 fun q _ hb => hb) hj
  obtain ⟨s, s0, s1, hp, _, hc⟩ := lc_set hn h1.1
  have e9 : s = full ws.length := set_ext s0 hf.1 fun q hq => by
    rw [Bool.eq_iff_iff]
    exact ⟨fun hb => fullb_in hq (in_full s0 s1 hb), fun hb => (subS_iff hf.1).1 hp q hq hb⟩
  rw [← hc, e9]
end
theorem one_in {ws : List Wy} {k : Nat} (hk : k < ws.length) : (0 : Int) ≤ 2 ^ k ∧ (2 : Int) ^ k ≤ full ws.length := by
  have h9 := Nat.pow_lt_pow_right (a := 2) (by omega) hk
  have h8 := Nat.two_pow_pos k
  have e2 : ((2 : Int) ^ k) = ((2 ^ k : Nat) : Int) := by simp
  have e3 : ((2 : Int) ^ ws.length) = ((2 ^ ws.length : Nat) : Int) := by simp
  exact ⟨by omega, (full_lt ws.length _).2 (by omega)⟩
theorem rtTo_mem (ws : List Wy) (e c : Int) (x : Int) : ∀ N : Nat, x ∈ rtTo ws e c N ↔ ∃ j : Nat, j < N ∧ x = j ∧ rt ws e c j = true
  | 0 => by simp [rtTo]
  | N + 1 => by
    have ih := rtTo_mem ws e c x N
    cases h : rt ws e c N
    · rw [rtTo_no h, ih]
      constructor
      · rintro ⟨j, a, b, d⟩; exact ⟨j, by omega, b, d⟩
      · rintro ⟨j, a, b, d⟩
        by_cases ej : j = N
        · subst ej; rw [h] at d; cases d
        · exact ⟨j, by omega, b, d⟩
    · rw [rtTo_yes h, List.mem_append, ih, List.mem_singleton]
      constructor
      · rintro (⟨j, a, b, d⟩ | hx)
        · exact ⟨j, by omega, b, d⟩
        · exact ⟨N, by omega, hx, h⟩
      · rintro ⟨j, a, b, d⟩
        by_cases ej : j = N
        · subst ej; exact .inr b
        · exact .inl ⟨j, by omega, b, d⟩
section
variable {n : Int} {ws : List Wy} {e : Int} (hno : netOk n ws = true) (he : plOk n e = true) (hr : 0 ≤ rc ws e)
include hno he hr
theorem roots_mem {x : Int} : x ∈ rootsOf n ws e ↔ 0 ≤ x ∧ x ≤ full ws.length ∧ cost ws x = rc ws e ∧ joins ws x e = true ∧ Lean_ ws x e := by
  have hc := rootCost_rc hno he
  unfold rootsOf
  rw [hc, if_neg (by omega), rtTo_mem]
  have e2 : ((2 : Int) ^ ws.length) = ((2 ^ ws.length : Nat) : Int) := by simp
  constructor
  · rintro ⟨j, a, rfl, d⟩
    rw [rt_iff] at d
    exact ⟨by omega, (full_lt ws.length _).2 (by omega), d⟩
  · rintro ⟨a, b, d⟩
    obtain ⟨j, rfl⟩ := Int.eq_ofNat_of_zero_le a
    have := (full_lt ws.length _).1 b
    exact ⟨j, by omega, rfl, (rt_iff _ _ _ _).2 d⟩
/-- each least set that joins has a root in it -/
theorem root_within {s : Int} (s0 : 0 ≤ s) (s1 : s ≤ full ws.length) (hj : joins ws s e = true) (hc : cost ws s = rc ws e) : ∃ r, r ∈ rootsOf n ws e ∧ ∀ q, 0 ≤ q → bit r q = true → bit s q = true := by
  have hn := netOk_t hno
  obtain ⟨e0, e1⟩ := plOk_t he
  have hb := thS_bd (ws := ws) (e := e) s0 ws.length
  have hs : ∀ q, 0 ≤ q → bit (thS ws e s ws.length) q = true → bit s q = true := fun q hq h => by
    have := thS_sub (ws := ws) (e := e) (s := s) 0 ws.length q hq (by rw [Nat.zero_add]; exact h)
    exact this
  have hjt := thS_joins hj ws.length
  have h1 := cost_mono hn hs
  have h2 := rc_le hn hb.1 (by omega) hjt
  exact ⟨_, (roots_mem hno he hr).2 ⟨hb.1, by omega, by omega, hjt, thS_lean hn s0 s1 e0 e1⟩, hs⟩
/-- what one must not do without all roots have -/
theorem must_one {k : Nat} (hk : k < ws.length) : costWithout n ws e (2 ^ k) = rc ws e ↔ ¬ ∀ r, r ∈ rootsOf n ws e → bit r k = true := by
  have hn := netOk_t hno
  obtain ⟨t0, t1⟩ := one_in hk
  rw [cw_is hno he t0 t1]
  constructor
  · intro h hall
    obtain ⟨s, s0, s1, hp, hj, hc⟩ := lc_set hn (P := fun s => subS s (idiff (full ws.length) (2 ^ k))) (e := e) (by omega)
    obtain ⟨r, hrr, hrs⟩ := root_within hno he hr s0 s1 hj (by omega)
    have h1 := hrs k (by omega) (hall r hrr)
    have h2 := (subS_iff s0).1 hp k (by omega) h1
    rw [bit_idiff, bit_pow k k (by omega)] at h2
    simp at h2
  · intro h
    apply Classical.byContradiction
    intro hne
    refine h fun r hrr => ?_
    cases hb : bit r k
    · exfalso
      obtain ⟨r0, r1, rcst, rj, _⟩ := (roots_mem hno he hr).1 hrr
      refine hne (lc_root hn r0 r1 ((subS_iff r0).2 fun q hq hbq => ?_) rj rcst)
      rw [bit_idiff, fullb_in hq (in_full r0 r1 hbq), bit_pow k q hq]
      have : q ≠ (k : Int) := fun hh => by subst hh; rw [hb] at hbq; cases hbq
      simp [this]
    · rfl
theorem must_bit : ∀ (K : Nat), K ≤ ws.length → 0 ≤ mustTo n ws e K ∧ ∀ j : Nat, bit (mustTo n ws e K) j = true ↔ j < K ∧ ∀ r, r ∈ rootsOf n ws e → bit r j = true
  | 0, _ => ⟨by simp [mustTo], fun j => by rw [mustTo, bit_zero_]; simp⟩
  | K + 1, h => by
    obtain ⟨h0, ih⟩ := must_bit K (by omega)
    have h1 := must_one hno he hr (k := K) (by omega)
    rw [mustTo, rootCost_rc hno he]
    by_cases hc : costWithout n ws e (2 ^ K) = rc ws e
    · rw [if_pos hc]
      refine ⟨h0, fun j => ?_⟩
      rw [ih]
      constructor
      · rintro ⟨a, b⟩; exact ⟨by omega, b⟩
      · rintro ⟨a, b⟩
        by_cases ej : j = K
        · subst ej; exact absurd b (h1.1 hc)
        · exact ⟨by omega, b⟩
    · rw [if_neg hc]
      refine ⟨ior_nn _ _, fun j => ?_⟩
      rw [bit_ior, bit_pow K j (by omega), Bool.or_eq_true, ih, decide_eq_true_eq]
      have hall : ∀ r, r ∈ rootsOf n ws e → bit r K = true := Classical.byContradiction fun hh => hc (h1.2 hh)
      constructor
      · rintro (⟨a, b⟩ | hx)
        · exact ⟨by omega, b⟩
        · obtain rfl : j = K := by omega
          exact ⟨by omega, hall⟩
      · rintro ⟨a, b⟩
        by_cases ej : j = K
        · right; omega
        · exact .inl ⟨by omega, b⟩
end
end Go.Proofs.Ytcfendmhhhggeaa
