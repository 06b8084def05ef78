/- What some roots have; a way that is dearer. Plain mathematics. -/
import Derived.Test.YtcfendmhhhggeaaDwM
set_option linter.unusedVariables false
set_option linter.unusedSimpArgs false
namespace Go.Proofs.Ytcfendmhhhggeaa
open Go.RowKit

theorem orF_bit : ∀ (L : List Int) (a q : Int), bit (L.foldl ior a) q = true ↔ bit a q = true ∨ ∃ r, r ∈ L ∧ bit r q = true
  | [], a, q => by simp
  | x :: L, a, q => by
    rw [List.foldl_cons, orF_bit L, bit_ior, Bool.or_eq_true]
    constructor
    · rintro ((h | h) | ⟨r, h1, h2⟩)
      · exact .inl h
      · exact .inr ⟨x, by simp, h⟩
      · exact .inr ⟨r, by simp [h1], h2⟩
    · rintro (h | ⟨r, h1, h2⟩)
      · exact .inl (.inl h)
      · rcases List.mem_cons.1 h1 with h | h
        · subst h; exact .inl (.inr h2)
        · exact .inr ⟨r, h, h2⟩
theorem orF_nn : ∀ (L : List Int) (a : Int), 0 ≤ a → 0 ≤ L.foldl ior a
  | [], a, h => h
  | x :: L, a, _ => by rw [List.foldl_cons]; exact orF_nn L _ (ior_nn a x)
theorem orF_lt (k : Nat) : ∀ (L : List Int) (a : Int), a < 2 ^ k → (∀ r, r ∈ L → r < 2 ^ k) → L.foldl ior a < 2 ^ k
  | [], a, h, _ => h
  | x :: L, a, h, hl => by
    rw [List.foldl_cons]
    exact orF_lt k L _ (ior_lt h (hl x (by simp))) fun r hr => hl r (by simp [hr])
theorem andF_bit : ∀ (L : List Int) (a q : Int), bit (L.foldl iand a) q = true ↔ bit a q = true ∧ ∀ r, r ∈ L → bit r q = true
  | [], a, q => by simp
  | x :: L, a, q => by
    rw [List.foldl_cons, andF_bit L, bit_iand, Bool.and_eq_true]
    constructor
    · rintro ⟨⟨h1, h2⟩, h3⟩
      refine ⟨h1, fun r hr => ?_⟩
      rcases List.mem_cons.1 hr with h | h
      · subst h; exact h2
      · exact h3 r h
    · rintro ⟨h1, h2⟩
      exact ⟨⟨h1, h2 x (by simp)⟩, fun r hr => h2 r (by simp [hr])⟩
theorem andF_nn : ∀ (L : List Int) (a : Int), 0 ≤ a → 0 ≤ L.foldl iand a ∧ L.foldl iand a ≤ a
  | [], a, h => ⟨h, Int.le_refl a⟩
  | x :: L, a, h => by
    rw [List.foldl_cons]
    have h1 := iand_bd a x h
    have h2 := andF_nn L _ h1.1
    omega
theorem foldF_take {f : Int → Int → Int} {a x : Int} {L : List Int} {k : Nat} (hx : L[k]? = some x) : (L.take (k + 1)).foldl f a = f ((L.take k).foldl f a) x := by
  rw [List.take_add_one, hx, List.foldl_append]; rfl
section
variable {n : Int} {ws : List Wy} {e : Int} (hno : netOk n ws = true) (he : plOk n e = true) (hr : 0 ≤ rc ws e)
include hno he hr
theorem best_mem : best ws e ∈ rootsOf n ws e := by
  have hb : 0 ≤ best ws e := by unfold rc at hr; split at hr <;> omega
  exact (roots_mem hno he hr).2 ⟨hb, best_full ws e, by unfold rc; rw [if_neg (by omega)], best_joins hb, best_lean (netOk_t hno) hb⟩
theorem may_bit : 0 ≤ mayWays n ws e ∧ mayWays n ws e ≤ full ws.length ∧ ∀ q, bit (mayWays n ws e) q = true ↔ ∃ r, r ∈ rootsOf n ws e ∧ bit r q = true := by
  unfold mayWays orAll
  rw [rootCost_rc hno he, if_neg (by omega)]
  refine ⟨orF_nn _ _ (Int.le_refl 0), (full_lt ws.length _).2 (orF_lt _ _ _ (Int.pow_pos (by decide)) fun r hrr => (full_lt ws.length _).1 ((roots_mem hno he hr).1 hrr).2.1), fun q => ?_⟩
  rw [orF_bit, bit_zero_]; simp
theorem must_in : mustWays n ws e = mustTo n ws e ws.length ∧ 0 ≤ mustWays n ws e := by
  have h : mustWays n ws e = mustTo n ws e ws.length := by unfold mustWays; rw [rootCost_rc hno he, if_neg (by omega)]
  exact ⟨h, by rw [h]; exact (must_bit hno he hr _ (Nat.le_refl _)).1⟩
/-- what is in each root is in each root of the list -/
theorem must_root {r q : Int} (hrr : r ∈ rootsOf n ws e) (hq : 0 ≤ q) (hb : bit (mustWays n ws e) q = true) : bit r q = true := by
  obtain ⟨j, rfl⟩ := Int.eq_ofNat_of_zero_le hq
  rw [(must_in hno he hr).1] at hb
  exact (((must_bit hno he hr _ (Nat.le_refl _)).2 j).1 hb).2 r hrr
theorem must_and : (rootsOf n ws e).foldl iand (full ws.length) = mustWays n ws e := by
  have hf := full_bd ws.length (netOk_t hno).len
  have hm := must_in hno he hr
  refine set_ext (andF_nn _ _ hf.1).1 hm.2 fun q hq => ?_
  rw [Bool.eq_iff_iff, andF_bit]
  constructor
  · rintro ⟨h1, h2⟩
    obtain ⟨j, rfl⟩ := Int.eq_ofNat_of_zero_le hq
    rw [hm.1]
    have := in_full hf.1 (Int.le_refl _) h1
    exact ((must_bit hno he hr _ (Nat.le_refl _)).2 j).2 ⟨by omega, h2⟩
  · intro h
    have h1 := must_root hno he hr (best_mem hno he hr) hq h
    have hb : 0 ≤ best ws e := by unfold rc at hr; split at hr <;> omega
    exact ⟨fullb_in hq (in_full hb (best_full ws e) h1), fun r hrr => must_root hno he hr hrr hq h⟩
theorem must_may : idiff (mustWays n ws e) (mayWays n ws e) = 0 :=
  (idiff_zero (must_in hno he hr).2).2 fun q hq hb => ((may_bit hno he hr).2.2 q).2 ⟨best ws e, best_mem hno he hr, must_root hno he hr (best_mem hno he hr) hq hb⟩
theorem must_best : idiff (mustWays n ws e) (best ws e) = 0 :=
  (idiff_zero (must_in hno he hr).2).2 fun q hq hb => must_root hno he hr (best_mem hno he hr) hq hb
theorem best_may : idiff (best ws e) (mayWays n ws e) = 0 := by
  have hb : 0 ≤ best ws e := by unfold rc at hr; split at hr <;> omega
  exact (idiff_zero hb).2 fun q hq hbq => ((may_bit hno he hr).2.2 q).2 ⟨best ws e, best_mem hno he hr, hbq⟩
/-- with a way that is in some root it costs no more -/
theorem may_cost {k : Nat} (hk : k < ws.length) (hb : bit (mayWays n ws e) k = true) : costWith n ws e (2 ^ k) = rc ws e := by
  obtain ⟨t0, t1⟩ := one_in hk
  obtain ⟨r, hrr, hbr⟩ := ((may_bit hno he hr).2.2 k).1 hb
  obtain ⟨r0, r1, rcst, rj, _⟩ := (roots_mem hno he hr).1 hrr
  rw [ch_is hno he t0 t1]
  refine lc_root (netOk_t hno) r0 r1 ((subS_iff t0).2 fun q hq hbq => ?_) rj rcst
  rw [bit_pow k q hq, decide_eq_true_eq] at hbq
  rw [hbq]; exact hbr
end
/-! ### nets that are alike -/
theorem isReach_akin {ws ws' : List Wy} {s s' p r : Int} (h : ∀ T : Int → Bool, Closed ws s T ↔ Closed ws' s' T) (hr : IsReach ws s p r) : IsReach ws' s' p r :=
  { lo := hr.lo, hi := hr.hi, has := hr.has, closed := (h _).1 hr.closed, least := fun T hT hc => hr.least T hT ((h T).2 hc) }
theorem reach_akin {ws ws' : List Wy} {s s' : Int} (h : ∀ T : Int → Bool, Closed ws s T ↔ Closed ws' s' T) (p : Int) : reach ws s p = reach ws' s' p := by
  unfold reach
  have : IsReach ws s p = IsReach ws' s' p := by
    funext r
    exact propext ⟨isReach_akin h, isReach_akin fun T => (h T).symm⟩
  rw [this]
theorem joins_akin {ws ws' : List Wy} {s s' : Int} (h : ∀ T : Int → Bool, Closed ws s T ↔ Closed ws' s' T) (e : Int) : joins ws s e = joins ws' s' e := by
  unfold joins
  rw [reach_akin h]
/-! ### a dearer way -/
theorem netOk_mk {n : Int} {ws : List Wy} (h : NetIs n ws) : netOk n ws = true := by
  unfold netOk
  simp only [Bool.and_eq_true, decide_eq_true_eq, List.all_eq_true]
  refine ⟨⟨⟨h.lo, h.hi⟩, h.len⟩, fun x hx => ?_⟩
  have := h.ok x hx
  unfold wayOk hasPl; simp; omega
def dearW (x : Wy) (b : Int) : Wy := ⟨x.a, x.b, x.c + b⟩
section
variable {n : Int} {ws : List Wy} {k : Nat} {x : Wy} {b : Int} (hn : NetIs n ws) (hx : ws[k]? = some x) (b0 : 0 ≤ b) (b9 : x.c + b ≤ 9)
theorem da_len : (ws.set k (dearW x b)).length = ws.length := List.length_set
include hx in
theorem da_at : (ws.set k (dearW x b))[k]? = some (dearW x b) := by
  have hk := (List.getElem?_eq_some_iff.1 hx).1
  rw [List.getElem?_set]; simp [hk]
theorem da_ne {j : Nat} (h : j ≠ k) : (ws.set k (dearW x b))[j]? = ws[j]? := by
  rw [List.getElem?_set]; simp [Ne.symm h]
include hn hx b0 b9 in
theorem da_net : NetIs n (ws.set k (dearW x b)) := by
  refine ⟨hn.lo, hn.hi, by rw [da_len]; exact hn.len, fun y hy => ?_⟩
  rcases List.mem_or_eq_of_mem_set hy with h | h
  · exact hn.ok y h
  · have := hn.ok x (List.mem_of_getElem? hx)
    subst h
    unfold dearW; simp only; omega
include hx in
theorem da_closed (t : Int) (T : Int → Bool) : Closed (ws.set k (dearW x b)) t T ↔ Closed ws t T := by
  constructor
  · intro h j y hy hb
    by_cases e : j = k
    · subst e
      rw [hx] at hy; cases hy
      exact h j (dearW x b) (da_at hx) hb
    · exact h j y (by rw [da_ne e]; exact hy) hb
  · intro h j y hy hb
    by_cases e : j = k
    · subst e
      rw [da_at hx] at hy; cases hy
      exact h j x hx hb
    · exact h j y (by rw [← da_ne e]; exact hy) hb
include hx in
theorem da_joins (t e : Int) : joins (ws.set k (dearW x b)) t e = joins ws t e := joins_akin (da_closed hx t) e
include hx in
theorem da_costs (s : Int) : ∀ j : Nat, j ≤ ws.length → cost ((ws.set k (dearW x b)).take j) s = cost (ws.take j) s + if k < j ∧ bit s k = true then b else 0
  | 0, _ => by simp
  | j + 1, h => by
    have ih := da_costs s j (by omega)
    have hy : ws[j]? = some ws[j] := List.getElem?_eq_getElem (by omega)
    rw [cost_take ws s j _ hy]
    by_cases e : j = k
    · subst e
      rw [hx] at hy; cases hy
      rw [cost_take _ s j _ (da_at hx), ih, if_neg (by omega)]
      cases hb : bit s j
      · simp
      · simp [dearW]; omega
    · rw [cost_take _ s j ws[j] (by rw [da_ne e]; exact hy), ih]
      have e9 : (k < j + 1 ∧ bit s k = true) ↔ (k < j ∧ bit s k = true) := by constructor <;> (rintro ⟨h1, h2⟩; exact ⟨by omega, h2⟩)
      simp only [e9]; omega
include hx in
theorem da_cost (s : Int) : cost (ws.set k (dearW x b)) s = cost ws s + if bit s k = true then b else 0 := by
  have h := da_costs (b := b) hx s ws.length (Nat.le_refl _)
  have hk := (List.getElem?_eq_some_iff.1 hx).1
  rw [List.take_length, List.take_of_length_le (by rw [da_len]; omega)] at h
  rw [h]
  have e9 : (k < ws.length ∧ bit s k = true) ↔ bit s k = true := ⟨fun h => h.2, fun h => ⟨hk, h⟩⟩
  simp only [e9]
include hn hx b0 b9 in
theorem da_rc (e : Int) : (rc ws e < 0 → rc (ws.set k (dearW x b)) e < 0) ∧ (0 ≤ rc ws e → rc ws e ≤ rc (ws.set k (dearW x b)) e ∧ rc (ws.set k (dearW x b)) e ≤ rc ws e + b) := by
  have hd := da_net hn hx b0 b9
  have hl : (ws.set k (dearW x b)).length = ws.length := da_len
  have hback : 0 ≤ rc (ws.set k (dearW x b)) e → 0 ≤ rc ws e ∧ rc ws e ≤ rc (ws.set k (dearW x b)) e := fun h => by
    obtain ⟨s, s0, s1, hj, hc⟩ := rc_set hd h
    rw [da_joins hx] at hj
    rw [da_cost hx] at hc
    have := rc_le hn s0 (by rw [hl] at s1; exact s1) hj
    split at hc <;> omega
  refine ⟨fun h => ?_, fun h => ?_⟩
  · have := hback; omega
  · obtain ⟨s, s0, s1, hj, hc⟩ := rc_set hn h
    have h1 := rc_le hd (s := s) (e := e) s0 (by rw [hl]; exact s1) (by rw [da_joins hx]; exact hj)
    rw [da_cost hx] at h1
    have h2 := hback h1.1
    split at h1 <;> omega
/-- if some root does without the way, it is as cheap as before -/
theorem da_same (hno : netOk n ws = true) {e : Int} (he : plOk n e = true) (hr : 0 ≤ rc ws e) (hx : ws[k]? = some x) (b0 : 0 ≤ b) (b9 : x.c + b ≤ 9) (hm : bit (mustWays n ws e) k = false) : rc (ws.set k (dearW x b)) e = rc ws e := by
  have hn := netOk_t hno
  have hk := (List.getElem?_eq_some_iff.1 hx).1
  have hd := da_net hn hx b0 b9
  have hl : (ws.set k (dearW x b)).length = ws.length := da_len
  have h1 := ((da_rc hn hx b0 b9 e).2 hr).1
  apply Classical.byContradiction
  intro hne
  have hall : ∀ r, r ∈ rootsOf n ws e → bit r k = true := fun r hrr => by
    cases hb : bit r k
    · exfalso
      obtain ⟨r0, r1, rcst, rj, _⟩ := (roots_mem hno he hr).1 hrr
      have h2 := rc_le hd (s := r) (e := e) r0 (by rw [hl]; exact r1) (by rw [da_joins hx]; exact rj)
      rw [da_cost hx, hb] at h2
      simp at h2
      omega
    · rfl
  rw [(must_in hno he hr).1] at hm
  have := ((must_bit hno he hr _ (Nat.le_refl _)).2 k).2 ⟨hk, hall⟩
  rw [hm] at this; cases this
end
end Go.Proofs.Ytcfendmhhhggeaa
