/- A net that lacks some ways, and one with some ways for nothing: what their roots cost. Plain mathematics. -/
import Derived.Test.YtcfendmhhhggeaaDwN
set_option linter.unusedVariables false
set_option linter.unusedSimpArgs false
namespace Go.Proofs.Ytcfendmhhhggeaa
open Go.RowKit

/-! ### a set by its members -/
def pickTo (P : Nat → Bool) : Nat → Int
  | 0 => 0
  | k + 1 => if P k = true then ior (pickTo P k) (2 ^ k) else pickTo P k
theorem pickTo_bd (P : Nat → Bool) : ∀ k : Nat, 0 ≤ pickTo P k ∧ pickTo P k < 2 ^ k
  | 0 => by unfold pickTo; simp
  | k + 1 => by
    have ih := pickTo_bd P k
    have e1 : ((2 : Int) ^ (k + 1)) = 2 ^ k * 2 := Int.pow_succ 2 k
    rw [pickTo]; split
    · exact ior_bd _ _ _ (by omega) (by omega)
    · omega
theorem pickTo_bit (P : Nat → Bool) (j : Nat) : ∀ k : Nat, bit (pickTo P k) j = (decide (j < k) && P j)
  | 0 => by rw [pickTo, bit_zero_]; simp
  | k + 1 => by
    have ih := pickTo_bit P j k
    by_cases e : j = k
    · subst e
      rw [pickTo]
      have hz : bit (pickTo P j) j = false := by rw [ih]; simp
      by_cases h : P j = true
      · rw [if_pos h, bit_ior, bit_pow j j (by omega)]; simp [h]
      · rw [if_neg h, hz]; simp [h]
    · have hd : decide (j < k + 1) = decide (j < k) := by rw [decide_eq_decide]; omega
      rw [hd, ← ih, pickTo]
      split
      · rw [bit_ior, bit_pow k j (by omega)]
        have : decide ((j : Int) = k) = false := by simp; omega
        rw [this, Bool.or_false]
      · rfl

/-! ### lists that grow by one way -/
theorem take_snoc {ws : List Wy} {k : Nat} {x : Wy} (hx : ws[k]? = some x) : ws.take (k + 1) = ws.take k ++ [x] := by
  rw [List.take_add_one, hx]; rfl
theorem cost_snoc (L : List Wy) (x : Wy) (s : Int) : cost (L ++ [x]) s = cost L s + if bit s L.length then x.c else 0 := by
  unfold cost
  rw [costFrom_snoc, Int.zero_add]
theorem closed_snoc (L : List Wy) (x : Wy) (s : Int) (T : Int → Bool) : Closed (L ++ [x]) s T ↔ Closed L s T ∧ (bit s L.length = true → T x.a = T x.b) := by
  constructor
  · intro h
    refine ⟨fun k y hy hb => h k y ?_ hb, fun hb => h L.length x ?_ hb⟩
    · have hk := (List.getElem?_eq_some_iff.1 hy).1
      rw [List.getElem?_append_left hk]; exact hy
    · rw [List.getElem?_append_right (Nat.le_refl _), Nat.sub_self]; rfl
  · rintro ⟨h1, h2⟩ k y hy hb
    by_cases hk : k < L.length
    · rw [List.getElem?_append_left hk] at hy
      exact h1 k y hy hb
    · rw [List.getElem?_append_right (by omega)] at hy
      have e : k - L.length = 0 := by
        have := (List.getElem?_eq_some_iff.1 hy).1
        simp at this; omega
      rw [e] at hy
      obtain rfl : x = y := by simpa using hy
      obtain rfl : k = L.length := by omega
      exact h2 hb
theorem closed_nil (s : Int) (T : Int → Bool) : Closed [] s T := fun k y hy _ => by simp at hy

/-! ### the ways that are left -/
def woTo (ws : List Wy) (t : Int) : Nat → List Wy
  | 0 => []
  | k + 1 => if bit t k = true then woTo ws t k else woTo ws t k ++ (ws[k]?).toList
def wo (ws : List Wy) (t : Int) : List Wy := woTo ws t ws.length
section
variable {ws : List Wy} {t : Int}
theorem wo_in {k : Nat} (h : bit t k = true) : woTo ws t (k + 1) = woTo ws t k := by rw [woTo, if_pos h]
theorem wo_out {k : Nat} {x : Wy} (hx : ws[k]? = some x) (h : bit t k = false) : woTo ws t (k + 1) = woTo ws t k ++ [x] := by
  rw [woTo, if_neg (by rw [h]; simp), hx]; rfl
theorem wo_len : ∀ k, (woTo ws t k).length ≤ k
  | 0 => by simp [woTo]
  | k + 1 => by
    have ih := wo_len k
    rw [woTo]; split
    · omega
    · rw [List.length_append]
      have : (ws[k]?).toList.length ≤ 1 := by cases ws[k]? <;> simp
      omega
theorem wo_mem {x : Wy} : ∀ k, x ∈ woTo ws t k → x ∈ ws
  | 0, h => by simp [woTo] at h
  | k + 1, h => by
    rw [woTo] at h
    split at h
    · exact wo_mem k h
    · rcases List.mem_append.1 h with h | h
      · exact wo_mem k h
      · cases hx : ws[k]? with
        | none => rw [hx] at h; simp at h
        | some y =>
          rw [hx] at h
          obtain rfl : x = y := by simpa using h
          exact List.mem_of_getElem? hx
theorem wo_step (k : Nat) : (woTo ws t k).length ≤ (woTo ws t (k + 1)).length := by
  rw [woTo]; split
  · exact Nat.le_refl _
  · rw [List.length_append]; omega
theorem wo_mono {j : Nat} : ∀ d, (woTo ws t j).length ≤ (woTo ws t (j + d)).length
  | 0 => Nat.le_refl _
  | d + 1 => Nat.le_trans (wo_mono d) (wo_step (j + d))
theorem wo_lt {j k : Nat} (hj : j < ws.length) (hb : bit t j = false) (hk : j < k) : (woTo ws t j).length < (woTo ws t k).length := by
  have h1 := wo_out (List.getElem?_eq_getElem hj) hb
  have h2 := wo_mono (ws := ws) (t := t) (j := j + 1) (k - (j + 1))
  have e : j + 1 + (k - (j + 1)) = k := by omega
  rw [e, h1, List.length_append, List.length_singleton] at h2
  omega
theorem wo_net {n : Int} (hn : NetIs n ws) : NetIs n (wo ws t) :=
  ⟨hn.lo, hn.hi, Nat.le_trans (wo_len _) hn.len, fun x hx => hn.ok x (wo_mem _ hx)⟩
/-- the same ways, told by their numbers among all and among those that are left -/
def Akin (ws : List Wy) (t s s' : Int) : Prop := ∀ j : Nat, j < ws.length → (bit t j = true → bit s j = false) ∧ (bit t j = false → bit s j = bit s' (woTo ws t j).length)
theorem akin_cost {s s' : Int} (h : Akin ws t s s') : ∀ k, k ≤ ws.length → cost (woTo ws t k) s' = cost (ws.take k) s
  | 0, _ => by rw [woTo, List.take_zero]; rfl
  | k + 1, hk => by
    have ih := akin_cost h k (by omega)
    have hx : ws[k]? = some ws[k] := List.getElem?_eq_getElem (by omega)
    rw [cost_take ws s k _ hx]
    obtain ⟨h1, h2⟩ := h k (by omega)
    cases hb : bit t k
    · rw [wo_out hx hb, cost_snoc, ih, ← h2 hb]
    · rw [wo_in hb, ih, h1 hb]; simp
theorem akin_closed {s s' : Int} (h : Akin ws t s s') (T : Int → Bool) : ∀ k, k ≤ ws.length → (Closed (woTo ws t k) s' T ↔ Closed (ws.take k) s T)
  | 0, _ => by rw [woTo, List.take_zero]; exact ⟨fun _ => closed_nil _ _, fun _ => closed_nil _ _⟩
  | k + 1, hk => by
    have ih := akin_closed h T k (by omega)
    have hx : ws[k]? = some ws[k] := List.getElem?_eq_getElem (by omega)
    have hl : (ws.take k).length = k := by rw [List.length_take]; omega
    rw [take_snoc hx, closed_snoc, hl]
    obtain ⟨h1, h2⟩ := h k (by omega)
    cases hb : bit t k
    · rw [wo_out hx hb, closed_snoc, ih, ← h2 hb]
    · rw [wo_in hb, ih, h1 hb]; simp
theorem akin_is {s s' : Int} (h : Akin ws t s s') (e : Int) : cost (wo ws t) s' = cost ws s ∧ joins (wo ws t) s' e = joins ws s e := by
  have h1 := akin_cost h ws.length (Nat.le_refl _)
  have h2 := fun T => akin_closed h T ws.length (Nat.le_refl _)
  rw [List.take_length] at h1
  simp only [List.take_length] at h2
  exact ⟨h1, joins_akin h2 e⟩
theorem akin_from (s' : Int) : Akin ws t (pickTo (fun j => !bit t j && bit s' (woTo ws t j).length) ws.length) s' := fun j hj => by
  rw [pickTo_bit, decide_eq_true hj]
  exact ⟨fun h => by rw [h]; simp, fun h => by rw [h]; simp⟩
theorem akin_to {s : Int} (h : ∀ j : Nat, bit t j = true → bit s j = false) : ∃ s', 0 ≤ s' ∧ s' ≤ full (wo ws t).length ∧ Akin ws t s s' := by
  classical
  obtain ⟨P, hP⟩ : ∃ P : Nat → Bool, ∀ i, P i = true ↔ ∃ j : Nat, j < ws.length ∧ bit t j = false ∧ (woTo ws t j).length = i ∧ bit s j = true :=
    ⟨fun i => decide (∃ j : Nat, j < ws.length ∧ bit t j = false ∧ (woTo ws t j).length = i ∧ bit s j = true), fun i => by rw [decide_eq_true_eq]⟩
  have hb := pickTo_bd P (wo ws t).length
  refine ⟨pickTo P (wo ws t).length, hb.1, (full_lt _ _).2 hb.2, fun j hj => ⟨h j, fun ht => ?_⟩⟩
  have hlt : (woTo ws t j).length < (wo ws t).length := wo_lt hj ht hj
  rw [pickTo_bit, decide_eq_true hlt, Bool.true_and, Bool.eq_iff_iff, hP]
  constructor
  · intro hs; exact ⟨j, hj, ht, rfl, hs⟩
  · rintro ⟨i, hi, hti, e, hs⟩
    by_cases h1 : i < j
    · have := wo_lt hi hti h1; omega
    · by_cases h2 : j < i
      · have := wo_lt hj ht h2; omega
      · obtain rfl : i = j := by omega
        exact hs
theorem wo_rc {n : Int} (hn : NetIs n ws) (t0 : 0 ≤ t) (e : Int) : rc (wo ws t) e = lc ws (fun s => subS s (idiff (full ws.length) t)) e := by
  have hw : NetIs n (wo ws t) := wo_net hn
  have h1 := rc_ge hw e
  have h2 := lc_bd hn (fun s => subS s (idiff (full ws.length) t)) e
  have hA : 0 ≤ rc (wo ws t) e → 0 ≤ lc ws (fun s => subS s (idiff (full ws.length) t)) e ∧ lc ws (fun s => subS s (idiff (full ws.length) t)) e ≤ rc (wo ws t) e := fun h => by
    obtain ⟨s', s0, s1, hj, hc⟩ := rc_set hw h
    have ha := akin_from (ws := ws) (t := t) s'
    have hb := pickTo_bd (fun j => !bit t j && bit s' (woTo ws t j).length) ws.length
    obtain ⟨h3, h4⟩ := akin_is ha e
    rw [← hc, h3]
    refine lc_le hn hb.1 ((full_lt _ _).2 hb.2) ((subS_iff hb.1).2 fun q hq hbq => ?_) (by rw [← h4]; exact hj)
    have hq1 := in_full hb.1 ((full_lt _ _).2 hb.2) hbq
    obtain ⟨j, rfl⟩ := Int.eq_ofNat_of_zero_le hq
    rw [bit_idiff, fullb_in hq hq1]
    have := (ha j (by omega)).1
    cases htj : bit t j
    · rfl
    · rw [this htj] at hbq; cases hbq
  have hB : 0 ≤ lc ws (fun s => subS s (idiff (full ws.length) t)) e → 0 ≤ rc (wo ws t) e ∧ rc (wo ws t) e ≤ lc ws (fun s => subS s (idiff (full ws.length) t)) e := fun h => by
    obtain ⟨s, s0, s1, hp, hj, hc⟩ := lc_set hn h
    obtain ⟨s', s0', s1', ha⟩ := akin_to (ws := ws) (t := t) (s := s) fun j htj => by
      cases hb : bit s j
      · rfl
      · have := (subS_iff s0).1 hp j (by omega) hb
        rw [bit_idiff, htj] at this; simp at this
    obtain ⟨h3, h4⟩ := akin_is ha e
    rw [← hc, ← h3]
    exact rc_le hw s0' s1' (by rw [h4]; exact hj)
  omega
end

/-! ### ways for nothing -/
def freeW (x : Wy) : Wy := ⟨x.a, x.b, 0⟩
def frTo (ws : List Wy) (t : Int) : Nat → List Wy
  | 0 => ws
  | k + 1 => if bit t k = true then (match ws[k]? with | some x => (frTo ws t k).set k (freeW x) | none => frTo ws t k) else frTo ws t k
def fr (ws : List Wy) (t : Int) : List Wy := frTo ws t ws.length
section
variable {ws : List Wy} {t : Int}
theorem fr_in {k : Nat} {x : Wy} (hx : ws[k]? = some x) (h : bit t k = true) : frTo ws t (k + 1) = (frTo ws t k).set k (freeW x) := by
  rw [frTo, if_pos h, hx]
theorem fr_out {k : Nat} (h : bit t k = false) : frTo ws t (k + 1) = frTo ws t k := by
  rw [frTo, if_neg (by rw [h]; simp)]
theorem fr_len : ∀ k, (frTo ws t k).length = ws.length
  | 0 => rfl
  | k + 1 => by
    have ih := fr_len k
    rw [frTo]; split
    · split
      · rw [List.length_set]; exact ih
      · exact ih
    · exact ih
theorem fr_at (j : Nat) : ∀ k, (frTo ws t k)[j]? = (ws[j]?).map fun x => if (decide (j < k) && bit t j) = true then freeW x else x
  | 0 => by simp [frTo]
  | k + 1 => by
    have ih := fr_at j k
    have hl := fr_len (ws := ws) (t := t) k
    cases hx : ws[k]? with
    | none =>
      have hk : ¬ k < ws.length := fun h => by rw [List.getElem?_eq_getElem h] at hx; cases hx
      have e : frTo ws t (k + 1) = frTo ws t k := by rw [frTo, hx]; split <;> rfl
      rw [e, ih]
      cases hj : ws[j]? with
      | none => rfl
      | some y =>
        have := (List.getElem?_eq_some_iff.1 hj).1
        have e9 : decide (j < k + 1) = decide (j < k) := by rw [decide_eq_decide]; omega
        rw [e9]
    | some x =>
      have hk := (List.getElem?_eq_some_iff.1 hx).1
      by_cases e : j = k
      · subst e
        cases hb : bit t j
        · rw [fr_out hb, ih, hb]; simp
        · rw [fr_in hx hb, List.getElem?_set, hx]; simp [hl, hk]
      · have e9 : decide (j < k + 1) = decide (j < k) := by rw [decide_eq_decide]; omega
        rw [e9, ← ih]
        cases hb : bit t k
        · rw [fr_out hb]
        · rw [fr_in hx hb, List.getElem?_set, if_neg (Ne.symm e)]
theorem fr_is {j : Nat} {x : Wy} (hx : ws[j]? = some x) : (fr ws t)[j]? = some (if bit t j = true then freeW x else x) := by
  unfold fr
  rw [fr_at, hx, decide_eq_true (List.getElem?_eq_some_iff.1 hx).1, Bool.true_and]; rfl
theorem fr_net {n : Int} (hn : NetIs n ws) (k : Nat) : NetIs n (frTo ws t k) := by
  refine ⟨hn.lo, hn.hi, by rw [fr_len]; exact hn.len, fun y hy => ?_⟩
  obtain ⟨j, hj⟩ := List.mem_iff_getElem?.1 hy
  rw [fr_at] at hj
  cases hx : ws[j]? with
  | none => rw [hx] at hj; cases hj
  | some x =>
    rw [hx] at hj
    have h1 := hn.ok x (List.mem_of_getElem? hx)
    have h2 : (if (decide (j < k) && bit t j) = true then freeW x else x) = y := by simpa using hj
    subst h2
    split
    · unfold freeW; simp only; omega
    · exact h1
theorem fr_closed (s : Int) (T : Int → Bool) : Closed (fr ws t) s T ↔ Closed ws s T := by
  constructor
  · intro h j x hx hb
    have := h j _ (fr_is (t := t) hx) hb
    split at this
    · exact this
    · exact this
  · intro h j y hy hb
    have hj := (List.getElem?_eq_some_iff.1 hy).1
    unfold fr at hj; rw [fr_len] at hj
    have hx : ws[j]? = some ws[j] := List.getElem?_eq_getElem hj
    rw [fr_is hx] at hy
    have h2 := h j _ hx hb
    injection hy with hy
    subst hy
    split
    · exact h2
    · exact h2
theorem fr_joins (s e : Int) : joins (fr ws t) s e = joins ws s e := joins_akin (fr_closed s) e
theorem fr_costs (s : Int) : ∀ k, k ≤ ws.length → cost (ws.take k) (ior s t) = cost (ws.take k) t + cost ((fr ws t).take k) s
  | 0, _ => by simp; rfl
  | k + 1, h => by
    have ih := fr_costs s k (by omega)
    have hx : ws[k]? = some ws[k] := List.getElem?_eq_getElem (by omega)
    rw [cost_take ws _ k _ hx, cost_take ws t k _ hx, cost_take (fr ws t) s k _ (fr_is hx), ih, bit_ior]
    cases hb : bit t k
    · cases hs : bit s k
      · simp
      · simp; omega
    · cases hs : bit s k
      · simp; omega
      · simp [freeW]; omega
theorem fr_cost (s : Int) : cost ws (ior s t) = cost ws t + cost (fr ws t) s := by
  have h := fr_costs (ws := ws) (t := t) s ws.length (Nat.le_refl _)
  rw [List.take_length, List.take_of_length_le (by unfold fr; rw [fr_len]; omega)] at h
  exact h
theorem fr_rc {n : Int} (hn : NetIs n ws) (t0 : 0 ≤ t) (t1 : t ≤ full ws.length) {e : Int} (e0 : 0 ≤ e) (e1 : e < 2 ^ n.toNat) : lc ws (fun s => subS t s) e = if rc (fr ws t) e < 0 then -1 else cost ws t + rc (fr ws t) e := by
  have hw : NetIs n (fr ws t) := fr_net hn _
  have hl : (fr ws t).length = ws.length := fr_len _
  have h1 := rc_ge hw e
  have h2 := lc_bd hn (fun s => subS t s) e
  have h9 := (cost_bds hn t).1
  have hA : 0 ≤ rc (fr ws t) e → 0 ≤ lc ws (fun s => subS t s) e ∧ lc ws (fun s => subS t s) e ≤ cost ws t + rc (fr ws t) e := fun h => by
    obtain ⟨s, s0, s1, hj, hc⟩ := rc_set hw h
    rw [hl] at s1
    rw [fr_joins] at hj
    rw [← hc, ← fr_cost]
    have hb := ior_full s0 s1 t0 t1
    refine lc_le hn hb.1 hb.2 ((subS_iff t0).2 fun q hq hbq => by rw [bit_ior, hbq]; simp) (joins_mono hn e0 e1 (fun q hq hbq => by rw [bit_ior, hbq]; simp) hj)
  have hB : 0 ≤ lc ws (fun s => subS t s) e → 0 ≤ rc (fr ws t) e ∧ cost ws t + rc (fr ws t) e ≤ lc ws (fun s => subS t s) e := fun h => by
    obtain ⟨s, s0, s1, hp, hj, hc⟩ := lc_set hn h
    have e9 : ior s t = s := set_ext (ior_nn _ _) s0 fun q hq => by
      rw [bit_ior]
      cases hb : bit t q
      · simp
      · rw [(subS_iff t0).1 hp q hq hb]; rfl
    have h3 := fr_cost (ws := ws) (t := t) s
    rw [e9] at h3
    have h4 := rc_le hw (s := s) (e := e) s0 (by rw [hl]; exact s1) (by rw [fr_joins]; exact hj)
    omega
  split
  · by_cases h : 0 ≤ lc ws (fun s => subS t s) e
    · have := hB h; omega
    · omega
  · omega
end

/-! ### as the program asks for them -/
section
variable {n : Int} {ws : List Wy} {e t : Int} (hno : netOk n ws = true) (t0 : 0 ≤ t) (t1 : t ≤ full ws.length)
include hno t0 t1
theorem cw_wo : rootCost n (wo ws t) e = costWithout n ws e t := by
  have hn := netOk_t hno
  cases he : plOk n e
  · rw [rootCost_not (by rw [he]; simp)]
    unfold costWithout
    rw [if_neg (by rw [he]; simp)]
  · rw [rootCost_rc (netOk_mk (wo_net hn)) he, cw_is hno he t0 t1, wo_rc hn t0]
theorem ch_fr : costWith n ws e t = if rootCost n (fr ws t) e < 0 then -1 else cost ws t + rootCost n (fr ws t) e := by
  have hn := netOk_t hno
  cases he : plOk n e
  · rw [rootCost_not (by rw [he]; simp)]
    unfold costWith
    rw [if_neg (by rw [he]; simp)]
    rfl
  · obtain ⟨e0, e1⟩ := plOk_t he
    rw [rootCost_rc (ws := fr ws t) (netOk_mk (fr_net hn _)) he, ch_is hno he t0 t1, fr_rc hn t0 t1 e0 e1]
end
end Go.Proofs.Ytcfendmhhhggeaa
