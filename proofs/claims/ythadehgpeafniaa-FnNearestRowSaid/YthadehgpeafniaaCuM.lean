/- Cuts: what they take, that they part ends, that they bound roots from below. Plain mathematics. -/
import Derived.Test.YthadehgpeafniaaMK
set_option linter.unusedVariables false
set_option linter.unusedSimpArgs false
namespace Go.Proofs.Ythadehgpeafniaa
open Go.RowKit

/-- way k has just one place in P -/
def cutB (ws : List Wy) (P : Int) (k : Nat) : Bool := match ws[k]? with
  | some x => bit P x.a != bit P x.b
  | none => false
theorem cutB_at {ws : List Wy} {P : Int} {k : Nat} {x : Wy} (hx : ws[k]? = some x) : cutB ws P k = (bit P x.a != bit P x.b) := by unfold cutB; rw [hx]
/-- the ways that a cut takes, of the first k -/
def cwTo (ws : List Wy) (P : Int) : Nat → Int
  | 0 => 0
  | k + 1 => if cutB ws P k = true then ior (cwTo ws P k) (2 ^ k) else cwTo ws P k
theorem cwTo_bd (ws : List Wy) (P : Int) : ∀ k : Nat, 0 ≤ cwTo ws P k ∧ cwTo ws P k < 2 ^ k
  | 0 => by unfold cwTo; simp
  | k + 1 => by
    have ih := cwTo_bd ws P k
    have e1 : ((2 : Int) ^ (k + 1)) = 2 ^ k * 2 := Int.pow_succ 2 k
    rw [cwTo]; split
    · exact ior_bd _ _ _ (by omega) (by omega)
    · omega
theorem cwTo_bit (ws : List Wy) (P : Int) (j : Nat) : ∀ k : Nat, bit (cwTo ws P k) j = (decide (j < k) && cutB ws P j)
  | 0 => by rw [cwTo, bit_zero_]; simp
  | k + 1 => by
    have ih := cwTo_bit ws P j k
    by_cases e : j = k
    · subst e
      rw [cwTo]
      have hz : bit (cwTo ws P j) j = false := by rw [ih]; simp
      by_cases h : cutB ws P j = true
      · rw [if_pos h, bit_ior, bit_pow j j (by omega)]; simp [h]
      · rw [if_neg h, hz]; simp [h]
    · have hd : decide (j < k + 1) = decide (j < k) := by rw [decide_eq_decide]; omega
      rw [hd, ← ih, cwTo]
      split
      · rw [bit_ior, bit_pow k j (by omega)]
        have : decide ((j : Int) = k) = false := by simp; omega
        rw [this, Bool.or_false]
      · rfl
def cw (ws : List Wy) (P : Int) : Int := cwTo ws P ws.length
theorem cw_bd (ws : List Wy) (P : Int) : 0 ≤ cw ws P ∧ cw ws P ≤ full ws.length := by
  have := cwTo_bd ws P ws.length
  unfold cw full; omega
theorem cw_bit {ws : List Wy} {P : Int} {k : Nat} {x : Wy} (hx : ws[k]? = some x) : bit (cw ws P) k = (bit P x.a != bit P x.b) := by
  have := (List.getElem?_eq_some_iff.1 hx).1
  unfold cw; rw [cwTo_bit, cutB_at hx]; simp [this]
/-- all but a set -/
theorem rest_all : ∀ (l : Fin 10) (s : Fin 512), s.val < 2 ^ l.val → ∀ j : Fin 10, (2 ^ l.val - 1 - s.val).testBit j.val = (decide (j.val < l.val) && !s.val.testBit j.val) := by decide +kernel
theorem rest_bit {l : Nat} {s : Int} (hl : l ≤ 9) (s0 : 0 ≤ s) (s1 : s < 2 ^ l) (j : Nat) (hj : j < 10) : bit (2 ^ l - 1 - s) j = (decide (j < l) && !bit s j) := by
  have hp := pow_bd (l : Int) 9 (by omega)
  rw [Int.toNat_natCast] at hp
  have e2 : ((2 : Int) ^ l) = ((2 ^ l : Nat) : Int) := by simp
  have h := rest_all ⟨l, by omega⟩ ⟨s.toNat, by omega⟩ (by simp only; omega) ⟨j, hj⟩
  simp only at h
  have e3 : (2 ^ l - 1 - s).toNat = 2 ^ l - 1 - s.toNat := by omega
  unfold bit
  rw [e3, Int.toNat_natCast]
  exact h
/-- without its ways nothing leaves a cut -/
theorem cut_closed {n : Int} {ws : List Wy} (hn : NetIs n ws) {P p q : Int} (hp : 0 ≤ p) (hp' : p < n) (hpP : bit P p = true) (hq : 0 ≤ q) (h : bit (reach ws (full ws.length - cw ws P) p) q = true) : bit P q = true := by
  have hb := cw_bd ws P
  have R := reach_is (s := full ws.length - cw ws P) hn hp hp'
  refine R.least (bit P) hpP (fun k x hx hbk => ?_) q hq h
  have hk := (List.getElem?_eq_some_iff.1 hx).1
  have hl := hn.len
  have hr := rest_bit (l := ws.length) (s := cw ws P) hl hb.1 (by unfold full at hb; omega) k (by omega)
  have e : full ws.length - cw ws P = 2 ^ ws.length - 1 - cw ws P := by unfold full; rfl
  rw [e, hr, cw_bit hx] at hbk
  cases h1 : bit P x.a <;> cases h2 : bit P x.b <;> rw [h1, h2] at hbk <;> simp at hbk ⊢
/-- the other places are cut off by the same ways -/
theorem cw_other {m : Nat} {ws : List Wy} (hn : NetIs (m : Int) ws) {P : Int} (p0 : 0 ≤ P) (p1 : P < 2 ^ m) : cw ws (2 ^ m - 1 - P) = cw ws P := by
  have hm6 : m ≤ 6 := by have := hn.hi; omega
  refine set_ext (cw_bd _ _).1 (cw_bd _ _).1 fun q hq => ?_
  obtain ⟨k, rfl⟩ := Int.eq_ofNat_of_zero_le hq
  cases hx : ws[k]? with
  | none =>
    unfold cw
    rw [cwTo_bit, cwTo_bit]
    unfold cutB
    rw [hx]
  | some x =>
    obtain ⟨a0, a1, b0, b1, -⟩ := hn.at_ hx
    rw [cw_bit hx, cw_bit hx]
    have ha := rest_bit (l := m) (by omega) p0 p1 x.a.toNat (by omega)
    have hb := rest_bit (l := m) (by omega) p0 p1 x.b.toNat (by omega)
    rw [Int.toNat_of_nonneg a0] at ha
    rw [Int.toNat_of_nonneg b0] at hb
    rw [ha, hb]
    have d1 : decide (x.a.toNat < m) = true := by simp; omega
    have d2 : decide (x.b.toNat < m) = true := by simp; omega
    rw [d1, d2]
    cases bit P x.a <;> cases bit P x.b <;> rfl

/-! ### cuts that part ends -/
def parts (e P : Int) : Bool := decide (iand e P ≠ 0) && decide (idiff e P ≠ 0)
theorem set_has {m : Nat} {s : Int} (s0 : 0 ≤ s) (s1 : s < 2 ^ m) (h : s ≠ 0) : ∃ p : Nat, p < m ∧ bit s p = true := by
  apply Classical.byContradiction
  intro hno
  refine h (set_none s0 s1 fun j j0 j1 => ?_)
  obtain ⟨k, rfl⟩ := Int.eq_ofNat_of_zero_le j0
  cases hb : bit s (k : Int)
  · rfl
  · exact absurd ⟨k, by omega, hb⟩ hno
theorem parts_iff {m : Nat} {e P : Int} (e0 : 0 ≤ e) (e1 : e < 2 ^ m) : parts e P = true ↔ (∃ p : Nat, p < m ∧ bit e p = true ∧ bit P p = true) ∧ ∃ q : Nat, q < m ∧ bit e q = true ∧ bit P q = false := by
  unfold parts
  rw [Bool.and_eq_true, decide_eq_true_eq, decide_eq_true_eq]
  have hi := iand_bd e P e0
  have hd := idiff_bd e P e0
  constructor
  · rintro ⟨h1, h2⟩
    obtain ⟨p, hp, hbp⟩ := set_has (m := m) hi.1 (by omega) h1
    obtain ⟨q, hq, hbq⟩ := set_has (m := m) hd.1 (by omega) h2
    rw [bit_iand, Bool.and_eq_true] at hbp
    rw [bit_idiff, Bool.and_eq_true] at hbq
    exact ⟨⟨p, hp, hbp.1, hbp.2⟩, q, hq, hbq.1, by simpa using hbq.2⟩
  · rintro ⟨⟨p, hp, h1, h2⟩, q, hq, h3, h4⟩
    refine ⟨fun h => ?_, fun h => ?_⟩
    · have : bit (iand e P) p = true := by rw [bit_iand, h1, h2]; rfl
      rw [h, bit_zero_] at this; cases this
    · have : bit (idiff e P) q = true := by rw [bit_idiff, h3, h4]; rfl
      rw [h, bit_zero_] at this; cases this
theorem parts_other {m : Nat} {e P : Int} (hm6 : m ≤ 6) (e0 : 0 ≤ e) (e1 : e < 2 ^ m) (p0 : 0 ≤ P) (p1 : P < 2 ^ m) : parts e (2 ^ m - 1 - P) = parts e P := by
  have hr := fun (j : Nat) (hj : j < m) => rest_bit (l := m) (s := P) (by omega) p0 p1 j (by omega)
  rw [Bool.eq_iff_iff, parts_iff e0 e1, parts_iff e0 e1]
  constructor
  · rintro ⟨⟨p, hp, h1, h2⟩, q, hq, h3, h4⟩
    rw [hr p hp] at h2
    rw [hr q hq] at h4
    have dp : decide (p < m) = true := by simpa using hp
    have dq : decide (q < m) = true := by simpa using hq
    rw [dp] at h2
    rw [dq] at h4
    exact ⟨⟨q, hq, h3, by simpa using h4⟩, p, hp, h1, by simpa using h2⟩
  · rintro ⟨⟨p, hp, h1, h2⟩, q, hq, h3, h4⟩
    have dp : decide (p < m) = true := by simpa using hp
    have dq : decide (q < m) = true := by simpa using hq
    refine ⟨⟨q, hq, h3, ?_⟩, p, hp, h1, ?_⟩
    · rw [hr q hq, dq, h4]; rfl
    · rw [hr p hp, dp, h2]; rfl
/-- what joins the ends has a way of each cut that parts them -/
theorem cut_meets {m : Nat} {ws : List Wy} (hn : NetIs (m : Int) ws) {e P s : Int} (e0 : 0 ≤ e) (e1 : e < 2 ^ m) (hj : joins ws s e = true) (hp : parts e P = true) : ∃ (k : Nat) (x : Wy), ws[k]? = some x ∧ bit s k = true ∧ (bit P x.a != bit P x.b) = true := by
  obtain ⟨⟨p, hpm, h1, h2⟩, q, hq, h3, h4⟩ := (parts_iff e0 e1).1 hp
  have hJ := (joins_iff hn e0 (by rw [Int.toNat_natCast]; exact e1)).1 hj p q (by omega) (by omega) h1 h3
  apply Classical.byContradiction
  intro hno
  have R := reach_is (s := s) hn (p := (p : Int)) (by omega) (by omega)
  have := R.least (bit P) h2 (fun k x hx hb => by
    apply Classical.byContradiction
    intro hd
    exact hno ⟨k, x, hx, hb, by simpa using hd⟩) q (by omega) hJ
  rw [h4] at this; cases this

/-! ### cuts with weights -/
def wload (ws : List Wy) (k : Nat) : List (Int × Int) → Int
  | [] => 0
  | c :: cs => (if cutB ws c.1 k = true then c.2 else 0) + wload ws k cs
def wsum : List (Int × Int) → Int
  | [] => 0
  | c :: cs => c.2 + wsum cs
theorem wload_append (ws : List Wy) (k : Nat) : ∀ a b : List (Int × Int), wload ws k (a ++ b) = wload ws k a + wload ws k b
  | [], b => by simp [wload]
  | c :: a, b => by rw [List.cons_append, wload, wload, wload_append ws k a b]; omega
theorem wsum_append : ∀ a b : List (Int × Int), wsum (a ++ b) = wsum a + wsum b
  | [], b => by simp [wsum]
  | c :: a, b => by rw [List.cons_append, wsum, wsum, wsum_append a b]; omega
/-- the loads of the ways of s among the first k -/
def sload (ws : List Wy) (s : Int) (cs : List (Int × Int)) : Nat → Int
  | 0 => 0
  | k + 1 => sload ws s cs k + if bit s k = true then wload ws k cs else 0
theorem sload_cost {ws : List Wy} {s : Int} {cs : List (Int × Int)} (h : ∀ (k : Nat) (x : Wy), ws[k]? = some x → wload ws k cs ≤ x.c) : ∀ k, k ≤ ws.length → sload ws s cs k ≤ cost (ws.take k) s
  | 0, _ => by simp [sload, cost, costFrom]
  | k + 1, hk => by
    obtain ⟨x, hx⟩ : ∃ x, ws[k]? = some x := ⟨_, List.getElem?_eq_getElem (by omega)⟩
    have ih := sload_cost (s := s) h k (by omega)
    have := h k x hx
    rw [sload, cost_take ws s k x hx]
    split <;> omega
theorem sload_cons (ws : List Wy) (s : Int) (c : Int × Int) (cs : List (Int × Int)) : ∀ k, sload ws s (c :: cs) k = sload ws s [c] k + sload ws s cs k
  | 0 => by simp [sload]
  | k + 1 => by
    have ih := sload_cons ws s c cs k
    rw [sload, sload, sload, ih]
    split
    · simp only [wload]; omega
    · omega
theorem sload_one {ws : List Wy} {s : Int} {c : Int × Int} (hc : 0 ≤ c.2) : ∀ k, 0 ≤ sload ws s [c] k ∧ ((∃ j, j < k ∧ bit s (j : Nat) = true ∧ cutB ws c.1 j = true) → c.2 ≤ sload ws s [c] k)
  | 0 => ⟨Int.le_refl _, fun ⟨j, h, _⟩ => by omega⟩
  | k + 1 => by
    obtain ⟨h1, h2⟩ := sload_one (ws := ws) (s := s) hc k
    rw [sload]
    have hw : 0 ≤ wload ws k [c] := by simp only [wload]; split <;> omega
    refine ⟨by split <;> omega, fun ⟨j, hj, hb, ht⟩ => ?_⟩
    by_cases e : j = k
    · subst e
      rw [if_pos hb]
      have : wload ws j [c] = c.2 := by simp only [wload]; rw [if_pos ht]; omega
      omega
    · have := h2 ⟨j, by omega, hb, ht⟩
      split <;> omega
theorem sload_sum {ws : List Wy} {s : Int} : ∀ {cs : List (Int × Int)}, (∀ c, c ∈ cs → 0 ≤ c.2 ∧ ∃ j, j < ws.length ∧ bit s (j : Nat) = true ∧ cutB ws c.1 j = true) → wsum cs ≤ sload ws s cs ws.length
  | [], _ => by
    have : ∀ k, sload ws s [] k = 0 := fun k => by
      induction k with
      | zero => rfl
      | succ k ih => rw [sload, ih]; simp [wload]
    rw [this]; exact Int.le_refl _
  | c :: cs, h => by
    have h1 := h c (List.mem_cons_self ..)
    have h2 := sload_sum (cs := cs) fun d hd => h d (List.mem_cons_of_mem _ hd)
    have h3 := (sload_one h1.1 ws.length).2 h1.2
    rw [sload_cons, wsum]; omega
/-- cuts that pack -/
structure Packs (ws : List Wy) (e : Int) (cs : List (Int × Int)) : Prop where
  part : ∀ c, c ∈ cs → parts e c.1 = true ∧ 0 ≤ c.2 ∧ c.2 ≤ 81
  load : ∀ (k : Nat) (x : Wy), ws[k]? = some x → wload ws k cs ≤ x.c
/-- cuts bound roots from below -/
theorem packs_rc {m : Nat} {ws : List Wy} (hn : NetIs (m : Int) ws) {e : Int} (e0 : 0 ≤ e) (e1 : e < 2 ^ m) {cs : List (Int × Int)} (h : Packs ws e cs) (hr : 0 ≤ rc ws e) : wsum cs ≤ rc ws e := by
  obtain ⟨s, s0, s1, hj, hc⟩ := rc_set hn hr
  have h1 := sload_sum (ws := ws) (s := s) (cs := cs) fun c hcm => by
    obtain ⟨k, x, hx, hb, ht⟩ := cut_meets hn e0 e1 hj (h.part c hcm).1
    exact ⟨(h.part c hcm).2.1, k, (List.getElem?_eq_some_iff.1 hx).1, hb, by rw [cutB_at hx]; exact ht⟩
  have h2 := sload_cost (s := s) h.load ws.length (Nat.le_refl _)
  rw [List.take_length] at h2
  omega
theorem wload_nn {ws : List Wy} {k : Nat} : ∀ {cs : List (Int × Int)}, (∀ c, c ∈ cs → 0 ≤ c.2) → 0 ≤ wload ws k cs
  | [], _ => Int.le_refl _
  | c :: cs, h => by
    have h1 := h c (List.mem_cons_self ..)
    have h2 := wload_nn (ws := ws) (k := k) (cs := cs) fun d hd => h d (List.mem_cons_of_mem _ hd)
    rw [wload]; split <;> omega
/-- without the last one they pack -/
theorem packs_less {ws : List Wy} {e : Int} {cs : List (Int × Int)} {c : Int × Int} (h : Packs ws e (cs ++ [c])) : Packs ws e cs := by
  refine ⟨fun d hd => h.part d (List.mem_append_left _ hd), fun k x hx => ?_⟩
  have h1 := h.load k x hx
  have h2 := (h.part c (List.mem_append_right _ (List.mem_singleton.2 rfl))).2.1
  rw [wload_append] at h1
  have : 0 ≤ wload ws k [c] := by simp only [wload]; split <;> omega
  omega
/-- with weights of nothing they pack -/
theorem packs_zero {n : Int} {ws : List Wy} (hn : NetIs n ws) {e : Int} {cs : List (Int × Int)} (h : Packs ws e cs) : Packs ws e (cs.map fun c => (c.1, 0)) := by
  refine ⟨fun d hd => ?_, fun k x hx => ?_⟩
  · obtain ⟨c, hc, rfl⟩ := List.mem_map.1 hd
    exact ⟨(h.part c hc).1, Int.le_refl _, by simp⟩
  · have : ∀ l : List (Int × Int), wload ws k (l.map fun c => (c.1, 0)) = 0 := fun l => by
      induction l with
      | nil => rfl
      | cons c l ih => rw [List.map_cons, wload, ih]; simp
    rw [this]
    exact (hn.at_ hx).2.2.2.2.2.1
theorem packs_none {n : Int} {ws : List Wy} (hn : NetIs n ws) (e : Int) : Packs ws e [] := by
  refine ⟨fun c hc => ?_, fun k x hx => (hn.at_ hx).2.2.2.2.2.1⟩
  cases hc
/-- two packs at half their weights pack together -/
theorem wload_half {ws : List Wy} {k : Nat} : ∀ {cs : List (Int × Int)}, (∀ c, c ∈ cs → 0 ≤ c.2) → 2 * wload ws k (cs.map fun c => (c.1, c.2 / 2)) ≤ wload ws k cs
  | [], _ => by simp [wload]
  | c :: cs, h => by
    have h1 := h c (List.mem_cons_self ..)
    have h2 := wload_half (ws := ws) (k := k) (cs := cs) fun d hd => h d (List.mem_cons_of_mem _ hd)
    rw [List.map_cons, wload, wload]
    simp only
    split <;> omega
theorem packs_half {ws : List Wy} {e : Int} {a b : List (Int × Int)} (h : Packs ws e a) (h' : Packs ws e b) : Packs ws e ((a.map fun c => (c.1, c.2 / 2)) ++ b.map fun c => (c.1, c.2 / 2)) := by
  refine ⟨fun d hd => ?_, fun k x hx => ?_⟩
  · rcases List.mem_append.1 hd with hd | hd
    · obtain ⟨c, hc, rfl⟩ := List.mem_map.1 hd
      obtain ⟨h1, h2, h3⟩ := h.part c hc
      exact ⟨h1, by simp only; omega, by simp only; omega⟩
    · obtain ⟨c, hc, rfl⟩ := List.mem_map.1 hd
      obtain ⟨h1, h2, h3⟩ := h'.part c hc
      exact ⟨h1, by simp only; omega, by simp only; omega⟩
  · have h1 := h.load k x hx
    have h2 := h'.load k x hx
    have h3 := wload_half (ws := ws) (k := k) (cs := a) fun c hc => (h.part c hc).2.1
    have h4 := wload_half (ws := ws) (k := k) (cs := b) fun c hc => (h'.part c hc).2.1
    rw [wload_append]; omega
/-- the least tree has a cheapest way of each cut -/
theorem cut_span {n : Int} {ws : List Wy} (hn : NetIs n ws) {P : Int} {k : Nat} {x : Wy} (hx : ws[k]? = some x) (hc : (bit P x.a != bit P x.b) = true) : ∃ (j : Nat) (y : Wy), ws[j]? = some y ∧ bit (span ws (allPl n)) j = true ∧ (bit P y.a != bit P y.b) = true ∧ y.c ≤ x.c := by
  have hxa := hn.at_ hx
  obtain ⟨t, t0, t1, ht⟩ := set_of ws.length (fun j => match ws[j]? with | some y => bit (span ws (allPl n)) j && decide (y.c ≤ x.c) | none => false)
  have hcy := span_cycle hn hx (t := t) (fun j y hy hb hle => by
    rw [ht j (List.getElem?_eq_some_iff.1 hy).1, hy, hb]; simpa using hle)
  apply Classical.byContradiction
  intro hno
  have R := reach_is (s := t) hn hxa.1 hxa.2.1
  have hs : ∀ q, 0 ≤ q → bit (reach ws t x.a) q = true → (bit P q == bit P x.a) = true := fun q hq h =>
    R.least (fun q => bit P q == bit P x.a) (by simp) (fun j y hy hb => by
      have hj := (List.getElem?_eq_some_iff.1 hy).1
      rw [ht j hj, hy] at hb
      simp only [Bool.and_eq_true, decide_eq_true_eq] at hb
      have : ¬ (bit P y.a != bit P y.b) = true := fun hd => hno ⟨j, y, hy, hb.1, hd, hb.2⟩
      have e : bit P y.a = bit P y.b := by simpa using this
      show (bit P y.a == bit P x.a) = (bit P y.b == bit P x.a)
      rw [e]) q hq h
  have := hs x.b hxa.2.2.1 hcy
  cases h1 : bit P x.a <;> cases h2 : bit P x.b <;> rw [h1, h2] at this hc <;> simp at this hc
end Go.Proofs.Ythadehgpeafniaa
