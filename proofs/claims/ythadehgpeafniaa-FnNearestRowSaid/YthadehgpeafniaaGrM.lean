/- Cheapest ways first: what is taken is a tree, joins what all ways do, and costs no more than any set that joins all. Plain mathematics. -/
import Derived.Test.YthadehgpeafniaaMB
import Derived.Test.YthadehgpeafniaaMF
import Derived.Test.YthadehgpeafniaaMG
import Derived.Test.YthadehgpeafniaaMA
set_option linter.unusedVariables false
set_option linter.unusedSimpArgs false
namespace Go.Proofs.Ythadehgpeafniaa
open Go.RowKit

/-! ### no way of what is taken is joined by the others -/
structure Gd (ws : List Wy) (am : Int) (P : Nat → Prop) (s : Int) : Prop where
  lo : 0 ≤ s
  sub : ∀ k : Nat, bit s k = true → P k
  joined : ∀ (k : Nat) (x : Wy), ws[k]? = some x → P k → bit am x.a = true → bit am x.b = true → bit (reach ws s x.a) x.b = true
  indep : ∀ (k : Nat) (x : Wy), ws[k]? = some x → bit s k = true → bit (reach ws (idiff s (2 ^ k)) x.a) x.b = false
theorem Gd.step {n : Int} {ws : List Wy} {am s : Int} {P : Nat → Prop} (hn : NetIs n ws) (h : Gd ws am P s) {k : Nat} (hk : ¬ P k) : Gd ws am (fun j => P j ∨ j = k) (look1 ws am k s) := by
  have hsk : bit s k = false := by
    cases hb : bit s k
    · rfl
    · exact absurd (h.sub k hb) hk
  cases hx : ws[k]? with
  | none =>
    rw [look1, hx]
    refine ⟨h.lo, fun j hj => .inl (h.sub j hj), fun j y hy hP => ?_, h.indep⟩
    rcases hP with hP | hP
    · exact h.joined j y hy hP
    · subst hP; rw [hx] at hy; cases hy
  | some x =>
    have hxa := hn.at_ hx
    by_cases hc : bit am x.a = true ∧ bit am x.b = true ∧ bit (reach ws s x.a) x.b = false
    · rw [look1_yes hx hc.1 hc.2.1 hc.2.2]
      have hup : ∀ q, 0 ≤ q → bit s q = true → bit (ior s (2 ^ k)) q = true := fun q hq hb => by rw [bit_ior, hb]; rfl
      have hkk : bit (ior s (2 ^ k)) k = true := by rw [bit_ior, bit_pow k k (by omega)]; simp
      refine ⟨by unfold ior; omega, fun j hj => ?_, fun j y hy hP h1 h2 => ?_, fun j y hy hj => ?_⟩
      · rw [bit_ior, bit_pow k j (by omega)] at hj
        simp only [Bool.or_eq_true, decide_eq_true_eq] at hj
        rcases hj with hj | hj
        · exact .inl (h.sub j hj)
        · exact .inr (by omega)
      · rcases hP with hP | hP
        · have hya := hn.at_ hy
          exact re_mono hn hya.1 hya.2.1 hya.2.2.1 hup (h.joined j y hy hP h1 h2)
        · subst hP
          exact re_way hn hy hkk
      · have hya := hn.at_ hy
        by_cases hjk : j = k
        · subst hjk
          rw [hx] at hy; injection hy with hy; subst hy
          have e : idiff (ior s (2 ^ j)) (2 ^ j) = s := by
            refine set_ext (idiff_bd _ _ (by unfold ior; omega)).1 h.lo fun q hq => ?_
            rw [bit_idiff, bit_ior, bit_pow j q hq]
            by_cases hqj : q = (j : Int)
            · subst hqj; rw [hsk]; simp
            · simp [hqj]
          rw [e]; exact hc.2.2
        · have hjs : bit s j = true := by
            rw [bit_ior, bit_pow k j (by omega)] at hj
            have : decide ((j : Int) = k) = false := by simp; omega
            rwa [this, Bool.or_false] at hj
          have e : idiff (ior s (2 ^ k)) (2 ^ j) = ior (idiff s (2 ^ j)) (2 ^ k) := by
            refine set_ext (idiff_bd _ _ (by unfold ior; omega)).1 (by unfold ior; omega) fun q hq => ?_
            rw [bit_idiff, bit_ior, bit_ior, bit_idiff, bit_pow k q hq, bit_pow j q hq]
            by_cases hqk : q = (k : Int)
            · subst hqk
              have : decide ((k : Int) = j) = false := by simp; omega
              rw [this]; simp
            · simp [hqk]
          rw [e]
          have hdn : ∀ q, 0 ≤ q → bit (idiff s (2 ^ j)) q = true → bit s q = true := fun q hq hb => by
            rw [bit_idiff] at hb
            simp only [Bool.and_eq_true] at hb
            exact hb.1
          have hyw := re_way hn hy hjs
          have hyw' := re_sym hn hya.1 hya.2.1 hya.2.2.1 hyw
          cases hb : bit (reach ws (ior (idiff s (2 ^ j)) (2 ^ k)) y.a) y.b
          · rfl
          · exfalso
            rcases re_add hn hx hya.1 hya.2.1 hya.2.2.1 hb with h1 | ⟨h1, h2⟩ | ⟨h1, h2⟩
            · rw [h.indep j y hy hjs] at h1; cases h1
            · have g1 := re_sym hn hya.1 hya.2.1 hxa.1 (re_mono hn hya.1 hya.2.1 hxa.1 hdn h1)
              have g2 := re_sym hn hxa.2.2.1 hxa.2.2.2.1 hya.2.2.1 (re_mono hn hxa.2.2.1 hxa.2.2.2.1 hya.2.2.1 hdn h2)
              have := re_trans hn hxa.1 hxa.2.1 hya.1 g1 (re_trans hn hya.1 hya.2.1 hya.2.2.1 hyw g2)
              rw [hc.2.2] at this; cases this
            · have g1 := re_mono hn hya.1 hya.2.1 hxa.2.2.1 hdn h1
              have g2 := re_mono hn hxa.1 hxa.2.1 hya.2.2.1 hdn h2
              have := re_trans hn hxa.1 hxa.2.1 hya.2.2.1 g2 (re_trans hn hya.2.2.1 hya.2.2.2.1 hya.1 hyw' g1)
              rw [hc.2.2] at this; cases this
    · rw [look1_no hx hc]
      refine ⟨h.lo, fun j hj => .inl (h.sub j hj), fun j y hy hP h1 h2 => ?_, h.indep⟩
      rcases hP with hP | hP
      · exact h.joined j y hy hP h1 h2
      · subst hP
        rw [hx] at hy; injection hy with hy; subst hy
        cases hb : bit (reach ws s x.a) x.b
        · exact absurd ⟨h1, h2, hb⟩ hc
        · rfl
theorem Gd.congr {ws : List Wy} {am s : Int} {P Q : Nat → Prop} (h : Gd ws am P s) (hPQ : ∀ k, k < ws.length → (P k ↔ Q k)) (hQ : ∀ k, bit s (k : Nat) = true → Q k) : Gd ws am Q s :=
  ⟨h.lo, hQ, fun k x hx hq => h.joined k x hx ((hPQ k (List.getElem?_eq_some_iff.1 hx).1).2 hq), h.indep⟩
theorem look1_bit {ws : List Wy} {am s : Int} {k j : Nat} (h : j ≠ k) : bit (look1 ws am k s) j = bit s j := by
  cases hx : ws[k]? with
  | none => rw [look1, hx]
  | some x =>
    by_cases hc : bit am x.a = true ∧ bit am x.b = true ∧ bit (reach ws s x.a) x.b = false
    · rw [look1_yes hx hc.1 hc.2.1 hc.2.2, bit_ior, bit_pow k j (by omega)]
      have : decide ((j : Int) = k) = false := by simp; omega
      rw [this, Bool.or_false]
    · rw [look1_no hx hc]
/-- the ways below cost c, and those of cost c among the first k -/
def Upto (ws : List Wy) (c : Int) (m : Nat) (k : Nat) : Prop := ∃ x, ws[k]? = some x ∧ (x.c < c ∨ (x.c = c ∧ k < m))
theorem spRow_gd {n : Int} {ws : List Wy} {am c s : Int} (hn : NetIs n ws) (h : Gd ws am (Upto ws c 0) s) : ∀ m, Gd ws am (Upto ws c m) (spRow ws am c s m)
  | 0 => h
  | m + 1 => by
    have ih := spRow_gd hn h m
    cases hx : ws[m]? with
    | none =>
      simp only [spRow, hx]
      refine ih.congr (fun k _ => ?_) (fun k hk => ?_)
      · constructor
        · rintro ⟨x, h1, h2⟩; exact ⟨x, h1, by omega⟩
        · rintro ⟨x, h1, h2⟩
          have : k ≠ m := fun e => by subst e; rw [hx] at h1; cases h1
          exact ⟨x, h1, by omega⟩
      · obtain ⟨x, h1, h2⟩ := ih.sub k hk
        exact ⟨x, h1, by omega⟩
    | some x =>
      by_cases hc : x.c = c
      · rw [spRow_yes hx hc]
        have hs := ih.step hn (k := m) (by rintro ⟨y, hy, h2⟩; rw [hx] at hy; injection hy with hy; subst hy; omega)
        refine hs.congr (fun k _ => ?_) (fun k hk => ?_)
        · constructor
          · rintro (⟨y, h1, h2⟩ | rfl)
            · exact ⟨y, h1, by omega⟩
            · exact ⟨x, hx, by omega⟩
          · rintro ⟨y, h1, h2⟩
            by_cases e : k = m
            · exact .inr e
            · exact .inl ⟨y, h1, by omega⟩
        · rcases hs.sub k hk with ⟨y, h1, h2⟩ | rfl
          · exact ⟨y, h1, by omega⟩
          · exact ⟨x, hx, by omega⟩
      · rw [spRow_no hx hc]
        refine ih.congr (fun k _ => ?_) (fun k hk => ?_)
        · constructor
          · rintro ⟨y, h1, h2⟩; exact ⟨y, h1, by omega⟩
          · rintro ⟨y, h1, h2⟩
            have : k = m → x.c = y.c := fun e => by subst e; rw [hx] at h1; injection h1 with h1; rw [h1]
            exact ⟨y, h1, by omega⟩
        · obtain ⟨y, h1, h2⟩ := ih.sub k hk
          exact ⟨y, h1, by omega⟩
theorem spTo_gd {n : Int} {ws : List Wy} {am : Int} (hn : NetIs n ws) : ∀ c : Nat, Gd ws am (Upto ws c 0) (spTo ws am c)
  | 0 => by
    refine ⟨Int.le_refl _, fun k hk => ?_, fun k x hx hP => ?_, fun k x _ hk => ?_⟩
    · rw [show spTo ws am 0 = 0 from rfl, bit_zero_] at hk; cases hk
    · obtain ⟨y, h1, h2⟩ := hP
      have := hn.at_ h1
      omega
    · rw [show spTo ws am 0 = 0 from rfl, bit_zero_] at hk; cases hk
  | c + 1 => by
    have h := spRow_gd hn (spTo_gd (am := am) hn c) ws.length
    refine h.congr (fun k hk => ?_) (fun k hk => ?_)
    · constructor
      · rintro ⟨x, h1, h2⟩; exact ⟨x, h1, by omega⟩
      · rintro ⟨x, h1, h2⟩; exact ⟨x, h1, by omega⟩
    · obtain ⟨x, h1, h2⟩ := h.sub k hk
      exact ⟨x, h1, by omega⟩
theorem spRow_bit {ws : List Wy} {am c s : Int} {j : Nat} {x : Wy} (hx : ws[j]? = some x) (hc : x.c ≠ c) : ∀ m, bit (spRow ws am c s m) j = bit s j
  | 0 => rfl
  | m + 1 => by
    have ih := spRow_bit (am := am) (s := s) hx hc m
    cases hy : ws[m]? with
    | none => simp only [spRow, hy]; exact ih
    | some y =>
      by_cases hyc : y.c = c
      · rw [spRow_yes hy hyc, look1_bit (fun e => by subst e; rw [hx] at hy; injection hy with hy; subst hy; exact hc hyc), ih]
      · rw [spRow_no hy hyc, ih]
/-- what is taken below cost c -/
theorem spTo_bit {ws : List Wy} {am : Int} {j : Nat} {x : Wy} (hx : ws[j]? = some x) (c : Nat) (hc : x.c < c) : ∀ d, bit (spTo ws am (c + d)) j = bit (spTo ws am c) j
  | 0 => rfl
  | d + 1 => by
    rw [← spTo_bit hx c hc d]
    show bit (spRow ws am ((c + d : Nat) : Int) _ _) j = _
    exact spRow_bit hx (by omega) _
theorem spTo_span {n : Int} {ws : List Wy} {am : Int} (hn : NetIs n ws) {c : Nat} (hc : c ≤ 10) {j : Nat} : bit (spTo ws am c) j = true ↔ bit (span ws am) j = true ∧ ∃ x, ws[j]? = some x ∧ x.c < c := by
  have e : c + (10 - c) = 10 := by omega
  constructor
  · intro h
    obtain ⟨x, hx, hb⟩ := (spTo_gd hn c).sub j h
    have := spTo_bit (am := am) hx c (by omega) (10 - c)
    rw [e] at this
    exact ⟨by unfold span; rw [this]; exact h, x, hx, by omega⟩
  · rintro ⟨h, x, hx, hb⟩
    have := spTo_bit (am := am) hx c hb (10 - c)
    rw [e] at this
    rw [← this]; exact h
theorem span_gd {n : Int} {ws : List Wy} {am : Int} (hn : NetIs n ws) : Gd ws am (fun k => k < ws.length) (span ws am) := by
  refine (spTo_gd hn 10).congr (fun k hk => ?_) (fun k hk => ?_)
  · constructor
    · intro _; exact hk
    · intro _
      refine ⟨_, List.getElem?_eq_getElem hk, ?_⟩
      have := hn.at_ (List.getElem?_eq_getElem hk)
      omega
  · obtain ⟨x, h1, _⟩ := (spTo_gd hn 10).sub k hk
    exact (List.getElem?_eq_some_iff.1 h1).1
theorem span_bd (ws : List Wy) (am : Int) : 0 ≤ span ws am ∧ span ws am ≤ full ws.length := spTo_bd ws am 10

/-! ### all places -/
theorem all_has {n : Int} {ws : List Wy} (hn : NetIs n ws) {k : Nat} {x : Wy} (hx : ws[k]? = some x) : bit (allPl n) x.a = true ∧ bit (allPl n) x.b = true := by
  have := hn.at_ hx
  have := hn.lo
  rw [allPl_bit (by omega) (by omega), allPl_bit (by omega) (by omega)]
  simp; omega
theorem joins_all {n : Int} {ws : List Wy} {s : Int} (hn : NetIs n ws) : joins ws s (allPl n) = true ↔ ∀ p q, 0 ≤ p → p < n → 0 ≤ q → q < n → bit (reach ws s p) q = true := by
  have hb := allPl_bd hn
  have h2 := hn.lo
  rw [joins_iff hn (by omega) hb.2.2]
  constructor
  · intro h p q p0 p1 q0 q1
    exact h p q p0 q0 (by rw [allPl_bit p0 (by omega)]; simpa using p1) (by rw [allPl_bit q0 (by omega)]; simpa using q1)
  · intro h p q p0 q0 hp hq
    rw [allPl_bit p0 (by omega)] at hp
    rw [allPl_bit q0 (by omega)] at hq
    exact h p q p0 (by simpa using hp) q0 (by simpa using hq)
/-- it joins all if some set does -/
theorem span_joins {n : Int} {ws : List Wy} {t : Int} (hn : NetIs n ws) (h : joins ws t (allPl n) = true) : joins ws (span ws (allPl n)) (allPl n) = true := by
  rw [joins_all hn] at h ⊢
  intro p q p0 p1 q0 q1
  refine re_over hn p0 p1 q0 (fun k x hx _ => ?_) (h p q p0 p1 q0 q1)
  have ha := all_has hn hx
  exact (span_gd hn).joined k x hx (List.getElem?_eq_some_iff.1 hx).1 ha.1 ha.2
/-- a set of which no way is joined by the others, and that joins all, has one way fewer than places -/
theorem indep_pop {n : Int} {ws : List Wy} {s : Int} (hn : NetIs n ws) (s0 : 0 ≤ s) (s1 : s ≤ full ws.length) (hi : ∀ (k : Nat) (x : Wy), ws[k]? = some x → bit s k = true → bit (reach ws (idiff s (2 ^ k)) x.a) x.b = false) (hj : joins ws s (allPl n) = true) : pop s = n - 1 := by
  have h2 := hn.lo
  have h6 := hn.hi
  have hb := allPl_bd hn
  have hfb := full_bd ws.length hn.len
  have hJ := (joins_all hn).1 hj
  have hst : GrownBy ws s 0 (2 ^ (0 : Int).toNat) 0 := by
    refine ⟨OnWay.start hn (Int.le_refl _) (by omega), OnWay.start hn (Int.le_refl _) (by omega), Int.le_refl _, by omega, fun q _ h => ?_, fun k x _ h => ?_, by decide⟩
    · rw [bit_zero_] at h; cases h
    · rw [bit_zero_] at h; cases h
  obtain ⟨r, u, hg, hc⟩ := grown_ex hn 64 _ 0 (by decide) hst
  have hr : r = reach ws s 0 := IsReach.eq { hg.on with closed := hc }
  have hra : r = allPl n := by
    refine set_ext hg.on.lo (by omega) fun q hq => ?_
    rw [allPl_bit hq (by omega), Bool.eq_iff_iff, decide_eq_true_eq, hr]
    exact ⟨fun h => bit_lt6 hn (Int.le_refl _) (by omega) h, fun h => hJ 0 q (Int.le_refl _) (by omega) hq h⟩
  have hpr := pop_allPl (n := n) (by omega) h6
  have hcnt := hg.cnt
  rw [hra, hpr] at hcnt
  have hsub : ∀ q, 0 ≤ q → bit s q = true → bit u q = true := fun q hq hbq => by
    obtain ⟨k, rfl⟩ := Int.eq_ofNat_of_zero_le hq
    apply Classical.byContradiction
    intro hno
    have hk : k < ws.length := by
      apply Classical.byContradiction
      intro hge
      rw [bit_big (n := ws.length) s0 (by unfold full at s1; omega) (by omega)] at hbq
      cases hbq
    obtain ⟨x, hx⟩ : ∃ x, ws[k]? = some x := ⟨_, List.getElem?_eq_getElem hk⟩
    have hxa := hn.at_ hx
    have R := reach_is (s := idiff s (2 ^ k)) hn (p := 0) (Int.le_refl _) (by omega)
    have key : ∀ q, 0 ≤ q → q < n → bit (reach ws (idiff s (2 ^ k)) 0) q = true := fun q q0 q1 => by
      refine hg.onu.least _ R.has (fun j y hy hb => R.closed j y hy ?_) q q0 ?_
      · rw [bit_less s k j (by omega), hg.sub j (by omega) hb]
        have : j ≠ k := fun e => by subst e; exact hno hb
        simp; omega
      · rw [hra, allPl_bit q0 (by omega)]; simpa using q1
    have h1 := re_trans hn hxa.1 hxa.2.1 (Int.le_refl _) (re_sym hn (Int.le_refl _) (by omega) hxa.1 (key x.a hxa.1 hxa.2.1)) (key x.b hxa.2.2.1 hxa.2.2.2.1)
    rw [hi k x hx hbq] at h1; cases h1
  have h3 := pop_sub hsub
  have h4 := pop_sub hg.sub
  omega
theorem span_pop {n : Int} {ws : List Wy} (hn : NetIs n ws) (hj : joins ws (span ws (allPl n)) (allPl n) = true) : pop (span ws (allPl n)) = n - 1 := by
  have hb := span_bd ws (allPl n)
  exact indep_pop hn hb.1 hb.2 (span_gd hn).indep hj

/-! ### counting by costs -/
def cntP (P : Nat → Bool) : Nat → Int
  | 0 => 0
  | k + 1 => cntP P k + if P k then 1 else 0
theorem cntP_cnt (s : Int) : ∀ k, cntP (fun k => bit s k) k = cntTo s k
  | 0 => rfl
  | k + 1 => by rw [cntP, cntTo, cntP_cnt s k]
theorem cntP_two {P Q R : Nat → Bool} : ∀ m, (∀ k, k < m → ((if R k then 1 else 0 : Int) = (if P k then 1 else 0) + (if Q k then 1 else 0))) → cntP R m = cntP P m + cntP Q m
  | 0, _ => rfl
  | m + 1, h => by
    rw [cntP, cntP, cntP, cntP_two m (fun k hk => h k (by omega)), h m (by omega)]
    omega
theorem pop_cntP {ws : List Wy} {s : Int} (hl : ws.length ≤ 9) (s0 : 0 ≤ s) (s1 : s ≤ full ws.length) : pop s = cntP (fun k => bit s k) ws.length := by
  have hfb := full_bd ws.length hl
  have e2 : ((2 : Int) ^ ws.length) = ((2 ^ ws.length : Nat) : Int) := by simp
  have h2 := cnt_all ⟨ws.length, by omega⟩ ⟨s.toNat, by omega⟩ (by simp only; unfold full at s1; omega)
  simp only [Int.toNat_of_nonneg s0] at h2
  rw [cntP_cnt, h2]
/-- way k costs c or more -/
def geC (ws : List Wy) (c : Int) (k : Nat) : Bool := match ws[k]? with
  | some x => decide (c ≤ x.c)
  | none => false
def ge (ws : List Wy) (s c : Int) (k : Nat) : Bool := bit s k && geC ws c k
theorem ge_at {ws : List Wy} {k : Nat} {x : Wy} (hx : ws[k]? = some x) (s c : Int) : ge ws s c k = (bit s k && decide (c ≤ x.c)) := by
  unfold ge geC; rw [hx]
theorem cost_ge {n : Int} {ws : List Wy} (hn : NetIs n ws) (s : Int) : ∀ k, k ≤ ws.length → cost (ws.take k) s = cntP (ge ws s 1) k + cntP (ge ws s 2) k + cntP (ge ws s 3) k + cntP (ge ws s 4) k + cntP (ge ws s 5) k + cntP (ge ws s 6) k + cntP (ge ws s 7) k + cntP (ge ws s 8) k + cntP (ge ws s 9) k
  | 0, _ => by simp [cost, costFrom, cntP]
  | k + 1, h => by
    obtain ⟨x, hx⟩ : ∃ x, ws[k]? = some x := ⟨_, List.getElem?_eq_getElem (by omega)⟩
    have hxc := hn.at_ hx
    rw [cost_take ws s k x hx, cost_ge hn s k (by omega)]
    simp only [cntP, ge_at hx]
    cases hb : bit s k
    · simp only [Bool.false_and, Bool.false_eq_true, if_false]; omega
    · simp only [Bool.true_and, if_true, decide_eq_true_eq]
      have h10 : x.c = 0 ∨ x.c = 1 ∨ x.c = 2 ∨ x.c = 3 ∨ x.c = 4 ∨ x.c = 5 ∨ x.c = 6 ∨ x.c = 7 ∨ x.c = 8 ∨ x.c = 9 := by omega
      clear hb
      rcases h10 with h | h | h | h | h | h | h | h | h | h <;> rw [h] <;> simp <;> omega
theorem cost_sum9 {n : Int} {ws : List Wy} (hn : NetIs n ws) (s : Int) : cost ws s = cntP (ge ws s 1) ws.length + cntP (ge ws s 2) ws.length + cntP (ge ws s 3) ws.length + cntP (ge ws s 4) ws.length + cntP (ge ws s 5) ws.length + cntP (ge ws s 6) ws.length + cntP (ge ws s 7) ws.length + cntP (ge ws s 8) ws.length + cntP (ge ws s 9) ws.length := by
  have := cost_ge hn s ws.length (Nat.le_refl _)
  rwa [List.take_length] at this
/-- the ways of a set that cost c or more -/
def geTo (ws : List Wy) (t c : Int) : Nat → Int
  | 0 => 0
  | k + 1 => if ge ws t c k then ior (geTo ws t c k) (2 ^ k) else geTo ws t c k
theorem geTo_nn (ws : List Wy) (t c : Int) : ∀ k, 0 ≤ geTo ws t c k
  | 0 => Int.le_refl _
  | k + 1 => by
    rw [geTo]; split
    · unfold ior; omega
    · exact geTo_nn ws t c k
theorem geTo_bit (ws : List Wy) (t c : Int) (j : Nat) : ∀ m, bit (geTo ws t c m) j = (decide (j < m) && ge ws t c j)
  | 0 => by rw [geTo, bit_zero_]; simp
  | m + 1 => by
    have ih := geTo_bit ws t c j m
    by_cases e : j = m
    · subst e
      rw [geTo]
      cases hg : ge ws t c j
      · simp only [Bool.false_eq_true, if_false, Bool.and_false]; rw [ih, hg]; simp
      · simp only [if_true]; rw [bit_ior, bit_pow j j (by omega)]; simp
    · have hd : decide (j < m + 1) = decide (j < m) := by rw [decide_eq_decide]; omega
      rw [hd, ← ih, geTo]
      split
      · rw [bit_ior, bit_pow m j (by omega)]
        have : decide ((j : Int) = m) = false := by simp; omega
        rw [this, Bool.or_false]
      · rfl
set_option maxHeartbeats 2000000 in
/-- no set that joins all costs less -/
theorem ge_least {n : Int} {ws : List Wy} {t : Int} (hn : NetIs n ws) (hj : joins ws t (allPl n) = true) (c : Nat) (hc : c ≤ 10) : cntP (ge ws (span ws (allPl n)) c) ws.length ≤ cntP (ge ws t c) ws.length := by
  have hS := span_joins hn hj
  have hpS := span_pop hn hS
  have hSb := span_bd ws (allPl n)
  have h2 := hn.lo
  have h6 := hn.hi
  have hl9 := hn.len
  have hfb := full_bd ws.length hl9
  have ha := allPl_bd hn
  have hgd := spTo_gd (am := allPl n) hn c
  obtain ⟨U, hU⟩ : ∃ U, U = ior (spTo ws (allPl n) c) (geTo ws t c ws.length) := ⟨_, rfl⟩
  have hUb : ∀ j : Nat, bit U j = (bit (spTo ws (allPl n) c) j || (decide (j < ws.length) && ge ws t c j)) := fun j => by rw [hU, bit_ior, geTo_bit]
  have hU0 : 0 ≤ U := by rw [hU]; unfold ior; omega
  have hU1 : U ≤ full ws.length := by
    apply Classical.byContradiction
    intro hgt
    have h3 := spTo_bd ws (allPl n) c
    have h4 : geTo ws t c ws.length < 2 ^ ws.length := by
      have : ∀ m, geTo ws t c m < 2 ^ m := fun m => by
        induction m with
        | zero => simp [geTo]
        | succ m ih =>
          have e1 : ((2 : Int) ^ (m + 1)) = 2 ^ m * 2 := Int.pow_succ 2 m
          have e2 : ((2 : Int) ^ m) = ((2 ^ m : Nat) : Int) := by simp
          have e3 : 1 ≤ 2 ^ m := Nat.one_le_two_pow
          rw [geTo]
          split
          · have := ior_bd (geTo ws t c m) (2 ^ m) (m + 1) (by omega) (by omega)
            omega
          · omega
      exact this _
    have := ior_bd (spTo ws (allPl n) c) (geTo ws t c ws.length) ws.length (by unfold full at h3; omega) h4
    unfold full at hgt
    omega
  -- all is joined by U
  have hUj : pop (reach ws U 0) = n := by
    rw [← pop_allPl (n := n) (by omega) h6]
    have R := reach_is (s := U) hn (p := 0) (Int.le_refl _) (by omega)
    have : reach ws U 0 = allPl n := by
      refine set_ext R.lo (by omega) fun q hq => ?_
      rw [allPl_bit hq (by omega), Bool.eq_iff_iff, decide_eq_true_eq]
      constructor
      · exact fun h => bit_lt6 hn (Int.le_refl _) (by omega) h
      · intro hqn
        refine re_over hn (Int.le_refl _) (by omega) hq (fun k x hx hb => ?_) ((joins_all hn).1 hj 0 q (Int.le_refl _) (by omega) hq hqn)
        have hxa := hn.at_ hx
        have hk := (List.getElem?_eq_some_iff.1 hx).1
        by_cases hxc : (c : Int) ≤ x.c
        · exact re_way hn hx (by rw [hUb, ge_at hx, hb]; simp [hk, hxc])
        · have hal := all_has hn hx
          refine re_mono hn hxa.1 hxa.2.1 hxa.2.2.1 (fun q hq hbq => ?_) (hgd.joined k x hx ⟨x, hx, by omega⟩ hal.1 hal.2)
          rw [hU, bit_ior, hbq]; rfl
    rw [this]
  have hUp := pop_reach (s := U) hn (p := 0) (Int.le_refl _) (by omega)
  have e1 : cntP (fun k => bit U k) ws.length = cntP (fun k => bit (spTo ws (allPl n) c) k) ws.length + cntP (ge ws t c) ws.length := cntP_two _ fun k hk => by
    simp only [hUb]
    obtain ⟨x, hx⟩ : ∃ x, ws[k]? = some x := ⟨_, List.getElem?_eq_getElem hk⟩
    cases hb : bit (spTo ws (allPl n) c) k
    · simp [hk]
    · obtain ⟨y, hy, hyc⟩ := hgd.sub k hb
      rw [hx] at hy; injection hy with hy; subst hy
      have : decide ((c : Int) ≤ x.c) = false := by simp; omega
      rw [ge_at hx, this]; simp
  have e2 : cntP (fun k => bit (span ws (allPl n)) k) ws.length = cntP (fun k => bit (spTo ws (allPl n) c) k) ws.length + cntP (ge ws (span ws (allPl n)) c) ws.length := cntP_two _ fun k hk => by
    obtain ⟨x, hx⟩ : ∃ x, ws[k]? = some x := ⟨_, List.getElem?_eq_getElem hk⟩
    have hi := spTo_span (am := allPl n) hn hc (j := k)
    rw [ge_at hx]
    by_cases hxc : (c : Int) ≤ x.c
    · have hno : bit (spTo ws (allPl n) c) k = false := by
        cases hb : bit (spTo ws (allPl n) c) k
        · rfl
        · obtain ⟨_, y, hy, hyc⟩ := hi.1 hb
          rw [hx] at hy; injection hy with hy; subst hy; omega
      rw [hno]; simp [hxc]
    · have : bit (spTo ws (allPl n) c) k = bit (span ws (allPl n)) k := by
        rw [Bool.eq_iff_iff, hi]
        exact ⟨fun h => h.1, fun h => ⟨h, x, hx, by omega⟩⟩
      rw [this]; simp [hxc]
  rw [pop_cntP hl9 hU0 hU1] at hUp
  rw [pop_cntP hl9 hSb.1 hSb.2] at hpS
  omega
theorem span_least {n : Int} {ws : List Wy} {t : Int} (hn : NetIs n ws) (hj : joins ws t (allPl n) = true) : cost ws (span ws (allPl n)) ≤ cost ws t := by
  rw [cost_sum9 hn, cost_sum9 hn]
  have h1 := ge_least hn hj 1 (by omega)
  have h2 := ge_least hn hj 2 (by omega)
  have h3 := ge_least hn hj 3 (by omega)
  have h4 := ge_least hn hj 4 (by omega)
  have h5 := ge_least hn hj 5 (by omega)
  have h6 := ge_least hn hj 6 (by omega)
  have h7 := ge_least hn hj 7 (by omega)
  have h8 := ge_least hn hj 8 (by omega)
  have h9 := ge_least hn hj 9 (by omega)
  have e : ∀ (s : Int) (k : Nat) (z : Int), (k : Int) = z → ge ws s (k : Int) = ge ws s z := fun s k z h => by rw [h]
  rw [e _ 1 1 rfl, e _ 1 1 rfl] at h1
  rw [e _ 2 2 rfl, e _ 2 2 rfl] at h2
  rw [e _ 3 3 rfl, e _ 3 3 rfl] at h3
  rw [e _ 4 4 rfl, e _ 4 4 rfl] at h4
  rw [e _ 5 5 rfl, e _ 5 5 rfl] at h5
  rw [e _ 6 6 rfl, e _ 6 6 rfl] at h6
  rw [e _ 7 7 rfl, e _ 7 7 rfl] at h7
  rw [e _ 8 8 rfl, e _ 8 8 rfl] at h8
  rw [e _ 9 9 rfl, e _ 9 9 rfl] at h9
  omega
/-- a way that is left out is joined by ways that were taken and cost no more -/
theorem span_cycle {n : Int} {ws : List Wy} {t : Int} (hn : NetIs n ws) {k : Nat} {x : Wy} (hx : ws[k]? = some x) (ht : ∀ (j : Nat) (y : Wy), ws[j]? = some y → bit (span ws (allPl n)) j = true → y.c ≤ x.c → bit t j = true) : bit (reach ws t x.a) x.b = true := by
  have hxa := hn.at_ hx
  have hal := all_has hn hx
  have hgd := spTo_gd (am := allPl n) hn (x.c.toNat + 1)
  refine re_mono hn hxa.1 hxa.2.1 hxa.2.2.1 (fun q hq hb => ?_) (hgd.joined k x hx ⟨x, hx, by omega⟩ hal.1 hal.2)
  obtain ⟨j, rfl⟩ := Int.eq_ofNat_of_zero_le hq
  obtain ⟨h1, y, hy, h2⟩ := (spTo_span hn (by omega)).1 hb
  exact ht j y hy h1 (by omega)
end Go.Proofs.Ythadehgpeafniaa
