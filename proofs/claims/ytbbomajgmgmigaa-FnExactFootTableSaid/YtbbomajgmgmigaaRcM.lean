/- The least cost of a set of ways that joins some places: what tables over sets of ends keep to, and that they come to it. Plain mathematics. -/
import Derived.Test.YtbbomajgmgmigaaRM
import Derived.Test.YtbbomajgmgmigaaFaM
set_option linter.unusedSimpArgs false
set_option linter.unusedVariables false
namespace Go.Proofs.Ytbbomajgmgmigaa
open Go.RowKit

theorem ior_nn (a b : Int) : 0 ≤ ior a b := by unfold ior; omega
noncomputable def rc (ws : List Wy) (e : Int) : Int := if best ws e < 0 then -1 else cost ws (best ws e)
theorem rc_ge {n : Int} {ws : List Wy} (hn : NetIs n ws) (e : Int) : -1 ≤ rc ws e ∧ rc ws e ≤ 81 := by
  have := cost_bds hn (best ws e)
  unfold rc; split <;> omega
theorem rc_le {n : Int} {ws : List Wy} (hn : NetIs n ws) {s e : Int} (s0 : 0 ≤ s) (s1 : s ≤ full ws.length) (hj : joins ws s e = true) : 0 ≤ rc ws e ∧ rc ws e ≤ cost ws s := by
  have h := best_cost_le hn s0 s1 hj
  have := cost_bds hn (best ws e)
  unfold rc; rw [if_neg (by omega)]; omega
theorem rc_set {n : Int} {ws : List Wy} (hn : NetIs n ws) {e : Int} (h : 0 ≤ rc ws e) : ∃ s, 0 ≤ s ∧ s ≤ full ws.length ∧ joins ws s e = true ∧ cost ws s = rc ws e := by
  unfold rc at h ⊢
  by_cases hb : best ws e < 0
  · rw [if_pos hb] at h; omega
  · rw [if_neg hb]
    exact ⟨best ws e, by omega, best_full ws e, best_joins (by omega), rfl⟩
theorem rc_told {n : Int} {ws : List Wy} (hn : NetIs n ws) {e : Int} (e0 : 0 ≤ e) (e1 : e < 2 ^ n.toNat) : 0 ≤ rc ws e ↔ joins ws (full ws.length) e = true := by
  have hfb := full_bd ws.length hn.len
  constructor
  · intro h
    obtain ⟨s, s0, s1, hj, -⟩ := rc_set hn h
    refine joins_mono hn e0 e1 (fun q hq hb => ?_) hj
    have hlt := bit_in s0 s1 hb
    obtain ⟨j, rfl⟩ := Int.eq_ofNat_of_zero_le hq
    exact full_all _ _ (by omega)
  · intro h
    exact (rc_le hn hfb.1 (Int.le_refl _) h).1
theorem rc_mono {n : Int} {ws : List Wy} (hn : NetIs n ws) {e f : Int} (e0 : 0 ≤ e) (e1 : e < 2 ^ n.toNat) (f0 : 0 ≤ f) (f1 : f < 2 ^ n.toNat) (hs : ∀ q, 0 ≤ q → bit e q = true → bit f q = true) (h : 0 ≤ rc ws f) : 0 ≤ rc ws e ∧ rc ws e ≤ rc ws f := by
  obtain ⟨s, s0, s1, hj, hc⟩ := rc_set hn h
  have := rc_le hn s0 s1 (joins_less_ends hn f0 f1 e0 e1 hs hj)
  omega
theorem rc_both {m : Nat} {ws : List Wy} (hn : NetIs (m : Int) ws) {a b : Nat} (ha : a < m) (hb : b < m) : rc ws (both a b) = farF ws m a b := by
  have hbb := both_bd (n := (m : Int)) (a := (a : Int)) (b := (b : Int)) (by omega) (by omega) (by omega) (by omega)
  have ht := rc_told hn hbb.1 hbb.2
  rw [joins_both hn (by omega) (by omega) (by omega) (by omega), ← farF_join hn ha hb] at ht
  have h1 := rc_ge hn (both a b)
  have h2 := farF_ge hn m a b
  unfold rc at ht h1 ⊢
  by_cases hx : best ws (both a b) < 0
  · rw [if_pos hx] at ht h1 ⊢
    have : ¬ 0 ≤ farF ws m a b := fun h => by have := ht.2 h; omega
    omega
  · rw [if_neg hx]; exact best_cost hn ha hb (by omega)
theorem rc_join {n : Int} {ws : List Wy} (hn : NetIs n ws) {e f p : Int} (e0 : 0 ≤ e) (e1 : e < 2 ^ n.toNat) (f0 : 0 ≤ f) (f1 : f < 2 ^ n.toNat) (hp : 0 ≤ p) (hpe : bit e p = true) (hpf : bit f p = true) (he : 0 ≤ rc ws e) (hf : 0 ≤ rc ws f) : 0 ≤ rc ws (ior e f) ∧ rc ws (ior e f) ≤ rc ws e + rc ws f := by
  obtain ⟨s, s0, s1, hs, hcs⟩ := rc_set hn he
  obtain ⟨t, t0, t1, ht, hct⟩ := rc_set hn hf
  have hi := ior_full s0 s1 t0 t1
  have h := rc_le hn hi.1 hi.2 (joins_union hn e0 e1 f0 f1 hp hpe hpf hs ht)
  have := cost_union hn s t
  omega
/-- a place more -/
def withp (e : Int) (v : Nat) : Int := ior e (2 ^ v)
theorem withp_bit (e : Int) (v : Nat) {q : Int} (hq : 0 ≤ q) : bit (withp e v) q = (bit e q || decide (q = v)) := by
  unfold withp; rw [bit_ior, bit_pow v q hq]
theorem pow_lt {m v : Nat} (hv : v < m) : 0 < (2 : Int) ^ v ∧ (2 : Int) ^ v < 2 ^ ((m : Int)).toNat := by
  rw [Int.toNat_natCast]
  have h := Nat.pow_lt_pow_right (a := 2) (by omega) hv
  have e1 : ((2 : Int) ^ v) = ((2 ^ v : Nat) : Int) := by simp
  have e2 : ((2 : Int) ^ m) = ((2 ^ m : Nat) : Int) := by simp
  have := Nat.one_le_two_pow (n := v)
  omega
theorem withp_bd {m : Nat} {e : Int} {v : Nat} (e0 : 0 ≤ e) (e1 : e < 2 ^ ((m : Int)).toNat) (hv : v < m) : 0 ≤ withp e v ∧ withp e v < 2 ^ ((m : Int)).toNat := ior_bd _ _ _ e1 (pow_lt hv).2
theorem withp_has {e : Int} {v : Nat} (e0 : 0 ≤ e) (h : bit e v = true) : withp e v = e := by
  refine set_ext (ior_nn _ _) e0 fun q hq => ?_
  rw [withp_bit e v hq]
  by_cases hqv : q = v
  · subst hqv; rw [h]; rfl
  · simp [hqv]
theorem withp_both {e : Int} {u v : Nat} (h : bit e u = true) : ior e (both u v) = withp e v := by
  refine set_ext (ior_nn _ _) (ior_nn _ _) fun q hq => ?_
  rw [withp_bit e v hq, bit_ior, bit_both (by omega) (by omega) hq]
  by_cases hqu : q = u
  · subst hqu; rw [h]; rfl
  · simp [hqu]
theorem rc_grow {m : Nat} {ws : List Wy} (hn : NetIs (m : Int) ws) {e : Int} (e0 : 0 ≤ e) (e1 : e < 2 ^ ((m : Int)).toNat) {u v : Nat} (hu : u < m) (hv : v < m) (h : 0 ≤ rc ws (withp e u)) (hf : 0 ≤ farF ws m u v) :
    0 ≤ rc ws (withp e v) ∧ rc ws (withp e v) ≤ rc ws (withp e u) + farF ws m u v := by
  have hbb := both_bd (n := (m : Int)) (a := (u : Int)) (b := (v : Int)) (by omega) (by omega) (by omega) (by omega)
  have hw := withp_bd e0 e1 hu
  have hv' := withp_bd e0 e1 hv
  have hi := ior_bd (withp e u) (both u v) _ hw.2 hbb.2
  have hr := rc_both hn hu hv
  have hj := rc_join hn hw.1 hw.2 hbb.1 hbb.2 (p := (u : Int)) (by omega) (by rw [withp_bit e u (by omega)]; simp) (by rw [bit_both (by omega) (by omega) (by omega)]; simp) h (by omega)
  have hm := rc_mono hn hv'.1 hv'.2 hi.1 hi.2 (fun q hq hb => by
    rw [withp_bit e v hq] at hb
    rw [bit_ior, withp_bit e u hq, bit_both (by omega) (by omega) hq]
    simp only [Bool.or_eq_true, decide_eq_true_eq] at hb ⊢
    rcases hb with hb | hb
    · exact .inl (.inl hb)
    · exact .inr (.inr hb)) hj.1
  omega

/-! ### a root falls in two -/
theorem set_of : ∀ (len : Nat) (p : Nat → Bool), ∃ t : Int, 0 ≤ t ∧ t < 2 ^ len ∧ ∀ j : Nat, j < len → bit t j = p j
  | 0, p => ⟨0, by omega, by simp, fun j h => absurd h (by omega)⟩
  | len + 1, p => by
    obtain ⟨t, t0, t1, ht⟩ := set_of len p
    have e : (2 : Int) ^ (len + 1) = 2 ^ len * 2 := Int.pow_succ 2 len
    cases hp : p len
    · refine ⟨t, t0, by omega, fun j hj => ?_⟩
      by_cases h : j = len
      · subst h; rw [bit_big t0 t1 (by omega), hp]
      · exact ht j (by omega)
    · have hb := ior_bd t (2 ^ len) (len + 1) (by omega) (by have := (pow_bd (len : Int) len (by omega)).1; rw [Int.toNat_natCast] at this; omega)
      refine ⟨ior t (2 ^ len), hb.1, hb.2, fun j hj => ?_⟩
      rw [bit_ior, bit_pow len j (by omega)]
      by_cases h : j = len
      · subst h; rw [hp]; simp
      · rw [ht j (by omega)]
        have : decide ((j : Int) = len) = false := by simp; omega
        rw [this, Bool.or_false]
theorem cost_parts {ws : List Wy} {s a b : Int} (h : ∀ j : Nat, j < ws.length → bit s j = (bit a j || bit b j) ∧ (bit a j && bit b j) = false) : ∀ k, k ≤ ws.length → cost (ws.take k) s = cost (ws.take k) a + cost (ws.take k) b
  | 0, _ => by simp [cost, costFrom]
  | k + 1, hk => by
    obtain ⟨x, hx⟩ : ∃ x, ws[k]? = some x := ⟨_, List.getElem?_eq_getElem (by omega)⟩
    have ih := cost_parts h k (by omega)
    obtain ⟨h1, h2⟩ := h k (by omega)
    rw [cost_take ws _ k x hx, cost_take ws _ k x hx, cost_take ws _ k x hx, h1, ih]
    cases ha : bit a k <;> cases hb : bit b k
    · simp
    · simp; omega
    · simp; omega
    · rw [ha, hb] at h2; cases h2
theorem cost_two {ws : List Wy} {s a b : Int} (h : ∀ j : Nat, j < ws.length → bit s j = (bit a j || bit b j) ∧ (bit a j && bit b j) = false) : cost ws s = cost ws a + cost ws b := by
  have := cost_parts h ws.length (Nat.le_refl _)
  rwa [List.take_length] at this
/-- all ways of s that lie where y comes to, in t: t comes from y as far as s -/
theorem reach_in {n : Int} {ws : List Wy} (hn : NetIs n ws) {s t y q : Int} (hy : 0 ≤ y) (hy' : y < n) (hq : 0 ≤ q) (hs : ∀ (j : Nat) (z : Wy), ws[j]? = some z → bit s j = true → bit (reach ws s y) z.a = true → bit t j = true) (h : bit (reach ws s y) q = true) : bit (reach ws t y) q = true := by
  have R := reach_is (s := s) hn hy hy'
  have R' := reach_is (s := t) hn hy hy'
  have := R.least (fun q => bit (reach ws t y) q && bit (reach ws s y) q) (by rw [R.has, R'.has]; rfl) (fun j z hz hb => by
    have h1 := R.closed j z hz hb
    show (bit (reach ws t y) z.a && bit (reach ws s y) z.a) = (bit (reach ws t y) z.b && bit (reach ws s y) z.b)
    cases h2 : bit (reach ws s y) z.a
    · rw [← h1, h2]; simp
    · rw [← h1, h2, R'.closed j z hz (hs j z hz hb h2)]) q hq h
  simp only [Bool.and_eq_true] at this
  exact this.1
theorem joins_from {m : Nat} {ws : List Wy} (hn : NetIs (m : Int) ws) {s e : Int} {v : Nat} (e0 : 0 ≤ e) (e1 : e < 2 ^ ((m : Int)).toNat) (hv : v < m) : joins ws s (withp e v) = true ↔ ∀ q, 0 ≤ q → bit e q = true → bit (reach ws s v) q = true := by
  have hb := withp_bd e0 e1 hv
  rw [joins_iff hn hb.1 hb.2]
  constructor
  · intro h q hq hbq
    exact h v q (by omega) hq (by rw [withp_bit e v (by omega)]; simp) (by rw [withp_bit e v hq, hbq]; rfl)
  · intro h
    have key : ∀ q, 0 ≤ q → bit (withp e v) q = true → bit (reach ws s v) q = true := fun q hq hbq => by
      rw [withp_bit e v hq, Bool.or_eq_true, decide_eq_true_eq] at hbq
      rcases hbq with hbq | rfl
      · exact h q hq hbq
      · exact (reach_is hn hq (by omega)).has
    intro p q hp hq hbp hbq
    rw [reach_back hn (show (0 : Int) ≤ (v : Int) by omega) (by omega) hp (key p hp hbp)]
    exact key q hq hbq
theorem rc_none {n : Int} {ws : List Wy} (hn : NetIs n ws) : rc ws 0 = 0 := by
  have h := rc_le hn (s := 0) (e := 0) (Int.le_refl _) (full_bd ws.length hn.len).1 (joins_none ws 0)
  rw [cost_zero] at h
  omega
theorem rc_one {m : Nat} {ws : List Wy} (hn : NetIs (m : Int) ws) {v : Nat} (hv : v < m) : rc ws (withp 0 v) = 0 := by
  have h := rc_le hn (s := 0) (e := withp 0 v) (Int.le_refl _) (full_bd ws.length hn.len).1 ((joins_from hn (Int.le_refl _) (by have := pow_lt hv; omega) hv).2 fun q _ h => by rw [bit_zero_] at h; cases h)
  rw [cost_zero] at h
  omega
/-- e falls in two at some place, or is one end -/
def Falls (m : Nat) (ws : List Wy) (e : Int) (v : Nat) (c : Int) : Prop := ∃ u, u < m ∧ 0 ≤ farF ws m u v ∧
  (((∀ q, 0 ≤ q → bit e q = true → q = u) ∧ farF ws m u v ≤ c) ∨
   ∃ P, 0 < P ∧ P < 2 ^ ((m : Int)).toNat ∧ P ≠ e ∧ (∀ q, 0 ≤ q → bit P q = true → bit e q = true) ∧ 0 ≤ rc ws (withp P u) ∧ 0 ≤ rc ws (withp (idiff e P) u) ∧ rc ws (withp P u) + rc ws (withp (idiff e P) u) + farF ws m u v ≤ c)
theorem Falls.le {m : Nat} {ws : List Wy} {e : Int} {v : Nat} {c c' : Int} (h : Falls m ws e v c) (hc : c ≤ c') : Falls m ws e v c' := by
  obtain ⟨u, h1, h2, h3⟩ := h
  refine ⟨u, h1, h2, ?_⟩
  rcases h3 with ⟨h3, h4⟩ | ⟨P, p0, p1, p2, p3, p4, p5, p6⟩
  · exact .inl ⟨h3, by omega⟩
  · exact .inr ⟨P, p0, p1, p2, p3, p4, p5, by omega⟩
theorem Falls.over {m : Nat} {ws : List Wy} (hn : NetIs (m : Int) ws) {e : Int} {v y : Nat} {c d : Int} (hv : v < m) (hy : y < m) (h : Falls m ws e y c) (hd0 : 0 ≤ farF ws m y v) (hd : farF ws m y v ≤ d) : Falls m ws e v (c + d) := by
  have h6 := hn.hi
  obtain ⟨u, h1, h2, h3⟩ := h
  have ht := (farF_tri hn (show m ≤ 6 by omega)).tri u v y h1 hv hy h2 hd0
  refine ⟨u, h1, ht.1, ?_⟩
  rcases h3 with ⟨h3, h4⟩ | ⟨P, p0, p1, p2, p3, p4, p5, p6⟩
  · exact .inl ⟨h3, by omega⟩
  · exact .inr ⟨P, p0, p1, p2, p3, p4, p5, by omega⟩
theorem falls {m : Nat} {ws : List Wy} (hn : NetIs (m : Int) ws) {e : Int} (e0 : 0 ≤ e) (e1 : e < 2 ^ ((m : Int)).toNat) (he : e ≠ 0) : ∀ (d : Nat) (s : Int) (v : Nat), s.toNat < d → 0 ≤ s → s ≤ full ws.length → v < m → joins ws s (withp e v) = true → Falls m ws e v (cost ws s)
  | 0, _, _, h, _, _, _, _ => absurd h (by omega)
  | d + 1, s, v, hd, s0, s1, hv, hj => by
    have h6 := hn.hi
    have hl9 := hn.len
    have hfb := full_bd ws.length hl9
    have hcs := cost_bds hn s
    have hvv := farF_diag hn hv
    have hpv := pow_lt hv
    have hm6 := pow_bd (m : Int) 6 (by omega)
    rw [joins_from hn e0 e1 hv] at hj
    cases hbv : bit e v
    · -- v is no end: some way of s leads from it
      obtain ⟨k0, hk0, hbk0⟩ := set_some e0 e1 he
      have hex : ∃ (k : Nat) (x : Wy), ws[k]? = some x ∧ bit s k = true ∧ (x.a = v ∨ x.b = v) := by
        apply Classical.byContradiction
        intro hno
        have R := reach_is (s := s) hn (show (0 : Int) ≤ (v : Int) by omega) (by omega)
        have := R.least (fun q => decide (q = v)) (by simp) (fun k x hx hb => by
          have h1 : x.a ≠ v := fun e => hno ⟨k, x, hx, hb, .inl e⟩
          have h2 : x.b ≠ v := fun e => hno ⟨k, x, hx, hb, .inr e⟩
          simp [h1, h2]) k0 (by omega) (hj k0 (by omega) hbk0)
        have e : (k0 : Int) = v := by simpa using this
        rw [e, hbv] at hbk0; cases hbk0
      obtain ⟨k, x, hx, hbk, hends⟩ := hex
      have hxa := hn.at_ hx
      have hkl : k < ws.length := (List.getElem?_eq_some_iff.1 hx).1
      have hwl := farF_way hn hx
      -- its other place
      obtain ⟨y, hy, hends⟩ : ∃ y : Nat, y < m ∧ ((x.a = v ∧ x.b = y) ∨ (x.a = y ∧ x.b = v)) := by
        rcases hends with h | h
        · exact ⟨x.b.toNat, by omega, .inl ⟨h, by omega⟩⟩
        · exact ⟨x.a.toNat, by omega, .inr ⟨by omega, h⟩⟩
      have hyv : 0 ≤ farF ws m y v ∧ farF ws m y v ≤ x.c := by
        rcases hends with ⟨h1, h2⟩ | ⟨h1, h2⟩
        · have := hwl.2; rw [h1, h2, Int.toNat_natCast, Int.toNat_natCast] at this; exact this
        · have := hwl.1; rw [h1, h2, Int.toNat_natCast, Int.toNat_natCast] at this; exact this
      -- without it
      have hlb := fun j hj => lessb (u := s) (k := k) (j := j) s0 (by omega) (by omega) hj hbk
      have h2k := (hlb 0 (by omega)).2
      have hpk := (pow_bd (k : Int) 9 (by omega)).1
      rw [Int.toNat_natCast] at hpk
      obtain ⟨t, ht⟩ : ∃ t, s - 2 ^ k = t := ⟨_, rfl⟩
      have t0 : 0 ≤ t := by omega
      have t1 : t ≤ full ws.length := by omega
      have htd : t.toNat < d := by omega
      have htb : ∀ j : Nat, bit t j = (bit s j && !(j == k)) := fun j => by
        by_cases h9 : j < 9
        · rw [← ht]; exact (hlb j h9).1
        · have hs9 : s < 2 ^ 9 := by omega
          have ht9 : t < 2 ^ 9 := by omega
          rw [bit_big t0 ht9 (by omega), bit_big s0 hs9 (by omega)]; rfl
      have htk : bit t k = false := by rw [htb]; simp
      have hts : ior t (2 ^ k) = s := set_ext (ior_nn _ _) s0 fun q hq => by
        obtain ⟨j, rfl⟩ := Int.eq_ofNat_of_zero_le hq
        rw [bit_ior, bit_pow k j (by omega), htb]
        by_cases h : j = k
        · subst h; rw [hbk]; simp
        · have : decide ((j : Int) = k) = false := by simp; omega
          rw [this, Bool.or_false, show (j == k) = false from by simpa using h]; simp
      have hct : cost ws s = cost ws t + x.c := by
        have := cost_add hx htk
        rwa [hts] at this
      have hor : ∀ q, 0 ≤ q → bit (reach ws s v) q = true → bit (reach ws t v) q = true ∨ bit (reach ws t y) q = true := fun q hq h => by
        have h := re_add (t := t) (p := (v : Int)) hn hx (by omega) (by omega) hq (by rw [hts]; exact h)
        rcases hends with ⟨h1, h2⟩ | ⟨h1, h2⟩
        · rw [h1, h2] at h
          rcases h with h | ⟨_, h⟩ | ⟨_, h⟩
          · exact .inl h
          · exact .inr h
          · exact .inl h
        · rw [h1, h2] at h
          rcases h with h | ⟨_, h⟩ | ⟨_, h⟩
          · exact .inl h
          · exact .inl h
          · exact .inr h
      by_cases hP1 : ∀ q, 0 ≤ q → bit e q = true → bit (reach ws t y) q = true
      · have ih := falls hn e0 e1 he d t y htd t0 t1 hy ((joins_from hn e0 e1 hy).2 hP1)
        have := ih.over hn hv hy hyv.1 hyv.2
        rwa [← hct] at this
      · by_cases hP0 : ∀ q, 0 ≤ q → bit e q = true → bit (reach ws t y) q = false
        · have ih := falls hn e0 e1 he d t v htd t0 t1 hv ((joins_from hn e0 e1 hv).2 fun q hq hb => by
            rcases hor q hq (hj q hq hb) with h | h
            · exact h
            · rw [hP0 q hq hb] at h; cases h)
          exact ih.le (by omega)
        · -- both places have ends
          obtain ⟨q1, hq1, hb1, hn1⟩ : ∃ q, 0 ≤ q ∧ bit e q = true ∧ bit (reach ws t y) q = false := by
            apply Classical.byContradiction
            intro hno
            exact hP1 fun q hq hb => by
              cases h : bit (reach ws t y) q
              · exact absurd ⟨q, hq, hb, h⟩ hno
              · rfl
          obtain ⟨q2, hq2, hb2, hn2⟩ : ∃ q, 0 ≤ q ∧ bit e q = true ∧ bit (reach ws t y) q = true := by
            apply Classical.byContradiction
            intro hno
            exact hP0 fun q hq hb => by
              cases h : bit (reach ws t y) q
              · rfl
              · exact absurd ⟨q, hq, hb, h⟩ hno
          have hv1 : bit (reach ws t v) q1 = true := by
            rcases hor q1 hq1 (hj q1 hq1 hb1) with h | h
            · exact h
            · rw [hn1] at h; cases h
          have hsep : ∀ q, 0 ≤ q → bit (reach ws t v) q = true → bit (reach ws t y) q = false := fun q hq h => by
            cases hyq : bit (reach ws t y) q
            · rfl
            · have h1 := reach_back hn (show (0 : Int) ≤ (v : Int) by omega) (by omega) hq h
              have h2 := reach_back hn (show (0 : Int) ≤ (y : Int) by omega) (by omega) hq hyq
              rw [← h1, h2, hn1] at hv1; cases hv1
          obtain ⟨P, hP⟩ : ∃ P, iand e (reach ws t y) = P := ⟨_, rfl⟩
          have hPb : ∀ q, bit P q = (bit e q && bit (reach ws t y) q) := fun q => by rw [← hP, bit_iand]
          have hPd : 0 ≤ P ∧ P ≤ e := by
            have := iand_bd2 (reach ws t y) e e0
            rw [← hP]
            have hc : iand e (reach ws t y) = iand (reach ws t y) e := by unfold iand; rw [Nat.and_comm]
            rw [hc]; exact this
          have hP0 : P ≠ 0 := fun h => by
            have := hPb q2
            rw [h, bit_zero_, hb2, hn2] at this; cases this
          have hPe : P ≠ e := fun h => by
            have := hPb q1
            rw [h, hb1, hn1] at this; cases this
          have hQd := idiff_bd e P e0
          have hQb : ∀ q, bit (idiff e P) q = (bit e q && !bit (reach ws t y) q) := fun q => by
            rw [bit_idiff, hPb]
            cases bit e q <;> simp
          -- the ways on both sides
          obtain ⟨sx, x0, x1, hxb⟩ := set_of ws.length fun j => bit t j && (match ws[j]? with | some z => bit (reach ws t y) z.a | none => false)
          obtain ⟨sv, v0, v1, hvb⟩ := set_of ws.length fun j => bit t j && (match ws[j]? with | some z => !bit (reach ws t y) z.a | none => false)
          have hsum : cost ws t = cost ws sx + cost ws sv := cost_two fun j hj => by
            obtain ⟨z, hz⟩ : ∃ z, ws[j]? = some z := ⟨_, List.getElem?_eq_getElem hj⟩
            rw [hxb j hj, hvb j hj, hz]
            cases bit t j <;> cases bit (reach ws t y) z.a <;> simp
          have hxk : bit sx k = false := by rw [hxb k hkl, htk]; rfl
          have hpf : (2 : Int) ^ k ≤ full ws.length := by omega
          have hi := ior_full (len := ws.length) (s := sx) (t := 2 ^ k) x0 ((full_lt _ _).2 x1) (by omega) hpf
          have hcx := cost_add hx hxk
          have hyk : bit (reach ws (ior sx (2 ^ k)) v) y = true := by
            have hbk' : bit (ior sx (2 ^ k)) k = true := by rw [bit_ior, bit_pow k k (by omega)]; simp
            have h := re_way hn hx hbk'
            rcases hends with ⟨h1, h2⟩ | ⟨h1, h2⟩
            · rw [h1, h2] at h; exact h
            · rw [h1, h2] at h; exact re_sym hn (by omega) (by omega) (by omega) h
          have j1 : joins ws (ior sx (2 ^ k)) (withp P v) = true := (joins_from hn hPd.1 (by omega) hv).2 fun q hq hb => by
            rw [hPb, Bool.and_eq_true] at hb
            refine re_trans hn (show (0 : Int) ≤ (v : Int) by omega) (by omega) (show (0 : Int) ≤ (y : Int) by omega) hyk ?_
            refine re_mono hn (show (0 : Int) ≤ (y : Int) by omega) (by omega) hq (fun j hj hb => by rw [bit_ior, hb]; rfl) ?_
            refine reach_in hn (s := t) (by omega) (by omega) hq (fun j z hz hbt hza => ?_) hb.2
            rw [hxb j (List.getElem?_eq_some_iff.1 hz).1, hz]
            simp only [hbt, hza, Bool.and_self]
          have j2 : joins ws sv (withp (idiff e P) v) = true := (joins_from hn hQd.1 (by omega) hv).2 fun q hq hb => by
            rw [hQb, Bool.and_eq_true] at hb
            have hqv : bit (reach ws t v) q = true := by
              rcases hor q hq (hj q hq hb.1) with h | h
              · exact h
              · rw [h] at hb; cases hb.2
            refine reach_in hn (s := t) (by omega) (by omega) hq (fun j z hz hbt hza => ?_) hqv
            rw [hvb j (List.getElem?_eq_some_iff.1 hz).1, hz]
            simp only [hbt, hsep z.a (hn.at_ hz).1 hza, Bool.not_false, Bool.and_self]
          have r1 := rc_le hn hi.1 hi.2 j1
          have r2 := rc_le hn v0 ((full_lt _ _).2 v1) j2
          exact ⟨v, hv, by omega, .inr ⟨P, by omega, by omega, hPe, fun q _ h => by rw [hPb, Bool.and_eq_true] at h; exact h.1, r1.1, r2.1, by omega⟩⟩
    · -- v is an end
      by_cases hone : ∀ q, 0 ≤ q → bit e q = true → q = v
      · exact ⟨v, hv, by omega, .inl ⟨hone, by omega⟩⟩
      · obtain ⟨q1, hq1, hb1, hn1⟩ : ∃ q, 0 ≤ q ∧ bit e q = true ∧ q ≠ v := by
          apply Classical.byContradiction
          intro hno
          exact hone fun q hq hb => Classical.byContradiction fun h => hno ⟨q, hq, hb, h⟩
        have hne : (2 : Int) ^ v ≠ e := fun h => by
          have := bit_pow v q1 hq1
          rw [h, hb1] at this
          have : q1 = v := by simpa using this.symm
          exact hn1 this
        have hP1 : withp ((2 : Int) ^ v) v = withp 0 v := set_ext (ior_nn _ _) (ior_nn _ _) fun q hq => by
          rw [withp_bit _ v hq, withp_bit _ v hq, bit_pow v q hq, bit_zero_]; simp
        have hQ1 : withp (idiff e (2 ^ v)) v = e := set_ext (ior_nn _ _) e0 fun q hq => by
          rw [withp_bit _ v hq, bit_idiff, bit_pow v q hq]
          by_cases h : q = v
          · subst h; rw [hbv]; simp
          · simp [h]
        have hE : joins ws s e = true := by
          have := (joins_from hn e0 e1 hv).2 hj
          rwa [withp_has e0 hbv] at this
        have r2 := rc_le hn s0 s1 hE
        have r1 := rc_one hn hv
        refine ⟨v, hv, by omega, .inr ⟨2 ^ v, hpv.1, hpv.2, hne, fun q hq h => ?_, by rw [hP1]; omega, by rw [hQ1]; omega, by rw [hP1, hQ1]; omega⟩⟩
        rw [bit_pow v q hq] at h
        have : q = v := by simpa using h
        subst this; exact hbv
/-- what is told falls in two, or has at most one end -/
theorem rc_falls {m : Nat} {ws : List Wy} (hn : NetIs (m : Int) ws) {e : Int} (e0 : 0 ≤ e) (e1 : e < 2 ^ ((m : Int)).toNat) {v : Nat} (hv : v < m) (h : 0 ≤ rc ws (withp e v)) : Falls m ws e v (rc ws (withp e v)) := by
  by_cases he : e = 0
  · subst he
    have h1 := rc_one hn hv
    have h2 := farF_diag hn hv
    exact ⟨v, hv, by omega, .inl ⟨fun q _ h => (by rw [bit_zero_] at h; cases h), by omega⟩⟩
  · obtain ⟨s, s0, s1, hj, hc⟩ := rc_set hn h
    rw [← hc]
    exact falls hn e0 e1 he (s.toNat + 1) s v (by omega) s0 s1 hv hj
end Go.Proofs.Ytbbomajgmgmigaa
