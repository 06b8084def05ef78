/- The table of least costs: the same both ways, 0 for each place itself, told just for places that all ways join. Plain mathematics. Roots together: a root for all ends of two sets with an end in common costs at most both. Plain mathematics. The least cost of a set of ways that joins some places: what tables over sets of ends keep to, and that they come to it. Plain mathematics. The table over all sets of ends: what its cells keep to while it is made, and that they come to the costs of roots. Plain mathematics. Tables of numbers with more rows than columns, row by row; lower of the program on them. The table over sets of ends, of the program. FootTable of the program: firstFeet, and the whole table. -/
import Derived.Test.YtbbomajgmgmigaaDoorPaM
import Derived.Test.YtbbomajgmgmigaaDoorRN
import Derived.Test.YtbbomajgmgmigaaDoorDU
import Derived.Test.YtbbomajgmgmigaaDoorTa
import Derived.Test.YtbbomajgmgmigaaDoorTc
set_option linter.unusedSimpArgs false
set_option linter.unusedVariables false
namespace Go.Proofs.YtbbomajgmgmigaaDoor
open Go.RowKit

def GeM (f : Nat → Nat → Int) : Prop := ∀ i j, -1 ≤ f i j
theorem lowF_ge {f : Nat → Nat → Int} {a b : Nat} {c : Int} (h : GeM f) (hc : -1 ≤ c) : GeM (lowF f a b c) := fun i j => by
  unfold lowF
  split
  · exact hc
  · exact h i j
theorem shF_ge {f : Nat → Nat → Int} {a o b : Nat} (h : GeM f) : GeM (shF f a o b) := by
  unfold shF
  split
  · rename_i hc; exact lowF_ge h (by omega)
  · exact h
theorem fwB_ge {f : Nat → Nat → Int} {o a : Nat} (h : GeM f) : ∀ b, GeM (fwB f o a b)
  | 0 => h
  | b + 1 => shF_ge (fwB_ge h b)
theorem fwA_ge {f : Nat → Nat → Int} {o m : Nat} (h : GeM f) : ∀ a, GeM (fwA f o m a)
  | 0 => h
  | a + 1 => fwB_ge (fwA_ge h a) m
theorem fwO_ge {f : Nat → Nat → Int} {m : Nat} (h : GeM f) : ∀ o, GeM (fwO f m o)
  | 0 => h
  | o + 1 => fwA_ge (fwO_ge h o) m
theorem nxTo_ge {n : Int} {ws : List Wy} (hn : NetIs n ws) : ∀ k, GeM (nxTo ws k)
  | 0 => fun i j => by simp only [nxTo, nF0]; split <;> omega
  | k + 1 => by
    have ih := nxTo_ge hn k
    cases hx : ws[k]? with
    | none => rw [nxTo, hx]; exact ih
    | some x =>
      have hxa := hn.at_ hx
      rw [nxTo_step hx]
      exact lowF_ge (lowF_ge ih (by omega)) (by omega)
theorem farF_ge {n : Int} {ws : List Wy} (hn : NetIs n ws) (m : Nat) : GeM (farF ws m) := fwO_ge (nxTo_ge hn ws.length) m
theorem full_all (len : Nat) (k : Nat) (h : k < len) : bit (full len) k = true := by
  unfold bit full
  have e : ((2 : Int) ^ len - 1).toNat = 2 ^ len - 1 := by
    have e1 : ((2 : Int) ^ len) = ((2 ^ len : Nat) : Int) := by simp
    have : 1 ≤ 2 ^ len := Nat.one_le_two_pow
    omega
  rw [e, Int.toNat_natCast, Nat.testBit_two_pow_sub_one]
  simpa using h
theorem farF_join {m : Nat} {ws : List Wy} (hn : NetIs (m : Int) ws) {a b : Nat} (ha : a < m) (hb : b < m) : 0 ≤ farF ws m a b ↔ bit (reach ws (full ws.length) a) b = true := by
  have h6 := hn.hi
  constructor
  · intro h
    obtain ⟨s, s0, s1, s2, s3⟩ := rep_fw hn a b ha hb h
    refine re_mono hn (by omega) (by omega) (by omega) (fun k hk hb => ?_) s2
    obtain ⟨j, rfl⟩ := Int.eq_ofNat_of_zero_le hk
    have := set_sub s0 ((full_lt ws.length s).1 s1) hb
    exact full_all _ _ (by omega)
  · intro h
    exact (far_le hn ha (farF_tri hn (by omega)) (fun k x hx => farF_way hn hx) h).1
theorem farF_sym {m : Nat} {ws : List Wy} (hn : NetIs (m : Int) ws) {a b : Nat} (ha : a < m) (hb : b < m) : farF ws m a b = farF ws m b a := by
  have h6 := hn.hi
  have key : ∀ a b : Nat, a < m → b < m → 0 ≤ farF ws m a b → 0 ≤ farF ws m b a ∧ farF ws m b a ≤ farF ws m a b := fun a b ha hb h => by
    obtain ⟨s, s0, s1, s2, s3⟩ := rep_fw hn a b ha hb h
    have h2 := far_le hn hb (farF_tri hn (by omega)) (fun k x hx => farF_way hn hx) (re_sym hn (by omega) (by omega) (by omega) s2)
    omega
  have g1 := farF_ge hn m a b
  have g2 := farF_ge hn m b a
  by_cases h : 0 ≤ farF ws m a b
  · have k1 := key a b ha hb h
    have k2 := key b a hb ha k1.1
    omega
  · by_cases h' : 0 ≤ farF ws m b a
    · have k2 := key b a hb ha h'
      omega
    · omega
theorem farF_diag {m : Nat} {ws : List Wy} (hn : NetIs (m : Int) ws) {a : Nat} (ha : a < m) : farF ws m a a = 0 := by
  have h6 := hn.hi
  exact (fw_small hn (m := m) (o := m) (by omega) (Nat.le_refl _)).diag a ha
theorem farF_bd {m : Nat} {ws : List Wy} (hn : NetIs (m : Int) ws) {a b : Nat} (ha : a < m) (hb : b < m) : farF ws m a b ≤ 1000 := by
  have h6 := hn.hi
  exact (fw_small hn (m := m) (o := m) (by omega) (Nat.le_refl _)).bd a b ha hb
end Go.Proofs.YtbbomajgmgmigaaDoor
namespace Go.Proofs.YtbbomajgmgmigaaDoor
open Go.RowKit

theorem low_bit_all : ∀ e : Fin 64, e.val ≠ 0 → ∃ j : Fin 6, bits .and .i64 (e.val : Int) (-(e.val : Int)) = 2 ^ j.val ∧ e.val.testBit j.val = true := by decide +kernel
theorem low_bit {e : Int} (h0 : 0 < e) (h1 : e < 64) : ∃ j : Nat, j < 6 ∧ bits .and .i64 e (-e) = 2 ^ j ∧ bit e j = true := by
  obtain ⟨j, h2, h3⟩ := low_bit_all ⟨e.toNat, by omega⟩ (by simp only; omega)
  simp only [Int.toNat_of_nonneg (show 0 ≤ e by omega)] at h2
  refine ⟨j.val, j.isLt, h2, ?_⟩
  unfold bit
  rw [Int.toNat_natCast]
  exact h3
/-- sets that join e and f, which have an end in common, join together all of both -/
theorem joins_union {n : Int} {ws : List Wy} (hn : NetIs n ws) {s t e f p : Int} (e0 : 0 ≤ e) (e1 : e < 2 ^ n.toNat) (f0 : 0 ≤ f) (f1 : f < 2 ^ n.toNat) (hp : 0 ≤ p) (hpe : bit e p = true) (hpf : bit f p = true) (hs : joins ws s e = true) (ht : joins ws t f = true) :
    joins ws (ior s t) (ior e f) = true := by
  have hpn : p < n := by have := set_sub e0 e1 hpe; have := hn.lo; omega
  have hS := (joins_iff hn e0 e1).1 hs
  have hT := (joins_iff hn f0 f1).1 ht
  have hb := ior_bd e f n.toNat e1 f1
  have key : ∀ q, 0 ≤ q → bit (ior e f) q = true → bit (reach ws (ior s t) p) q = true := fun q hq h => by
    rw [bit_ior, Bool.or_eq_true] at h
    rcases h with h | h
    · exact re_mono hn hp hpn hq (fun k _ hb => by rw [bit_ior, hb]; rfl) (hS p q hp hq hpe h)
    · exact re_mono hn hp hpn hq (fun k _ hb => by rw [bit_ior, hb]; simp) (hT p q hp hq hpf h)
  refine (joins_iff hn hb.1 hb.2).2 fun a b ha hb hba hbb => ?_
  have h1 := key a ha hba
  rw [reach_back hn hp hpn ha h1]
  exact key b hb hbb
theorem root_join {n : Int} {ws : List Wy} (hn : NetIs n ws) {e f p : Int} (e0 : 0 ≤ e) (e1 : e < 2 ^ n.toNat) (f0 : 0 ≤ f) (f1 : f < 2 ^ n.toNat) (hp : 0 ≤ p) (hpe : bit e p = true) (hpf : bit f p = true) (he : 0 ≤ best ws e) :
    (best ws f < 0 ∧ best ws (ior e f) < 0) ∨ (0 ≤ best ws f ∧ 0 ≤ best ws (ior e f) ∧ cost ws (best ws (ior e f)) ≤ cost ws (best ws e) + cost ws (best ws f)) := by
  have hb := ior_bd e f n.toNat e1 f1
  by_cases hf : best ws f < 0
  · refine .inl ⟨hf, ?_⟩
    apply Classical.byContradiction
    intro h
    have hj := best_joins (ws := ws) (e := ior e f) (by omega)
    have hj2 := joins_less_ends hn hb.1 hb.2 f0 f1 (fun q _ h => by rw [bit_ior, h]; simp) hj
    have := (best_cost_le hn (by omega) (best_full ws (ior e f)) hj2).1
    omega
  · have hj := joins_union hn e0 e1 f0 f1 hp hpe hpf (best_joins he) (best_joins (ws := ws) (e := f) (by omega))
    have hi := ior_full he (best_full ws e) (show 0 ≤ best ws f by omega) (best_full ws f)
    have h := best_cost_le hn hi.1 hi.2 hj
    have hc := cost_union hn (best ws e) (best ws f)
    exact .inr ⟨by omega, h.1, by omega⟩
theorem rootCost_val {n : Int} {ws : List Wy} {e : Int} (hn : netOk n ws = true) (he : plOk n e = true) : rootCost n ws e = if best ws e < 0 then -1 else cost ws (best ws e) := rootCost_is (by rw [hn, he]; rfl)
theorem plOk_mk {n e : Int} (h0 : 0 ≤ e) (h1 : e < 2 ^ n.toNat) : plOk n e = true := by unfold plOk; simp; omega
end Go.Proofs.YtbbomajgmgmigaaDoor
namespace Go.Proofs.YtbbomajgmgmigaaDoor
open Go.RowKit

theorem ior_nn (a b : Int) : 0 ≤ ior a b := by unfold ior; omega
noncomputable def rc (ws : List Wy) (e : Int) : Int := if best ws e < 0 then -1 else cost ws (best ws e)
theorem rc_ge {n : Int} {ws : List Wy} (hn : NetIs n ws) (e : Int) : -1 ≤ rc ws e ∧ rc ws e ≤ 81 := by
  have := cost_bds hn (best ws e)
  unfold rc; split <;> omega
theorem rc_le {n : Int} {ws : List Wy} (hn : NetIs n ws) {s e : Int} (s0 : 0 ≤ s) (s1 : s ≤ full ws.length) (hj : joins ws s e = true) : 0 ≤ rc ws e ∧ rc ws e ≤ cost ws s := by
  have h := best_cost_le hn s0 s1 hj
  have := cost_bds hn (best ws e)
  unfold rc; rw [if_neg (by omega)]; omega
theorem rc_set {n : Int} {ws : List Wy} (hn : NetIs n ws) {e : Int} (h : 0 ≤ rc ws e) : ∃ s, 0 ≤ s ∧ s ≤ full ws.length ∧ joins ws s e = true ∧ cost ws s = rc ws e := by
  unfold rc at h ⊢
  by_cases hb : best ws e < 0
  · rw [if_pos hb] at h; omega
  · rw [if_neg hb]
    exact ⟨best ws e, by omega, best_full ws e, best_joins (by omega), rfl⟩
theorem rootCost_rc {n : Int} {ws : List Wy} {e : Int} (hn : netOk n ws = true) (he : plOk n e = true) : rootCost n ws e = rc ws e := rootCost_val hn he
theorem rc_told {n : Int} {ws : List Wy} (hn : NetIs n ws) {e : Int} (e0 : 0 ≤ e) (e1 : e < 2 ^ n.toNat) : 0 ≤ rc ws e ↔ joins ws (full ws.length) e = true := by
  have hfb := full_bd ws.length hn.len
  constructor
  · intro h
    obtain ⟨s, s0, s1, hj, -⟩ := rc_set hn h
    refine joins_mono hn e0 e1 (fun q hq hb => ?_) hj
    have hlt := bit_in s0 s1 hb
    obtain ⟨j, rfl⟩ := Int.eq_ofNat_of_zero_le hq
    exact full_all _ _ (by omega)
  · intro h
    exact (rc_le hn hfb.1 (Int.le_refl _) h).1
theorem rc_mono {n : Int} {ws : List Wy} (hn : NetIs n ws) {e f : Int} (e0 : 0 ≤ e) (e1 : e < 2 ^ n.toNat) (f0 : 0 ≤ f) (f1 : f < 2 ^ n.toNat) (hs : ∀ q, 0 ≤ q → bit e q = true → bit f q = true) (h : 0 ≤ rc ws f) : 0 ≤ rc ws e ∧ rc ws e ≤ rc ws f := by
  obtain ⟨s, s0, s1, hj, hc⟩ := rc_set hn h
  have := rc_le hn s0 s1 (joins_less_ends hn f0 f1 e0 e1 hs hj)
  omega
theorem rc_both {m : Nat} {ws : List Wy} (hn : NetIs (m : Int) ws) {a b : Nat} (ha : a < m) (hb : b < m) : rc ws (both a b) = farF ws m a b := by
  have hbb := both_bd (n := (m : Int)) (a := (a : Int)) (b := (b : Int)) (by omega) (by omega) (by omega) (by omega)
  have ht := rc_told hn hbb.1 hbb.2
  rw [joins_both hn (by omega) (by omega) (by omega) (by omega), ← farF_join hn ha hb] at ht
  have h1 := rc_ge hn (both a b)
  have h2 := farF_ge hn m a b
  unfold rc at ht h1 ⊢
  by_cases hx : best ws (both a b) < 0
  · rw [if_pos hx] at ht h1 ⊢
    have : ¬ 0 ≤ farF ws m a b := fun h => by have := ht.2 h; omega
    omega
  · rw [if_neg hx]; exact best_cost hn ha hb (by omega)
theorem rc_join {n : Int} {ws : List Wy} (hn : NetIs n ws) {e f p : Int} (e0 : 0 ≤ e) (e1 : e < 2 ^ n.toNat) (f0 : 0 ≤ f) (f1 : f < 2 ^ n.toNat) (hp : 0 ≤ p) (hpe : bit e p = true) (hpf : bit f p = true) (he : 0 ≤ rc ws e) (hf : 0 ≤ rc ws f) : 0 ≤ rc ws (ior e f) ∧ rc ws (ior e f) ≤ rc ws e + rc ws f := by
  obtain ⟨s, s0, s1, hs, hcs⟩ := rc_set hn he
  obtain ⟨t, t0, t1, ht, hct⟩ := rc_set hn hf
  have hi := ior_full s0 s1 t0 t1
  have h := rc_le hn hi.1 hi.2 (joins_union hn e0 e1 f0 f1 hp hpe hpf hs ht)
  have := cost_union hn s t
  omega
/-- a place more -/
def withp (e : Int) (v : Nat) : Int := ior e (2 ^ v)
theorem withp_bit (e : Int) (v : Nat) {q : Int} (hq : 0 ≤ q) : bit (withp e v) q = (bit e q || decide (q = v)) := by
  unfold withp; rw [bit_ior, bit_pow v q hq]
theorem pow_lt {m v : Nat} (hv : v < m) : 0 < (2 : Int) ^ v ∧ (2 : Int) ^ v < 2 ^ ((m : Int)).toNat := by
  rw [Int.toNat_natCast]
  have h := Nat.pow_lt_pow_right (a := 2) (by omega) hv
  have e1 : ((2 : Int) ^ v) = ((2 ^ v : Nat) : Int) := by simp
  have e2 : ((2 : Int) ^ m) = ((2 ^ m : Nat) : Int) := by simp
  have := Nat.one_le_two_pow (n := v)
  omega
theorem withp_bd {m : Nat} {e : Int} {v : Nat} (e0 : 0 ≤ e) (e1 : e < 2 ^ ((m : Int)).toNat) (hv : v < m) : 0 ≤ withp e v ∧ withp e v < 2 ^ ((m : Int)).toNat := ior_bd _ _ _ e1 (pow_lt hv).2
theorem withp_has {e : Int} {v : Nat} (e0 : 0 ≤ e) (h : bit e v = true) : withp e v = e := by
  refine set_ext (ior_nn _ _) e0 fun q hq => ?_
  rw [withp_bit e v hq]
  by_cases hqv : q = v
  · subst hqv; rw [h]; rfl
  · simp [hqv]
theorem withp_both {e : Int} {u v : Nat} (h : bit e u = true) : ior e (both u v) = withp e v := by
  refine set_ext (ior_nn _ _) (ior_nn _ _) fun q hq => ?_
  rw [withp_bit e v hq, bit_ior, bit_both (by omega) (by omega) hq]
  by_cases hqu : q = u
  · subst hqu; rw [h]; rfl
  · simp [hqu]
theorem rc_grow {m : Nat} {ws : List Wy} (hn : NetIs (m : Int) ws) {e : Int} (e0 : 0 ≤ e) (e1 : e < 2 ^ ((m : Int)).toNat) {u v : Nat} (hu : u < m) (hv : v < m) (h : 0 ≤ rc ws (withp e u)) (hf : 0 ≤ farF ws m u v) :
    0 ≤ rc ws (withp e v) ∧ rc ws (withp e v) ≤ rc ws (withp e u) + farF ws m u v := by
  have hbb := both_bd (n := (m : Int)) (a := (u : Int)) (b := (v : Int)) (by omega) (by omega) (by omega) (by omega)
  have hw := withp_bd e0 e1 hu
  have hv' := withp_bd e0 e1 hv
  have hi := ior_bd (withp e u) (both u v) _ hw.2 hbb.2
  have hr := rc_both hn hu hv
  have hj := rc_join hn hw.1 hw.2 hbb.1 hbb.2 (p := (u : Int)) (by omega) (by rw [withp_bit e u (by omega)]; simp) (by rw [bit_both (by omega) (by omega) (by omega)]; simp) h (by omega)
  have hm := rc_mono hn hv'.1 hv'.2 hi.1 hi.2 (fun q hq hb => by
    rw [withp_bit e v hq] at hb
    rw [bit_ior, withp_bit e u hq, bit_both (by omega) (by omega) hq]
    simp only [Bool.or_eq_true, decide_eq_true_eq] at hb ⊢
    rcases hb with hb | hb
    · exact .inl (.inl hb)
    · exact .inr (.inr hb)) hj.1
  omega

/-! ### a root falls in two -/
theorem set_of : ∀ (len : Nat) (p : Nat → Bool), ∃ t : Int, 0 ≤ t ∧ t < 2 ^ len ∧ ∀ j : Nat, j < len → bit t j = p j
  | 0, p => ⟨0, by omega, by simp, fun j h => absurd h (by omega)⟩
  | len + 1, p => by
    obtain ⟨t, t0, t1, ht⟩ := set_of len p
    have e : (2 : Int) ^ (len + 1) = 2 ^ len * 2 := Int.pow_succ 2 len
    cases hp : p len
    · refine ⟨t, t0, by omega, fun j hj => ?_⟩
      by_cases h : j = len
      · subst h; rw [bit_big t0 t1 (by omega), hp]
      · exact ht j (by omega)
    · have hb := ior_bd t (2 ^ len) (len + 1) (by omega) (by have := (pow_bd (len : Int) len (by omega)).1; rw [Int.toNat_natCast] at this; omega)
      refine ⟨ior t (2 ^ len), hb.1, hb.2, fun j hj => ?_⟩
      rw [bit_ior, bit_pow len j (by omega)]
      by_cases h : j = len
      · subst h; rw [hp]; simp
      · rw [ht j (by omega)]
        have : decide ((j : Int) = len) = false := by simp; omega
        rw [this, Bool.or_false]
theorem cost_parts {ws : List Wy} {s a b : Int} (h : ∀ j : Nat, j < ws.length → bit s j = (bit a j || bit b j) ∧ (bit a j && bit b j) = false) : ∀ k, k ≤ ws.length → cost (ws.take k) s = cost (ws.take k) a + cost (ws.take k) b
  | 0, _ => by simp [cost, costFrom]
  | k + 1, hk => by
    obtain ⟨x, hx⟩ : ∃ x, ws[k]? = some x := ⟨_, List.getElem?_eq_getElem (by omega)⟩
    have ih := cost_parts h k (by omega)
    obtain ⟨h1, h2⟩ := h k (by omega)
    rw [cost_take ws _ k x hx, cost_take ws _ k x hx, cost_take ws _ k x hx, h1, ih]
    cases ha : bit a k <;> cases hb : bit b k
    · simp
    · simp; omega
    · simp; omega
    · rw [ha, hb] at h2; cases h2
theorem cost_two {ws : List Wy} {s a b : Int} (h : ∀ j : Nat, j < ws.length → bit s j = (bit a j || bit b j) ∧ (bit a j && bit b j) = false) : cost ws s = cost ws a + cost ws b := by
  have := cost_parts h ws.length (Nat.le_refl _)
  rwa [List.take_length] at this
/-- all ways of s that lie where y comes to, in t: t comes from y as far as s -/
theorem reach_in {n : Int} {ws : List Wy} (hn : NetIs n ws) {s t y q : Int} (hy : 0 ≤ y) (hy' : y < n) (hq : 0 ≤ q) (hs : ∀ (j : Nat) (z : Wy), ws[j]? = some z → bit s j = true → bit (reach ws s y) z.a = true → bit t j = true) (h : bit (reach ws s y) q = true) : bit (reach ws t y) q = true := by
  have R := reach_is (s := s) hn hy hy'
  have R' := reach_is (s := t) hn hy hy'
  have := R.least (fun q => bit (reach ws t y) q && bit (reach ws s y) q) (by rw [R.has, R'.has]; rfl) (fun j z hz hb => by
    have h1 := R.closed j z hz hb
    show (bit (reach ws t y) z.a && bit (reach ws s y) z.a) = (bit (reach ws t y) z.b && bit (reach ws s y) z.b)
    cases h2 : bit (reach ws s y) z.a
    · rw [← h1, h2]; simp
    · rw [← h1, h2, R'.closed j z hz (hs j z hz hb h2)]) q hq h
  simp only [Bool.and_eq_true] at this
  exact this.1
theorem joins_from {m : Nat} {ws : List Wy} (hn : NetIs (m : Int) ws) {s e : Int} {v : Nat} (e0 : 0 ≤ e) (e1 : e < 2 ^ ((m : Int)).toNat) (hv : v < m) : joins ws s (withp e v) = true ↔ ∀ q, 0 ≤ q → bit e q = true → bit (reach ws s v) q = true := by
  have hb := withp_bd e0 e1 hv
  rw [joins_iff hn hb.1 hb.2]
  constructor
  · intro h q hq hbq
    exact h v q (by omega) hq (by rw [withp_bit e v (by omega)]; simp) (by rw [withp_bit e v hq, hbq]; rfl)
  · intro h
    have key : ∀ q, 0 ≤ q → bit (withp e v) q = true → bit (reach ws s v) q = true := fun q hq hbq => by
      rw [withp_bit e v hq, Bool.or_eq_true, decide_eq_true_eq] at hbq
      rcases hbq with hbq | rfl
      · exact h q hq hbq
      · exact (reach_is hn hq (by omega)).has
    intro p q hp hq hbp hbq
    rw [reach_back hn (show (0 : Int) ≤ (v : Int) by omega) (by omega) hp (key p hp hbp)]
    exact key q hq hbq
theorem rc_none {n : Int} {ws : List Wy} (hn : NetIs n ws) : rc ws 0 = 0 := by
  have h := rc_le hn (s := 0) (e := 0) (Int.le_refl _) (full_bd ws.length hn.len).1 (joins_none ws 0)
  rw [cost_zero] at h
  omega
theorem rc_one {m : Nat} {ws : List Wy} (hn : NetIs (m : Int) ws) {v : Nat} (hv : v < m) : rc ws (withp 0 v) = 0 := by
  have h := rc_le hn (s := 0) (e := withp 0 v) (Int.le_refl _) (full_bd ws.length hn.len).1 ((joins_from hn (Int.le_refl _) (by have := pow_lt hv; omega) hv).2 fun q _ h => by rw [bit_zero_] at h; cases h)
  rw [cost_zero] at h
  omega
/-- e falls in two at some place, or is one end -/
def Falls (m : Nat) (ws : List Wy) (e : Int) (v : Nat) (c : Int) : Prop := ∃ u, u < m ∧ 0 ≤ farF ws m u v ∧
  (((∀ q, 0 ≤ q → bit e q = true → q = u) ∧ farF ws m u v ≤ c) ∨
   ∃ P, 0 < P ∧ P < 2 ^ ((m : Int)).toNat ∧ P ≠ e ∧ (∀ q, 0 ≤ q → bit P q = true → bit e q = true) ∧ 0 ≤ rc ws (withp P u) ∧ 0 ≤ rc ws (withp (idiff e P) u) ∧ rc ws (withp P u) + rc ws (withp (idiff e P) u) + farF ws m u v ≤ c)
theorem Falls.le {m : Nat} {ws : List Wy} {e : Int} {v : Nat} {c c' : Int} (h : Falls m ws e v c) (hc : c ≤ c') : Falls m ws e v c' := by
  obtain ⟨u, h1, h2, h3⟩ := h
  refine ⟨u, h1, h2, ?_⟩
  rcases h3 with ⟨h3, h4⟩ | ⟨P, p0, p1, p2, p3, p4, p5, p6⟩
  · exact .inl ⟨h3, by omega⟩
  · exact .inr ⟨P, p0, p1, p2, p3, p4, p5, by omega⟩
theorem Falls.over {m : Nat} {ws : List Wy} (hn : NetIs (m : Int) ws) {e : Int} {v y : Nat} {c d : Int} (hv : v < m) (hy : y < m) (h : Falls m ws e y c) (hd0 : 0 ≤ farF ws m y v) (hd : farF ws m y v ≤ d) : Falls m ws e v (c + d) := by
  have h6 := hn.hi
  obtain ⟨u, h1, h2, h3⟩ := h
  have ht := (farF_tri hn (show m ≤ 6 by omega)).tri u v y h1 hv hy h2 hd0
  refine ⟨u, h1, ht.1, ?_⟩
  rcases h3 with ⟨h3, h4⟩ | ⟨P, p0, p1, p2, p3, p4, p5, p6⟩
  · exact .inl ⟨h3, by omega⟩
  · exact .inr ⟨P, p0, p1, p2, p3, p4, p5, by omega⟩
theorem falls {m : Nat} {ws : List Wy} (hn : NetIs (m : Int) ws) {e : Int} (e0 : 0 ≤ e) (e1 : e < 2 ^ ((m : Int)).toNat) (he : e ≠ 0) : ∀ (d : Nat) (s : Int) (v : Nat), s.toNat < d → 0 ≤ s → s ≤ full ws.length → v < m → joins ws s (withp e v) = true → Falls m ws e v (cost ws s)
  | 0, _, _, h, _, _, _, _ => absurd h (by omega)
  | d + 1, s, v, hd, s0, s1, hv, hj => by
    have h6 := hn.hi
    have hl9 := hn.len
    have hfb := full_bd ws.length hl9
    have hcs := cost_bds hn s
    have hvv := farF_diag hn hv
    have hpv := pow_lt hv
    have hm6 := pow_bd (m : Int) 6 (by omega)
    rw [joins_from hn e0 e1 hv] at hj
    cases hbv : bit e v
    · -- v is no end: some way of s leads from it
      obtain ⟨k0, hk0, hbk0⟩ := set_some e0 e1 he
      have hex : ∃ (k : Nat) (x : Wy), ws[k]? = some x ∧ bit s k = true ∧ (x.a = v ∨ x.b = v) := by
        apply Classical.byContradiction
        intro hno
        have R := reach_is (s := s) hn (show (0 : Int) ≤ (v : Int) by omega) (by omega)
        have := R.least (fun q => decide (q = v)) (by simp) (fun k x hx hb => by
          have h1 : x.a ≠ v := fun e => hno ⟨k, x, hx, hb, .inl e⟩
          have h2 : x.b ≠ v := fun e => hno ⟨k, x, hx, hb, .inr e⟩
          simp [h1, h2]) k0 (by omega) (hj k0 (by omega) hbk0)
        have e : (k0 : Int) = v := by simpa using this
        rw [e, hbv] at hbk0; cases hbk0
      obtain ⟨k, x, hx, hbk, hends⟩ := hex
      have hxa := hn.at_ hx
      have hkl : k < ws.length := (List.getElem?_eq_some_iff.1 hx).1
      have hwl := farF_way hn hx
      -- its other place
      obtain ⟨y, hy, hends⟩ : ∃ y : Nat, y < m ∧ ((x.a = v ∧ x.b = y) ∨ (x.a = y ∧ x.b = v)) := by
        rcases hends with h | h
        · exact ⟨x.b.toNat, by omega, .inl ⟨h, by omega⟩⟩
        · exact ⟨x.a.toNat, by omega, .inr ⟨by omega, h⟩⟩
      have hyv : 0 ≤ farF ws m y v ∧ farF ws m y v ≤ x.c := by
        rcases hends with ⟨h1, h2⟩ | ⟨h1, h2⟩
        · have := hwl.2; rw [h1, h2, Int.toNat_natCast, Int.toNat_natCast] at this; exact this
        · have := hwl.1; rw [h1, h2, Int.toNat_natCast, Int.toNat_natCast] at this; exact this
      -- without it
      have hlb := fun j hj => lessb (u := s) (k := k) (j := j) s0 (by omega) (by omega) hj hbk
      have h2k := (hlb 0 (by omega)).2
      have hpk := (pow_bd (k : Int) 9 (by omega)).1
      rw [Int.toNat_natCast] at hpk
      obtain ⟨t, ht⟩ : ∃ t, s - 2 ^ k = t := ⟨_, rfl⟩
      have t0 : 0 ≤ t := by omega
      have t1 : t ≤ full ws.length := by omega
      have htd : t.toNat < d := by omega
      have htb : ∀ j : Nat, bit t j = (bit s j && !(j == k)) := fun j => by
        by_cases h9 : j < 9
        · rw [← ht]; exact (hlb j h9).1
        · have hs9 : s < 2 ^ 9 := by omega
          have ht9 : t < 2 ^ 9 := by omega
          rw [bit_big t0 ht9 (by omega), bit_big s0 hs9 (by omega)]; rfl
      have htk : bit t k = false := by rw [htb]; simp
      have hts : ior t (2 ^ k) = s := set_ext (ior_nn _ _) s0 fun q hq => by
        obtain ⟨j, rfl⟩ := Int.eq_ofNat_of_zero_le hq
        rw [bit_ior, bit_pow k j (by omega), htb]
        by_cases h : j = k
        · subst h; rw [hbk]; simp
        · have : decide ((j : Int) = k) = false := by simp; omega
          rw [this, Bool.or_false, show (j == k) = false from by simpa using h]; simp
      have hct : cost ws s = cost ws t + x.c := by
        have := cost_add hx htk
        rwa [hts] at this
      have hor : ∀ q, 0 ≤ q → bit (reach ws s v) q = true → bit (reach ws t v) q = true ∨ bit (reach ws t y) q = true := fun q hq h => by
        have h := re_add (t := t) (p := (v : Int)) hn hx (by omega) (by omega) hq (by rw [hts]; exact h)
        rcases hends with ⟨h1, h2⟩ | ⟨h1, h2⟩
        · rw [h1, h2] at h
          rcases h with h | ⟨_, h⟩ | ⟨_, h⟩
          · exact .inl h
          · exact .inr h
          · exact .inl h
        · rw [h1, h2] at h
          rcases h with h | ⟨_, h⟩ | ⟨_, h⟩
          · exact .inl h
          · exact .inl h
          · exact .inr h
      by_cases hP1 : ∀ q, 0 ≤ q → bit e q = true → bit (reach ws t y) q = true
      · have ih := falls hn e0 e1 he d t y htd t0 t1 hy ((joins_from hn e0 e1 hy).2 hP1)
        have := ih.over hn hv hy hyv.1 hyv.2
        rwa [← hct] at this
      · by_cases hP0 : ∀ q, 0 ≤ q → bit e q = true → bit (reach ws t y) q = false
        · have ih := falls hn e0 e1 he d t v htd t0 t1 hv ((joins_from hn e0 e1 hv).2 fun q hq hb => by
            rcases hor q hq (hj q hq hb) with h | h
            · exact h
            · rw [hP0 q hq hb] at h; cases h)
          exact ih.le (by omega)
        · -- both places have ends
          obtain ⟨q1, hq1, hb1, hn1⟩ : ∃ q, 0 ≤ q ∧ bit e q = true ∧ bit (reach ws t y) q = false := by
            apply Classical.byContradiction
            intro hno
            exact hP1 fun q hq hb => by
              cases h : bit (reach ws t y) q
              · exact absurd ⟨q, hq, hb, h⟩ hno
              · rfl
          obtain ⟨q2, hq2, hb2, hn2⟩ : ∃ q, 0 ≤ q ∧ bit e q = true ∧ bit (reach ws t y) q = true := by
            apply Classical.byContradiction
            intro hno
            exact hP0 fun q hq hb => by
              cases h : bit (reach ws t y) q
              · rfl
              · exact absurd ⟨q, hq, hb, h⟩ hno
          have hv1 : bit (reach ws t v) q1 = true := by
            rcases hor q1 hq1 (hj q1 hq1 hb1) with h | h
            · exact h
            · rw [hn1] at h; cases h
          have hsep : ∀ q, 0 ≤ q → bit (reach ws t v) q = true → bit (reach ws t y) q = false := fun q hq h => by
            cases hyq : bit (reach ws t y) q
            · rfl
            · have h1 := reach_back hn (show (0 : Int) ≤ (v : Int) by omega) (by omega) hq h
              have h2 := reach_back hn (show (0 : Int) ≤ (y : Int) by omega) (by omega) hq hyq
              rw [← h1, h2, hn1] at hv1; cases hv1
          obtain ⟨P, hP⟩ : ∃ P, iand e (reach ws t y) = P := ⟨_, rfl⟩
          have hPb : ∀ q, bit P q = (bit e q && bit (reach ws t y) q) := fun q => by rw [← hP, bit_iand]
          have hPd : 0 ≤ P ∧ P ≤ e := by
            have := iand_bd2 (reach ws t y) e e0
            rw [← hP]
            have hc : iand e (reach ws t y) = iand (reach ws t y) e := by unfold iand; rw [Nat.and_comm]
            rw [hc]; exact this
          have hP0 : P ≠ 0 := fun h => by
            have := hPb q2
            rw [h, bit_zero_, hb2, hn2] at this; cases this
          have hPe : P ≠ e := fun h => by
            have := hPb q1
            rw [h, hb1, hn1] at this; cases this
          have hQd := idiff_bd e P e0
          have hQb : ∀ q, bit (idiff e P) q = (bit e q && !bit (reach ws t y) q) := fun q => by
            rw [bit_idiff, hPb]
            cases bit e q <;> simp
          -- the ways on both sides
          obtain ⟨sx, x0, x1, hxb⟩ := set_of ws.length fun j => bit t j && (match ws[j]? with | some z => bit (reach ws t y) z.a | none => false)
          obtain ⟨sv, v0, v1, hvb⟩ := set_of ws.length fun j => bit t j && (match ws[j]? with | some z => !bit (reach ws t y) z.a | none => false)
          have hsum : cost ws t = cost ws sx + cost ws sv := cost_two fun j hj => by
            obtain ⟨z, hz⟩ : ∃ z, ws[j]? = some z := ⟨_, List.getElem?_eq_getElem hj⟩
            rw [hxb j hj, hvb j hj, hz]
            cases bit t j <;> cases bit (reach ws t y) z.a <;> simp
          have hxk : bit sx k = false := by rw [hxb k hkl, htk]; rfl
          have hpf : (2 : Int) ^ k ≤ full ws.length := by omega
          have hi := ior_full (len := ws.length) (s := sx) (t := 2 ^ k) x0 ((full_lt _ _).2 x1) (by omega) hpf
          have hcx := cost_add hx hxk
          have hyk : bit (reach ws (ior sx (2 ^ k)) v) y = true := by
            have hbk' : bit (ior sx (2 ^ k)) k = true := by rw [bit_ior, bit_pow k k (by omega)]; simp
            have h := re_way hn hx hbk'
            rcases hends with ⟨h1, h2⟩ | ⟨h1, h2⟩
            · rw [h1, h2] at h; exact h
            · rw [h1, h2] at h; exact re_sym hn (by omega) (by omega) (by omega) h
          have j1 : joins ws (ior sx (2 ^ k)) (withp P v) = true := (joins_from hn hPd.1 (by omega) hv).2 fun q hq hb => by
            rw [hPb, Bool.and_eq_true] at hb
            refine re_trans hn (show (0 : Int) ≤ (v : Int) by omega) (by omega) (show (0 : Int) ≤ (y : Int) by omega) hyk ?_
            refine re_mono hn (show (0 : Int) ≤ (y : Int) by omega) (by omega) hq (fun j hj hb => by rw [bit_ior, hb]; rfl) ?_
            refine reach_in hn (s := t) (by omega) (by omega) hq (fun j z hz hbt hza => ?_) hb.2
            rw [hxb j (List.getElem?_eq_some_iff.1 hz).1, hz]
            simp only [hbt, hza, Bool.and_self]
          have j2 : joins ws sv (withp (idiff e P) v) = true := (joins_from hn hQd.1 (by omega) hv).2 fun q hq hb => by
            rw [hQb, Bool.and_eq_true] at hb
            have hqv : bit (reach ws t v) q = true := by
              rcases hor q hq (hj q hq hb.1) with h | h
              · exact h
              · rw [h] at hb; cases hb.2
            refine reach_in hn (s := t) (by omega) (by omega) hq (fun j z hz hbt hza => ?_) hqv
            rw [hvb j (List.getElem?_eq_some_iff.1 hz).1, hz]
            simp only [hbt, hsep z.a (hn.at_ hz).1 hza, Bool.not_false, Bool.and_self]
          have r1 := rc_le hn hi.1 hi.2 j1
          have r2 := rc_le hn v0 ((full_lt _ _).2 v1) j2
          exact ⟨v, hv, by omega, .inr ⟨P, by omega, by omega, hPe, fun q _ h => by rw [hPb, Bool.and_eq_true] at h; exact h.1, r1.1, r2.1, by omega⟩⟩
    · -- v is an end
      by_cases hone : ∀ q, 0 ≤ q → bit e q = true → q = v
      · exact ⟨v, hv, by omega, .inl ⟨hone, by omega⟩⟩
      · obtain ⟨q1, hq1, hb1, hn1⟩ : ∃ q, 0 ≤ q ∧ bit e q = true ∧ q ≠ v := by
          apply Classical.byContradiction
          intro hno
          exact hone fun q hq hb => Classical.byContradiction fun h => hno ⟨q, hq, hb, h⟩
        have hne : (2 : Int) ^ v ≠ e := fun h => by
          have := bit_pow v q1 hq1
          rw [h, hb1] at this
          have : q1 = v := by simpa using this.symm
          exact hn1 this
        have hP1 : withp ((2 : Int) ^ v) v = withp 0 v := set_ext (ior_nn _ _) (ior_nn _ _) fun q hq => by
          rw [withp_bit _ v hq, withp_bit _ v hq, bit_pow v q hq, bit_zero_]; simp
        have hQ1 : withp (idiff e (2 ^ v)) v = e := set_ext (ior_nn _ _) e0 fun q hq => by
          rw [withp_bit _ v hq, bit_idiff, bit_pow v q hq]
          by_cases h : q = v
          · subst h; rw [hbv]; simp
          · simp [h]
        have hE : joins ws s e = true := by
          have := (joins_from hn e0 e1 hv).2 hj
          rwa [withp_has e0 hbv] at this
        have r2 := rc_le hn s0 s1 hE
        have r1 := rc_one hn hv
        refine ⟨v, hv, by omega, .inr ⟨2 ^ v, hpv.1, hpv.2, hne, fun q hq h => ?_, by rw [hP1]; omega, by rw [hQ1]; omega, by rw [hP1, hQ1]; omega⟩⟩
        rw [bit_pow v q hq] at h
        have : q = v := by simpa using h
        subst this; exact hbv
/-- what is told falls in two, or has at most one end -/
theorem rc_falls {m : Nat} {ws : List Wy} (hn : NetIs (m : Int) ws) {e : Int} (e0 : 0 ≤ e) (e1 : e < 2 ^ ((m : Int)).toNat) {v : Nat} (hv : v < m) (h : 0 ≤ rc ws (withp e v)) : Falls m ws e v (rc ws (withp e v)) := by
  by_cases he : e = 0
  · subst he
    have h1 := rc_one hn hv
    have h2 := farF_diag hn hv
    exact ⟨v, hv, by omega, .inl ⟨fun q _ h => (by rw [bit_zero_] at h; cases h), by omega⟩⟩
  · obtain ⟨s, s0, s1, hj, hc⟩ := rc_set hn h
    rw [← hc]
    exact falls hn e0 e1 he (s.toNat + 1) s v (by omega) s0 s1 hv hj
end Go.Proofs.YtbbomajgmgmigaaDoor
namespace Go.Proofs.YtbbomajgmgmigaaDoor
open Go.RowKit

/-! ### parts of a set, by their numbers -/
def nd (k p : Nat) : Nat := k &&& (k ^^^ p)
theorem nd_is (k p : Nat) : idiff (k : Int) (p : Int) = ((nd k p : Nat) : Int) := by unfold idiff nd; rw [Int.toNat_natCast, Int.toNat_natCast]
theorem nd_all : ∀ k p : Fin 64, p.val &&& k.val = p.val → p.val ||| nd k.val p.val = k.val ∧ nd k.val p.val ≤ k.val ∧ (0 < p.val → nd k.val p.val < k.val) ∧ nd k.val p.val &&& k.val = nd k.val p.val := by decide +kernel
theorem dn_all : ∀ k p : Fin 64, p.val &&& k.val = p.val → 0 < p.val → ((p.val - 1) &&& k.val < p.val ∧ ((p.val - 1) &&& k.val) &&& k.val = (p.val - 1) &&& k.val) := by decide +kernel
theorem dn_next_all : ∀ k p : Fin 64, p.val &&& k.val = p.val → 0 < p.val → ∀ P : Fin 64, P.val < p.val → P.val &&& k.val = P.val → P.val ≤ (p.val - 1) &&& k.val := by decide +kernel
theorem sub_bits {P k : Nat} : P &&& k = P ↔ ∀ q, 0 ≤ q → bit (P : Int) q = true → bit (k : Int) q = true := by
  constructor
  · intro h q hq hb
    unfold bit at hb ⊢
    rw [Int.toNat_natCast] at hb ⊢
    rw [← h, Nat.testBit_and, Bool.and_eq_true] at hb
    exact hb.2
  · intro h
    apply Nat.eq_of_testBit_eq
    intro i
    rw [Nat.testBit_and]
    cases hp : P.testBit i
    · rfl
    · have := h i (by omega) (by unfold bit; rw [Int.toNat_natCast, Int.toNat_natCast]; exact hp)
      unfold bit at this
      rw [Int.toNat_natCast, Int.toNat_natCast] at this
      rw [this]; rfl

/-! ### one cell -/
noncomputable def FT (ws : List Wy) (k v : Nat) : Int := rc ws (withp (k : Int) v)
theorem FT_bd {n : Int} {ws : List Wy} (hn : NetIs n ws) (k v : Nat) : -1 ≤ FT ws k v ∧ FT ws k v ≤ 81 := rc_ge hn _
def Only1 (k v : Nat) : Prop := ∀ q, 0 ≤ q → bit (k : Int) q = true → q = (v : Int)
structure SplitC (ws : List Wy) (k p v : Nat) (n : Int) : Prop where
  so : 0 ≤ n → 0 ≤ FT ws k v ∧ FT ws k v ≤ n
  bd : -1 ≤ n ∧ n ≤ 200
  on : Only1 k v → n = 0
  lo : ∀ P, p ≤ P → P < k → 0 < P → P &&& k = P → 0 ≤ FT ws P v → 0 ≤ FT ws (nd k P) v → 0 ≤ n ∧ n ≤ FT ws P v + FT ws (nd k P) v
def lowC (n c : Int) : Int := if n < 0 ∨ c < n then c else n
theorem only1_iff {k v : Nat} : Only1 k v ↔ idiff (k : Int) (2 ^ v) = 0 := by
  rw [idiff_zero (by omega)]
  constructor
  · intro h q hq hb
    rw [bit_pow v q hq, decide_eq_true_eq]; exact h q hq hb
  · intro h q hq hb
    have := h q hq hb
    rw [bit_pow v q hq, decide_eq_true_eq] at this; exact this
theorem only1_ft {m : Nat} {ws : List Wy} (hn : NetIs (m : Int) ws) {k v : Nat} (hv : v < m) (h : Only1 k v) : FT ws k v = 0 := by
  have e : withp (k : Int) v = withp 0 v := set_ext (ior_nn _ _) (ior_nn _ _) fun q hq => by
    rw [withp_bit _ v hq, withp_bit _ v hq, bit_zero_]
    cases hb : bit (k : Int) q
    · rfl
    · have := h q hq hb
      simp [this]
  unfold FT
  rw [e]
  exact rc_one hn hv
/-- no parts are looked at yet -/
theorem SplitC.first {m : Nat} {ws : List Wy} (hn : NetIs (m : Int) ws) {k v : Nat} {n : Int} (hv : v < m) (h1 : Only1 k v → n = 0) (h2 : ¬ Only1 k v → n = -1) : SplitC ws k k v n := by
  refine ⟨fun h0 => ?_, ?_, h1, fun P h2 h3 => by omega⟩
  · by_cases ho : Only1 k v
    · rw [only1_ft hn hv ho, h1 ho]; omega
    · rw [h2 ho] at h0; omega
  · by_cases ho : Only1 k v
    · rw [h1 ho]; omega
    · rw [h2 ho]; omega
theorem SplitC.down {ws : List Wy} {k p p' v : Nat} {n : Int} (h : SplitC ws k p v n) (hp : ∀ P, p' ≤ P → P < k → 0 < P → P &&& k = P → p ≤ P) : SplitC ws k p' v n :=
  ⟨h.so, h.bd, h.on, fun P h1 h2 h3 h4 => h.lo P (hp P h1 h2 h3 h4) h2 h3 h4⟩
/-- roots of both parts, joined at v -/
theorem ft_join {m : Nat} {ws : List Wy} (hn : NetIs (m : Int) ws) {k p v : Nat} (hk : k < 2 ^ m) (hp : p &&& k = p) (hv : v < m) (h1 : 0 ≤ FT ws p v) (h2 : 0 ≤ FT ws (nd k p) v) : 0 ≤ FT ws k v ∧ FT ws k v ≤ FT ws p v + FT ws (nd k p) v := by
  have hpk : p ≤ k := by rw [← hp]; exact Nat.and_le_right
  have hqk : nd k p ≤ k := Nat.and_le_left
  have e2 : ((2 : Int) ^ ((m : Int)).toNat) = ((2 ^ m : Nat) : Int) := by rw [Int.toNat_natCast]; simp
  have b1 := withp_bd (m := m) (e := (p : Int)) (v := v) (by omega) (by omega) hv
  have b2 := withp_bd (m := m) (e := ((nd k p : Nat) : Int)) (v := v) (by omega) (by omega) hv
  have hj := rc_join hn b1.1 b1.2 b2.1 b2.2 (p := (v : Int)) (by omega) (by rw [withp_bit _ v (by omega)]; simp) (by rw [withp_bit _ v (by omega)]; simp) h1 h2
  have e : ior (withp (p : Int) v) (withp ((nd k p : Nat) : Int) v) = withp (k : Int) v := set_ext (ior_nn _ _) (ior_nn _ _) fun q hq => by
    rw [bit_ior, withp_bit _ v hq, withp_bit _ v hq, withp_bit _ v hq, ← nd_is, bit_idiff]
    have := sub_bits.1 hp q hq
    cases hb : bit (p : Int) q
    · cases bit (k : Int) q <;> simp
    · rw [this hb]; simp
  rw [e] at hj
  exact hj
theorem low_told {n c : Int} (hc : 0 ≤ c) : 0 ≤ lowC n c ∧ lowC n c ≤ c ∧ (0 ≤ n → lowC n c ≤ n) := by
  unfold lowC
  by_cases h : n < 0 ∨ c < n
  · rw [if_pos h]; omega
  · rw [if_neg h]; omega
theorem low_or (n c : Int) : lowC n c = c ∨ lowC n c = n := by
  unfold lowC; split
  · exact .inl rfl
  · exact .inr rfl
theorem SplitC.take {m : Nat} {ws : List Wy} (hn : NetIs (m : Int) ws) {k p v : Nat} {n : Int} (h : SplitC ws k (p + 1) v n) (hk : k < 2 ^ m) (hp : p &&& k = p) (hv : v < m) (h1 : 0 ≤ FT ws p v) (h2 : 0 ≤ FT ws (nd k p) v) : SplitC ws k p v (lowC n (FT ws p v + FT ws (nd k p) v)) := by
  have hj := ft_join hn hk hp hv h1 h2
  have g1 := FT_bd hn p v
  have g2 := FT_bd hn (nd k p) v
  have hlt := low_told (n := n) (c := FT ws p v + FT ws (nd k p) v) (by omega)
  have hb := h.bd
  refine ⟨fun h0 => ?_, ?_, fun ho => ?_, fun P a1 a2 a3 a4 a5 a6 => ?_⟩
  · rcases low_or n (FT ws p v + FT ws (nd k p) v) with e | e
    · rw [e]; exact hj
    · rw [e] at h0 ⊢; exact h.so h0
  · rcases low_or n (FT ws p v + FT ws (nd k p) v) with e | e <;> omega
  · have := h.on ho
    have := hlt.2.2 (by omega)
    omega
  · by_cases e : P = p
    · subst e; exact ⟨hlt.1, hlt.2.1⟩
    · have := h.lo P (by omega) a2 a3 a4 a5 a6
      have := hlt.2.2 this.1
      omega
theorem SplitC.skip {ws : List Wy} {k p v : Nat} {n : Int} (h : SplitC ws k (p + 1) v n) (hno : ¬ (0 ≤ FT ws p v ∧ 0 ≤ FT ws (nd k p) v)) : SplitC ws k p v n :=
  ⟨h.so, h.bd, h.on, fun P a1 a2 a3 a4 a5 a6 => by
    by_cases e : P = p
    · subst e; exact absurd ⟨a5, a6⟩ hno
    · exact h.lo P (by omega) a2 a3 a4 a5 a6⟩

/-! ### feet are moved -/
structure MoveC (m : Nat) (ws : List Wy) (k : Nat) (r0 : Nat → Int) (v a : Nat) (B n : Int) : Prop where
  so : 0 ≤ n → 0 ≤ FT ws k v ∧ FT ws k v ≤ n
  bd : -1 ≤ n ∧ n ≤ B
  le : 0 ≤ r0 v → 0 ≤ n ∧ n ≤ r0 v
  lo : ∀ u, u < a → 0 ≤ r0 u → 0 ≤ farF ws m u v → 0 ≤ n ∧ n ≤ r0 u + farF ws m u v
theorem MoveC.first {m : Nat} {ws : List Wy} {k p v : Nat} {r0 : Nat → Int} {B : Int} (h : SplitC ws k p v (r0 v)) (hB : 200 ≤ B) : MoveC m ws k r0 v 0 B (r0 v) :=
  ⟨h.so, by have := h.bd; omega, fun h => ⟨h, Int.le_refl _⟩, fun u h => by omega⟩
theorem MoveC.more {m : Nat} {ws : List Wy} {k v a : Nat} {r0 : Nat → Int} {B B' n : Int} (h : MoveC m ws k r0 v a B n) (hB : B ≤ B') : MoveC m ws k r0 v a B' n := ⟨h.so, by have := h.bd; omega, h.le, h.lo⟩
theorem MoveC.take {m : Nat} {ws : List Wy} (hn : NetIs (m : Int) ws) {k v a : Nat} {r0 : Nat → Int} {B n x : Int} (h : MoveC m ws k r0 v a B n) (hk : k < 2 ^ m) (ha : a < m) (hv : v < m) (hx : 0 ≤ x) (hs : 0 ≤ FT ws k a ∧ FT ws k a ≤ x) (hx0 : 0 ≤ r0 a → x ≤ r0 a) (hf : 0 ≤ farF ws m a v) (hB : x + farF ws m a v ≤ B) :
    MoveC m ws k r0 v (a + 1) B (lowC n (x + farF ws m a v)) := by
  have e2 : ((2 : Int) ^ ((m : Int)).toNat) = ((2 ^ m : Nat) : Int) := by rw [Int.toNat_natCast]; simp
  have hg := rc_grow hn (e := (k : Int)) (by omega) (by omega) ha hv hs.1 hf
  have hlt := low_told (n := n) (c := x + farF ws m a v) (by omega)
  have hb := h.bd
  have hg' : 0 ≤ FT ws k v ∧ FT ws k v ≤ FT ws k a + farF ws m a v := hg
  refine ⟨fun h0 => ?_, ?_, fun h0 => ?_, fun u hu h1 h2 => ?_⟩
  · rcases low_or n (x + farF ws m a v) with e | e
    · rw [e]; omega
    · rw [e] at h0 ⊢; exact h.so h0
  · rcases low_or n (x + farF ws m a v) with e | e <;> omega
  · have := h.le h0
    have := hlt.2.2 this.1
    omega
  · by_cases e : u = a
    · subst e
      have := hx0 h1
      omega
    · have := h.lo u (by omega) h1 h2
      have := hlt.2.2 this.1
      omega
theorem MoveC.skip {m : Nat} {ws : List Wy} {k v a : Nat} {r0 : Nat → Int} {B n : Int} (h : MoveC m ws k r0 v a B n) (hno : ¬ (0 ≤ r0 a ∧ 0 ≤ farF ws m a v)) : MoveC m ws k r0 v (a + 1) B n :=
  ⟨h.so, h.bd, h.le, fun u hu h1 h2 => by
    by_cases e : u = a
    · subst e; exact absurd ⟨h1, h2⟩ hno
    · exact h.lo u (by omega) h1 h2⟩
/-- it comes to what a root costs -/
theorem foot_is {m : Nat} {ws : List Wy} (hn : NetIs (m : Int) ws) {k v : Nat} {r0 : Nat → Int} {B n : Int} (hk : k < 2 ^ m) (hv : v < m) (hr : ∀ u, u < m → SplitC ws k 1 u (r0 u)) (h : MoveC m ws k r0 v m B n) : n = FT ws k v := by
  have e2 : ((2 : Int) ^ ((m : Int)).toNat) = ((2 ^ m : Nat) : Int) := by rw [Int.toNat_natCast]; simp
  have hb := h.bd
  have hf := FT_bd hn k v
  by_cases h0 : 0 ≤ FT ws k v
  · obtain ⟨u, hu, hfar, hor⟩ := rc_falls hn (e := (k : Int)) (by omega) (by omega) hv h0
    have hle : 0 ≤ n ∧ n ≤ FT ws k v := by
      rcases hor with ⟨h1, h2⟩ | ⟨P, p0, p1, p2, p3, p4, p5, p6⟩
      · have h3 := (hr u hu).on h1
        have h4 := h.lo u hu (by omega) hfar
        have h2' : farF ws m u v ≤ FT ws k v := h2
        omega
      · obtain ⟨Q, rfl⟩ := Int.eq_ofNat_of_zero_le (show 0 ≤ P by omega)
        have hs : Q &&& k = Q := sub_bits.2 p3
        have hqk : Q ≤ k := by rw [← hs]; exact Nat.and_le_right
        rw [nd_is] at p5 p6
        have h3 := (hr u hu).lo Q (by omega) (by omega) (by omega) hs p4 p5
        have h4 := h.lo u hu h3.1 hfar
        have p6' : FT ws Q u + FT ws (nd k Q) u + farF ws m u v ≤ FT ws k v := p6
        omega
    have := h.so hle.1
    omega
  · by_cases h1 : 0 ≤ n
    · have := h.so h1; omega
    · omega
end Go.Proofs.YtbbomajgmgmigaaDoor
attribute [local go_sem ↓] Go.wp_at_zero Go.wp_at_succ
namespace Go.Proofs.YtbbomajgmgmigaaDoor
open Go.ChangeShapes Go.WideShapes Go.ChangeAt Go.RowKit

/-- block T holds r rows of m numbers, row a in block R a; they hold f -/
structure TabR (w : World) (lo hi T r m : Nat) (R C : Nat → Nat) (f : Nat → Nat → Int) : Prop where
  top : ∀ a, a < r → w.cell? ⟨T, a, none⟩ = some (.slice (some ⟨R a, 0, none⟩) m (C a))
  row : ∀ a b, a < r → b < m → w.cell? ⟨R a, b, none⟩ = some (.int .i64 (f a b)) ∧ w.frozen? ⟨R a, b, none⟩ = false
  inj : ∀ a b, a < r → b < r → R a = R b → a = b
  neT : ∀ a, a < r → R a ≠ T
  los : lo ≤ T ∧ T < hi
  rlo : ∀ a, a < r → lo ≤ R a ∧ R a < hi
  his : hi ≤ w.heap.size
section
variable {w w' : World} {lo hi T r m : Nat} {R C : Nat → Nat} {f g : Nat → Nat → Int}
theorem TabR.keep (h : TabR w lo hi T r m R C f) (hb : ∀ k, lo ≤ k → k < hi → w'.heap[k]? = w.heap[k]?) (hs : w.heap.size ≤ w'.heap.size) : TabR w' lo hi T r m R C f :=
  ⟨fun a ha => (World.cell?_of_block (w := w) (hb T h.los.1 h.los.2)).trans (h.top a ha), fun a b ha hb' => ⟨(World.cell?_of_block (w := w) (hb (R a) (h.rlo a ha).1 (h.rlo a ha).2)).trans (h.row a b ha hb').1, (World.frozen?_of_block (w := w) (hb (R a) (h.rlo a ha).1 (h.rlo a ha).2)).trans (h.row a b ha hb').2⟩, h.inj, h.neT, h.los, h.rlo, Nat.le_trans h.his hs⟩
theorem TabR.below (h : TabR w lo hi T r m R C f) (hb : Below w.heap.size w w') : TabR w' lo hi T r m R C f :=
  h.keep (fun k _ hk => hb.block k (Nat.lt_of_lt_of_le hk h.his)) hb.size
theorem TabR.only {lo' hi' : Nat} (h : TabR w lo hi T r m R C f) (ho : Only lo' hi' w w') (hd : hi ≤ lo' ∨ hi' ≤ lo) : TabR w' lo hi T r m R C f :=
  h.keep (fun k h1 h2 => ho.block k (Nat.lt_of_lt_of_le h2 h.his) (by omega)) ho.size
theorem TabR.congr (h : TabR w lo hi T r m R C f) (he : ∀ a b, a < r → b < m → f a b = g a b) : TabR w lo hi T r m R C g :=
  ⟨h.top, fun a b ha hb => by rw [← he a b ha hb]; exact h.row a b ha hb, h.inj, h.neT, h.los, h.rlo, h.his⟩
theorem TabR.wider {hi' : Nat} (h : TabR w lo hi T r m R C f) (h1 : hi ≤ hi') (h2 : hi' ≤ w.heap.size) : TabR w lo hi' T r m R C f :=
  ⟨h.top, h.row, h.inj, h.neT, ⟨h.los.1, Nat.lt_of_lt_of_le h.los.2 h1⟩, fun a ha => ⟨(h.rlo a ha).1, Nat.lt_of_lt_of_le (h.rlo a ha).2 h1⟩, h2⟩
theorem TabR.put (h : TabR w lo hi T r m R C f) {a b : Nat} (ha : a < r) (hb : b < m) (x : Int) : TabR (w.setCell ⟨R a, b, none⟩ (.int .i64 x)) lo hi T r m R C (fun i j => if i = a ∧ j = b then x else f i j) := by
  refine ⟨fun i hi' => ?_, fun i j hi' hj => ?_, h.inj, h.neT, h.los, h.rlo, by simpa [World.setCell] using h.his⟩
  · rw [World.cell?_setCell_other _ _ _ _ (by intro e; simp only [Addr.mk.injEq] at e; exact h.neT a ha e.1)]
    exact h.top i hi'
  · rw [World.frozen?_setCell]
    refine ⟨?_, (h.row i j hi' hj).2⟩
    by_cases e : i = a ∧ j = b
    · obtain ⟨rfl, rfl⟩ := e
      rw [if_pos ⟨rfl, rfl⟩]
      exact World.cell?_setCell_same _ _ _ (h.row i j hi' hj).1
    · rw [if_neg e, World.cell?_setCell_other _ _ _ _ (by
        intro e'; simp only [Addr.mk.injEq] at e'
        exact e ⟨(h.inj a i ha hi' e'.1).symm, e'.2.1.symm⟩)]
      exact (h.row i j hi' hj).1
theorem TabM.toR (h : TabM w lo hi T m R C f) : TabR w lo hi T m m R C f := ⟨h.top, h.row, h.inj, h.neT, h.los, h.rlo, h.his⟩
/-- a row more is laid into the top -/
theorem TabR.more {g : Nat} (h : TabR w lo hi T r m R C f) {r0 : Nat → Int} (hg : hi ≤ g) (hgs : g < w.heap.size) (hrow : ∀ b, b < m → w.cell? ⟨g, b, none⟩ = some (.int .i64 (r0 b)) ∧ w.frozen? ⟨g, b, none⟩ = false) {u : Value} (hc : w.cell? ⟨T, r, none⟩ = some u) :
    TabR (w.setCell ⟨T, r, none⟩ (.slice (some ⟨g, 0, none⟩) m m)) lo w.heap.size T (r + 1) m (fun i => if i = r then g else R i) (fun i => if i = r then m else C i) (fun i j => if i = r then r0 j else f i j) := by
  have hTg : T ≠ g := by have := h.los; omega
  have hRg : ∀ a, a < r → R a ≠ g := fun a ha => by have := h.rlo a ha; omega
  have hk : ∀ b o, b ≠ T → (w.setCell ⟨T, r, none⟩ (.slice (some ⟨g, 0, none⟩) m m)).cell? ⟨b, o, none⟩ = w.cell? ⟨b, o, none⟩ := fun b o hb => World.cell?_setCell_other _ _ _ _ (by intro e; simp only [Addr.mk.injEq] at e; exact hb e.1.symm)
  refine ⟨fun a ha => ?_, fun a b ha hb => ?_, fun a b ha hb e => ?_, fun a ha => ?_, ⟨h.los.1, by have := h.los; omega⟩, fun a ha => ?_, by simp [World.setCell]⟩
  · by_cases e : a = r
    · subst e
      rw [if_pos rfl, if_pos rfl]
      exact World.cell?_setCell_same _ _ _ hc
    · rw [if_neg e, if_neg e, World.cell?_setCell_other _ _ _ _ (by intro e'; simp only [Addr.mk.injEq] at e'; omega)]
      exact h.top a (by omega)
  · rw [World.frozen?_setCell]
    by_cases e : a = r
    · simp only [if_pos e]
      rw [hk g b (Ne.symm hTg)]
      exact hrow b hb
    · simp only [if_neg e]
      rw [hk (R a) b (h.neT a (by omega))]
      exact h.row a b (by omega) hb
  · by_cases e1 : a = r <;> by_cases e2 : b = r
    · omega
    · rw [if_pos e1, if_neg e2] at e
      exact absurd e.symm (hRg b (by omega))
    · rw [if_neg e1, if_pos e2] at e
      exact absurd e (hRg a (by omega))
    · rw [if_neg e1, if_neg e2] at e
      exact h.inj a b (by omega) (by omega) e
  · by_cases e : a = r
    · rw [if_pos e]; exact Ne.symm hTg
    · rw [if_neg e]; exact h.neT a (by omega)
  · by_cases e : a = r
    · rw [if_pos e]; have := h.los; omega
    · rw [if_neg e]; have := h.rlo a (by omega); have := h.his; omega
end
/-- only the rows are changed -/
structure OnT (lo hi T : Nat) (w w' : World) : Prop where
  only : Only lo hi w w'
  top : w'.heap[T]? = w.heap[T]?
theorem OnT.refl (lo hi T : Nat) (w : World) : OnT lo hi T w w := ⟨Only.refl _ _ _, rfl⟩
theorem OnT.trans {lo hi T : Nat} {a b c : World} (h : OnT lo hi T a b) (k : OnT lo hi T b c) : OnT lo hi T a c := ⟨h.only.trans k.only, k.top.trans h.top⟩
theorem OnT.drew {lo hi T : Nat} {a b : World} (h : OnT lo hi T a b) : OnT lo hi T a b.drew := ⟨h.only.drew, h.top⟩
theorem OnT.undrew {lo hi T : Nat} {a b : World} (h : OnT lo hi T a.drew b) : OnT lo hi T a b := ⟨⟨h.only.os, h.only.tape, h.only.output, h.only.size, h.only.block⟩, h.top⟩
theorem OnT.setCell {lo hi T : Nat} {a b : World} (h : OnT lo hi T a b) {p : Addr} (hp : lo ≤ p.block ∧ p.block < hi) (hT : p.block ≠ T) (u : Value) : OnT lo hi T a (b.setCell p u) :=
  ⟨h.only.setCell hp u, (Below.heap_setCell b p u T (Ne.symm hT)).trans h.top⟩

set_option maxHeartbeats 2000000 in
theorem lowerR_any (lo hi T r L m cT : Nat) (R C : Nat → Nat) (f : Nat → Nat → Int) (a b : Nat) (c : Int) (w : World) (h : TabR w lo hi T r m R C f) (ha : a < r) (hL : r ≤ L) (hb : b < m) :
    Calls Tryd.prog 61 #[.slice (some ⟨T, 0, none⟩) L cT, .int .i64 a, .int .i64 b, .int .i64 c] w fun e w' => e = .returned (.tuple #[]) ∧ TabR w' lo hi T r m R C (lowF f a b c) ∧ OnT lo hi T w w' := by
  have H := Lib.hid h
  have h1 := h.top a ha
  obtain ⟨h2, h3⟩ := h.row a b ha hb
  have a0 : (0 : Int) ≤ (a : Int) := by omega
  have b0 : (0 : Int) ≤ (b : Int) := by omega
  have a1 : (a : Int) < (L : Int) := by omega
  have b1 : (b : Int) < (m : Int) := by omega
  clear h
  by_cases hneg : f a b < 0
  · go_enter Tryd.func61, Tryd.ntmps61
    go_wp2_with fail
    go_end0
    exact ⟨rfl, (H.out.put ha hb c).congr (fun i j _ _ => lowF_yes (.inl hneg) i j), (OnT.refl _ _ _ _).setCell (H.out.rlo a ha) (H.out.neT a ha) _⟩
  · by_cases hlt : c < f a b
    · go_enter Tryd.func61, Tryd.ntmps61
      go_wp2_with fail
      go_end0
      exact ⟨rfl, (H.out.put ha hb c).congr (fun i j _ _ => lowF_yes (.inr hlt) i j), (OnT.refl _ _ _ _).setCell (H.out.rlo a ha) (H.out.neT a ha) _⟩
    · go_enter Tryd.func61, Tryd.ntmps61
      go_wp2_with fail
      go_end0
      exact ⟨rfl, H.out.congr (fun i j _ _ => lowF_no (by omega) i j), OnT.refl _ _ _ _⟩
end Go.Proofs.YtbbomajgmgmigaaDoor
namespace Go.Proofs.YtbbomajgmgmigaaDoor
open Go.ChangeShapes Go.WideShapes Go.ChangeAt Go.RowKit

set_option maxHeartbeats 4000000 in
theorem joinParts_any (lo hi T r L m cT : Nat) (R C : Nat → Nat) (f : Nat → Nat → Int) (p q k v : Nat) (w : World) (h : TabR w lo hi T r m R C f) (hp : p < r) (hq : q < r) (hk : k < r) (hL : r ≤ L) (hv : v < m) (hpk : p ≠ k) (hqk : q ≠ k) (hor : bits .or .i64 (p : Int) (q : Int) = (k : Int)) (hB1 : f p v ≤ 1000) (hB2 : f q v ≤ 1000) :
    Calls Tryd.prog 70 #[.slice (some ⟨T, 0, none⟩) L cT, .int .i64 p, .int .i64 q, .int .i64 v] w fun e w' => e = .returned (.tuple #[]) ∧ TabR w' lo hi T r m R C (if 0 ≤ f p v ∧ 0 ≤ f q v then lowF f k v (f p v + f q v) else f) ∧ OnT lo hi T w w' := by
  have H := Lib.hid h
  have h1 := h.top p hp
  have h2 := h.top q hq
  have g1 := (h.row p v hp hv).1
  have g2 := (h.row q v hq hv).1
  have p0 : (0 : Int) ≤ (p : Int) := by omega
  have q0 : (0 : Int) ≤ (q : Int) := by omega
  have v0 : (0 : Int) ≤ (v : Int) := by omega
  have p1 : (p : Int) < (L : Int) := by omega
  have q1 : (q : Int) < (L : Int) := by omega
  have v1 : (v : Int) < (m : Int) := by omega
  obtain ⟨x, hx⟩ : ∃ x, f p v = x := ⟨_, rfl⟩
  obtain ⟨y, hy⟩ : ∃ y, f q v = y := ⟨_, rfl⟩
  have HX := Lib.hid hx
  have HY := Lib.hid hy
  rw [hx] at g1 hB1 ⊢
  rw [hy] at g2 hB2 ⊢
  clear h hx hy
  by_cases hx0 : 0 ≤ x
  · by_cases hy0 : 0 ≤ y
    · have HK1 : Hid (lowF f k v (x + y) p v = x) := by show lowF f k v (x + y) p v = x; unfold lowF; rw [if_neg (fun e => hpk e.1)]; exact HX.out
      have HK2 : Hid (lowF f k v (x + y) q v = y) := by show lowF f k v (x + y) q v = y; unfold lowF; rw [if_neg (fun e => hqk e.1)]; exact HY.out
      have hwr : IntKind.i64.wrap (x + y) = x + y := IntWalk.i64_in _ ⟨by omega, by omega⟩
      have hwr2 : wrap64 (x + y) = x + y := IntWalk.wrap64_in _ ⟨by omega, by omega⟩
      go_enter Tryd.func70, Tryd.ntmps70
      go_wp2_with fail
      refine wp_region_held_drew (S := (fun w' => w'.cell? ⟨T, p, none⟩ = some (.slice (some ⟨R p, 0, none⟩) m (C p)) ∧ w'.cell? ⟨T, q, none⟩ = some (.slice (some ⟨R q, 0, none⟩) m (C q)) ∧ w'.cell? ⟨R p, v, none⟩ = some (.int .i64 x) ∧ w'.cell? ⟨R q, v, none⟩ = some (.int .i64 y))) (by kernel_rfl) ?_ (fun hHeld => ?_)
      · exact ⟨h1, h2, g1, g2⟩
      refine wpAnyH_take (i := 0) (v := ?_) rfl (by kernel_rfl) (by kernel_rfl) (by kernel_rfl) (fun _ _ _ h => h) (Or.inl ⟨by rfl, ?_⟩) (by assumption) ?_
      rotate_left
      · (intro w hSw; (try dsimp only at hSw); (try simp only [List.getElem_toArray, List.getElem_cons_succ, List.getElem_cons_zero]); first | (go_simp; done) | (go_simp; with_reducible rfl))
      try simp only [Act.put, List.getElem_toArray, List.getElem_cons_succ, List.getElem_cons_zero, List.setIfInBounds_toArray, List.set_cons_zero, List.set_cons_succ]
      refine wpAnyH_take (i := 1) (v := ?_) rfl (by kernel_rfl) (by kernel_rfl) (by kernel_rfl) (fun _ _ _ h => h) (Or.inl ⟨by rfl, ?_⟩) (by assumption) ?_
      rotate_left
      · (intro w hSw; (try dsimp only at hSw); (try simp only [List.getElem_toArray, List.getElem_cons_succ, List.getElem_cons_zero]); first | (go_simp; done) | (go_simp; with_reducible rfl))
      try simp only [Act.put, List.getElem_toArray, List.getElem_cons_succ, List.getElem_cons_zero, List.setIfInBounds_toArray, List.set_cons_zero, List.set_cons_succ]
      refine wpAnyH_take (i := 2) (v := ?_) rfl (by kernel_rfl) (by kernel_rfl) (by kernel_rfl) (fun _ _ _ h => h) (Or.inl ⟨by rfl, ?_⟩) (by assumption) ?_
      rotate_left
      · (intro w hSw; (try dsimp only at hSw); (try simp only [List.getElem_toArray, List.getElem_cons_succ, List.getElem_cons_zero]); first | (go_simp; done) | (go_simp; with_reducible rfl))
      try simp only [Act.put, List.getElem_toArray, List.getElem_cons_succ, List.getElem_cons_zero, List.setIfInBounds_toArray, List.set_cons_zero, List.set_cons_succ]
      refine wpAnyH_take (i := 3) (v := ?_) rfl (by kernel_rfl) (by kernel_rfl) (by kernel_rfl) (fun _ _ _ h => h) (Or.inl ⟨by rfl, ?_⟩) (by assumption) ?_
      rotate_left
      · (intro w hSw; (try dsimp only at hSw); (try simp only [List.getElem_toArray, List.getElem_cons_succ, List.getElem_cons_zero]); first | (go_simp; done) | (go_simp; with_reducible rfl))
      try simp only [Act.put, List.getElem_toArray, List.getElem_cons_succ, List.getElem_cons_zero, List.setIfInBounds_toArray, List.set_cons_zero, List.set_cons_succ]
      refine wpAnyH_take (i := 4) (v := ?_) rfl (by kernel_rfl) (by kernel_rfl) (by kernel_rfl) (fun _ _ _ h => h) (Or.inl ⟨by rfl, ?_⟩) (by assumption) ?_
      rotate_left
      · (intro w hSw; (try dsimp only at hSw); (try simp only [List.getElem_toArray, List.getElem_cons_succ, List.getElem_cons_zero]); first | (go_simp; done) | (go_simp; with_reducible rfl))
      try simp only [Act.put, List.getElem_toArray, List.getElem_cons_succ, List.getElem_cons_zero, List.setIfInBounds_toArray, List.set_cons_zero, List.set_cons_succ]
      refine wpAnyH_take (i := 5) (v := ?_) rfl (by kernel_rfl) (by kernel_rfl) (by kernel_rfl) (fun _ _ _ h => h) (Or.inl ⟨by rfl, ?_⟩) (by assumption) ?_
      rotate_left
      · (intro w hSw; (try dsimp only at hSw); (try simp only [List.getElem_toArray, List.getElem_cons_succ, List.getElem_cons_zero]); first | (go_simp; done) | (go_simp; with_reducible rfl))
      try simp only [Act.put, List.getElem_toArray, List.getElem_cons_succ, List.getElem_cons_zero, List.setIfInBounds_toArray, List.set_cons_zero, List.set_cons_succ]
      refine wpAnyH_take (i := 6) (v := ?_) rfl (by kernel_rfl) (by kernel_rfl) (by kernel_rfl) (fun _ _ _ h => h) (Or.inl ⟨by rfl, ?_⟩) (by assumption) ?_
      rotate_left
      · (intro w hSw; (try dsimp only at hSw); (try simp only [List.getElem_toArray, List.getElem_cons_succ, List.getElem_cons_zero]); first | (go_simp; done) | (go_simp; with_reducible rfl))
      try simp only [Act.put, List.getElem_toArray, List.getElem_cons_succ, List.getElem_cons_zero, List.setIfInBounds_toArray, List.set_cons_zero, List.set_cons_succ]
      refine wpAnyH_take (i := 7) (v := ?_) rfl (by kernel_rfl) (by kernel_rfl) (by kernel_rfl) (fun _ _ _ h => h) (Or.inl ⟨by rfl, ?_⟩) (by assumption) ?_
      rotate_left
      · (intro w hSw; (try dsimp only at hSw); (try simp only [List.getElem_toArray, List.getElem_cons_succ, List.getElem_cons_zero]); first | (go_simp; done) | (go_simp; with_reducible rfl))
      try simp only [Act.put, List.getElem_toArray, List.getElem_cons_succ, List.getElem_cons_zero, List.setIfInBounds_toArray, List.set_cons_zero, List.set_cons_succ]
      refine wpAnyH_take (i := 8) (v := ?_) rfl (by kernel_rfl) (by kernel_rfl) (by kernel_rfl) (fun _ _ _ h => h) (Or.inl ⟨by rfl, ?_⟩) (by assumption) ?_
      rotate_left
      · (intro w hSw; (try dsimp only at hSw); (try simp only [List.getElem_toArray, List.getElem_cons_succ, List.getElem_cons_zero]); first | (go_simp; done) | (go_simp; with_reducible rfl))
      try simp only [Act.put, List.getElem_toArray, List.getElem_cons_succ, List.getElem_cons_zero, List.setIfInBounds_toArray, List.set_cons_zero, List.set_cons_succ]
      refine wpAnyH_take (i := 9) (v := ?_) rfl (by kernel_rfl) (by kernel_rfl) (by kernel_rfl) (fun _ _ _ h => h) (Or.inl ⟨by rfl, ?_⟩) (by assumption) ?_
      rotate_left
      · (intro w hSw; (try dsimp only at hSw); (try simp only [List.getElem_toArray, List.getElem_cons_succ, List.getElem_cons_zero]); first | (go_simp; done) | (go_simp; with_reducible rfl))
      try simp only [Act.put, List.getElem_toArray, List.getElem_cons_succ, List.getElem_cons_zero, List.setIfInBounds_toArray, List.set_cons_zero, List.set_cons_succ]
      refine wpAnyH_take (i := 10) (v := ?_) rfl (by kernel_rfl) (by kernel_rfl) (by kernel_rfl) (fun _ _ _ h => h) (Or.inl ⟨by rfl, ?_⟩) (by assumption) ?_
      rotate_left
      · (intro w hSw; (try dsimp only at hSw); (try simp only [List.getElem_toArray, List.getElem_cons_succ, List.getElem_cons_zero]); first | (go_simp; done) | (go_simp; with_reducible rfl))
      try simp only [Act.put, List.getElem_toArray, List.getElem_cons_succ, List.getElem_cons_zero, List.setIfInBounds_toArray, List.set_cons_zero, List.set_cons_succ]
      refine wpAnyH_take (i := 11) (v := ?_) rfl (by kernel_rfl) (by kernel_rfl) (by kernel_rfl) (fun _ _ _ h => h) (Or.inl ⟨by rfl, ?_⟩) (by assumption) ?_
      rotate_left
      · (intro w hSw; (try dsimp only at hSw); (try simp only [List.getElem_toArray, List.getElem_cons_succ, List.getElem_cons_zero]); first | (go_simp; done) | (go_simp; with_reducible rfl))
      try simp only [Act.put, List.getElem_toArray, List.getElem_cons_succ, List.getElem_cons_zero, List.setIfInBounds_toArray, List.set_cons_zero, List.set_cons_succ]
      refine wpAnyH_take (i := 12) (v := ?_) rfl (by kernel_rfl) (by kernel_rfl) (by kernel_rfl) (fun _ _ _ h => h) (Or.inl ⟨by rfl, ?_⟩) (by assumption) ?_
      rotate_left
      · (intro w hSw; (try dsimp only at hSw); (try simp only [List.getElem_toArray, List.getElem_cons_succ, List.getElem_cons_zero]); first | (go_simp; done) | (go_simp; with_reducible rfl))
      try simp only [Act.put, List.getElem_toArray, List.getElem_cons_succ, List.getElem_cons_zero, List.setIfInBounds_toArray, List.set_cons_zero, List.set_cons_succ]
      refine wpAnyH_take (i := 13) (v := ?_) rfl (by kernel_rfl) (by kernel_rfl) (by kernel_rfl) (fun _ _ _ h => h) (Or.inl ⟨by rfl, ?_⟩) (by assumption) ?_
      rotate_left
      · (intro w hSw; (try dsimp only at hSw); (try simp only [List.getElem_toArray, List.getElem_cons_succ, List.getElem_cons_zero]); first | (go_simp; done) | (go_simp; with_reducible rfl))
      try simp only [Act.put, List.getElem_toArray, List.getElem_cons_succ, List.getElem_cons_zero, List.setIfInBounds_toArray, List.set_cons_zero, List.set_cons_succ]
      refine wpAnyH_take (i := 14) (v := ?_) rfl (by kernel_rfl) (by kernel_rfl) (by kernel_rfl) (fun _ _ _ h => h) (Or.inl ⟨by rfl, ?_⟩) (by assumption) ?_
      rotate_left
      · (intro w hSw; (try dsimp only at hSw); (try simp only [List.getElem_toArray, List.getElem_cons_succ, List.getElem_cons_zero]); first | (go_simp; done) | (go_simp; with_reducible rfl))
      try simp only [Act.put, List.getElem_toArray, List.getElem_cons_succ, List.getElem_cons_zero, List.setIfInBounds_toArray, List.set_cons_zero, List.set_cons_succ]
      refine wpAnyH_take (i := 15) (v := ?_) rfl (by kernel_rfl) (by kernel_rfl) (by kernel_rfl) (fun _ _ _ h => h) (Or.inl ⟨by rfl, ?_⟩) (by assumption) ?_
      rotate_left
      · (intro w hSw; (try dsimp only at hSw); (try simp only [List.getElem_toArray, List.getElem_cons_succ, List.getElem_cons_zero]); first | (go_simp; done) | (go_simp; with_reducible rfl))
      try simp only [Act.put, List.getElem_toArray, List.getElem_cons_succ, List.getElem_cons_zero, List.setIfInBounds_toArray, List.set_cons_zero, List.set_cons_succ]
      refine wpAnyH_take (i := 16) (v := ?_) rfl (by kernel_rfl) (by kernel_rfl) (by kernel_rfl) (fun _ _ _ h => h) (Or.inl ⟨by rfl, ?_⟩) (by assumption) ?_
      rotate_left
      · (intro w hSw; (try dsimp only at hSw); (try simp only [List.getElem_toArray, List.getElem_cons_succ, List.getElem_cons_zero]); first | (go_simp; done) | (go_simp; with_reducible rfl))
      try simp only [Act.put, List.getElem_toArray, List.getElem_cons_succ, List.getElem_cons_zero, List.setIfInBounds_toArray, List.set_cons_zero, List.set_cons_succ]
      refine wpAnyH_take (i := 17) (v := ?_) rfl (by kernel_rfl) (by kernel_rfl) (by kernel_rfl) (fun _ _ _ h => h) (Or.inl ⟨by rfl, ?_⟩) (by assumption) ?_
      rotate_left
      · (intro w hSw; (try dsimp only at hSw); (try simp only [List.getElem_toArray, List.getElem_cons_succ, List.getElem_cons_zero]); first | (go_simp; done) | (go_simp; with_reducible rfl))
      try simp only [Act.put, List.getElem_toArray, List.getElem_cons_succ, List.getElem_cons_zero, List.setIfInBounds_toArray, List.set_cons_zero, List.set_cons_succ]
      refine wpAnyH_take (i := 18) (v := ?_) rfl (by kernel_rfl) (by kernel_rfl) (by kernel_rfl) (fun _ _ _ h => h) (Or.inl ⟨by rfl, ?_⟩) (by assumption) ?_
      rotate_left
      · (intro w hSw; (try dsimp only at hSw); (try simp only [List.getElem_toArray, List.getElem_cons_succ, List.getElem_cons_zero]); first | (go_simp; done) | (go_simp; with_reducible rfl))
      try simp only [Act.put, List.getElem_toArray, List.getElem_cons_succ, List.getElem_cons_zero, List.setIfInBounds_toArray, List.set_cons_zero, List.set_cons_succ]
      refine wpAnyH_take (i := 19) (v := ?_) rfl (by kernel_rfl) (by kernel_rfl) (by kernel_rfl) (fun _ _ _ h => h) (Or.inl ⟨by rfl, ?_⟩) (by assumption) ?_
      rotate_left
      · (intro w hSw; (try dsimp only at hSw); (try simp only [List.getElem_toArray, List.getElem_cons_succ, List.getElem_cons_zero]); first | (go_simp; done) | (go_simp; with_reducible rfl))
      try simp only [Act.put, List.getElem_toArray, List.getElem_cons_succ, List.getElem_cons_zero, List.setIfInBounds_toArray, List.set_cons_zero, List.set_cons_succ]
      refine wpAnyH_ready (rs := [20]) (by kernel_rfl) (by simp) ?_
      refine AllReadyH.cons rfl (fun K hK => ?_) AllReadyH.nil
      try simp only [List.getElem_toArray, List.getElem_cons_succ, List.getElem_cons_zero]
      go_simp
      go_at_call 61; refine (lowerR_any lo hi T r L m cT R C f k v (x + y) _ (H.out.keep (w' := w.drew) (fun _ _ _ => rfl) (Nat.le_refl _)) hk hL hv).mono ?_; rintro e2 w2 ⟨rfl, ht2, ho2⟩; have HT2 := Lib.hid ht2; have HO2 := Lib.hid ho2.undrew; have k2 : w2.cell? ⟨T, p, none⟩ = some (.slice (some ⟨R p, 0, none⟩) m (C p)) ∧ w2.cell? ⟨T, q, none⟩ = some (.slice (some ⟨R q, 0, none⟩) m (C q)) ∧ w2.cell? ⟨R p, v, none⟩ = some (.int .i64 x) ∧ w2.cell? ⟨R q, v, none⟩ = some (.int .i64 y) := ⟨ht2.top p hp, ht2.top q hq, (by have h9 := (ht2.row p v hp hv).1; rw [HK1.out] at h9; exact h9), (by have h9 := (ht2.row q v hq hv).1; rw [HK2.out] at h9; exact h9)⟩; clear ht2 ho2
      refine hK.out _ _ ?_ (fun hHeld => ?_)
      · exact k2
      clear hK K
      try simp only [Act.put, List.getElem_toArray, List.getElem_cons_succ, List.getElem_cons_zero, List.setIfInBounds_toArray, List.set_cons_zero, List.set_cons_succ]
      refine wpAnyH_done (by kernel_rfl) ?_ _
      go_wp2_with fail
      go_end0
      exact ⟨rfl, HT2.out, HO2.out⟩
    · go_enter Tryd.func70, Tryd.ntmps70
      go_wp2_with fail
      go_end0
      exact ⟨rfl, H.out, OnT.refl _ _ _ _⟩
  · go_enter Tryd.func70, Tryd.ntmps70
    go_wp2_with fail
    go_end0
    exact ⟨rfl, H.out, OnT.refl _ _ _ _⟩
/-- rows of roots, and one under way -/
noncomputable def rowsF (ws : List Wy) (k : Nat) (r : Nat → Int) : Nat → Nat → Int := fun i v => if i = k then r v else FT ws i v
def putR (r : Nat → Int) (v : Nat) (c : Int) : Nat → Int := fun u => if u = v then lowC (r v) c else r u
theorem rows_low (ws : List Wy) (k : Nat) (r : Nat → Int) (v : Nat) (c : Int) (i j : Nat) : lowF (rowsF ws k r) k v c i j = rowsF ws k (putR r v c) i j := by
  have e0 : rowsF ws k r k v = r v := by unfold rowsF; rw [if_pos rfl]
  unfold lowF
  rw [e0]
  unfold rowsF putR lowC
  by_cases h1 : i = k
  · by_cases h2 : j = v
    · by_cases h3 : r v < 0 ∨ c < r v
      · rw [if_pos ⟨h1, h2, h3⟩, if_pos h1, if_pos h2, if_pos h3]
      · rw [if_neg (fun e => h3 e.2.2), if_pos h1, if_pos h1, if_pos h2, if_neg h3, h2]
    · rw [if_neg (fun e => h2 e.2.1), if_pos h1, if_pos h1, if_neg h2]
  · rw [if_neg (fun e => h1 e.1), if_neg h1, if_neg h1]
theorem rows_other {ws : List Wy} {k : Nat} {r : Nat → Int} {i : Nat} (h : i ≠ k) (v : Nat) : rowsF ws k r i v = FT ws i v := by unfold rowsF; rw [if_neg h]
theorem rows_at (ws : List Wy) (k : Nat) (r : Nat → Int) (v : Nat) : rowsF ws k r k v = r v := by unfold rowsF; rw [if_pos rfl]
theorem dn_sub {k p : Nat} (hk : k < 64) (hp : p &&& k = p) (h0 : 0 < p) : (p - 1) &&& k < p ∧ ((p - 1) &&& k) &&& k = (p - 1) &&& k := by
  have hpk : p ≤ k := by rw [← hp]; exact Nat.and_le_right
  exact dn_all ⟨k, hk⟩ ⟨p, by omega⟩ hp h0
theorem dn_next {k p P : Nat} (hk : k < 64) (hp : p &&& k = p) (h0 : 0 < p) (hP : P < p) (hs : P &&& k = P) : P ≤ (p - 1) &&& k := by
  have hpk : p ≤ k := by rw [← hp]; exact Nat.and_le_right
  exact dn_next_all ⟨k, hk⟩ ⟨p, by omega⟩ hp h0 ⟨P, by omega⟩ hP hs
theorem nd_or {k p : Nat} (hk : k < 64) (hp : p &&& k = p) : p ||| nd k p = k ∧ nd k p ≤ k ∧ (0 < p → nd k p < k) ∧ nd k p &&& k = nd k p := by
  have hpk : p ≤ k := by rw [← hp]; exact Nat.and_le_right
  exact nd_all ⟨k, hk⟩ ⟨p, by omega⟩ hp
theorem bits_dn {k p : Nat} (hk : k < 64) (hp : p ≤ k) (h0 : 0 < p) : bits .and .i64 ((p : Int) - 1) (k : Int) = ((((p - 1) &&& k : Nat)) : Int) := by
  rw [bits_and _ _ (by omega) (by omega) (by omega) (by omega)]
  unfold iand
  rw [Int.toNat_natCast, show ((p : Int) - 1).toNat = p - 1 by omega]
theorem bits_nd {k p : Nat} (hk : k < 64) (hp : p ≤ k) : bits .andNot .i64 (k : Int) (p : Int) = ((nd k p : Nat) : Int) := by
  rw [bits_andNot _ _ (by omega) (by omega) (by omega) (by omega)]
  exact nd_is k p
theorem bits_or_nd {k p : Nat} (hk : k < 64) (hp : p &&& k = p) : bits .or .i64 (p : Int) ((nd k p : Nat) : Int) = (k : Int) := by
  have hpk : p ≤ k := by rw [← hp]; exact Nat.and_le_right
  obtain ⟨h1, h2, _⟩ := nd_or hk hp
  rw [bits_or _ _ (by omega) (by omega) (by omega) (by omega)]
  unfold ior
  rw [Int.toNat_natCast, Int.toNat_natCast, h1]
theorem bits_and0 : bits .and .i64 (-1) 0 = 0 := by decide

set_option maxHeartbeats 4000000 in
theorem splitEnds_any (lo hi T L m cT k : Nat) (R C : Nat → Nat) (ws : List Wy) (r0 : Nat → Int) (w : World) (h : TabR w lo hi T (k + 1) m R C (rowsF ws k r0)) (hn : NetIs (m : Int) ws) (hL : k < L) (hk6 : k < 64) (hkm : k < 2 ^ m) (hs : ∀ u, u < m → SplitC ws k k u (r0 u)) :
    Calls Tryd.prog 54 #[.slice (some ⟨T, 0, none⟩) L cT, .int .i64 k] w fun e w' => e = .returned (.tuple #[]) ∧ ∃ r1, TabR w' lo hi T (k + 1) m R C (rowsF ws k r1) ∧ (∀ u, u < m → SplitC ws k 1 u (r1 u)) ∧ OnT lo hi T w w' := by
  have H := Lib.hid h
  have HS := Lib.hid hs
  have HN := Lib.hid hn
  have hm6 := hn.hi
  have k0 : (0 : Int) ≤ (k : Int) := by omega
  have kL : (k : Int) < (L : Int) := by omega
  have hk1 : k < k + 1 := by omega
  clear h hs hn
  have hba0 := bits_and0
  -- the first part
  obtain ⟨P0, hP0, hP1, hP2⟩ : ∃ P0 : Nat, bits .and .i64 ((k : Int) - 1) (k : Int) = (P0 : Int) ∧ (P0 < k ∨ k = 0 ∧ P0 = 0) ∧ P0 &&& k = P0 ∧ (∀ P, P0 + 1 ≤ P → P < k → 0 < P → P &&& k = P → k ≤ P) := by
    by_cases hk0 : k = 0
    · subst hk0
      refine ⟨0, ?_, .inr ⟨rfl, rfl⟩, rfl, fun P _ h => by omega⟩
      exact bits_and0
    · have hs : k &&& k = k := Nat.and_self k
      have hd := dn_sub hk6 hs (by omega)
      refine ⟨(k - 1) &&& k, ?_, .inl hd.1, hd.2, fun P h1 h2 h3 h4 => ?_⟩
      · exact bits_dn hk6 (Nat.le_refl _) (by omega)
      · have := dn_next hk6 hs (by omega) h2 h4
        omega
  have hP2a := hP2.1
  have HP2 := Lib.hid hP2.2
  clear hP2
  go_enter Tryd.func54, Tryd.ntmps54
  go_wp2_with fail
  go_loopw [4] (fun c wr => ∃ (p : Nat) (r : Nat → Int), c = .int .i64 p ∧ (p < k ∨ k = 0 ∧ p = 0) ∧ p &&& k = p ∧ TabR wr lo hi T (k + 1) m R C (rowsF ws k r) ∧ (∀ u, u < m → SplitC ws k (p + 1) u (r u)) ∧ OnT lo hi T w wr) (fun c _ => (intOf c).toNat)
  case atStart => exact ⟨P0, r0, by first | rfl | (rw [hP0]), hP1, hP2a, H.out, fun u hu => (HS.out u hu).down HP2.out, OnT.refl _ _ _ _⟩
  case round =>
    clear hP0 hP1 hP2a HP2
    obtain ⟨p, r, rfl, hp1, hp2, htab, hsp, hon⟩ := hrel
    have HTB := Lib.hid htab
    have HSP := Lib.hid hsp
    have HON := Lib.hid hon
    clear htab hsp hon
    by_cases hp0 : 0 < p
    · have hp0' : (0 : Int) < (p : Int) := by omega
      have hpk : p < k := by omega
      obtain ⟨ho1, ho2, ho3, ho4⟩ := nd_or hk6 hp2
      have hqk : nd k p < k := ho3 hp0
      have tk := HTB.out.top k hk1
      go_wp2_with fail
      clear tk
      go_loopw [21] (fun c wr => ∃ (v : Nat) (r : Nat → Int), v ≤ m ∧ c = .int .i64 v ∧ TabR wr lo hi T (k + 1) m R C (rowsF ws k r) ∧ (∀ u, u < m → SplitC ws k (if u < v then p else p + 1) u (r u)) ∧ OnT lo hi T w wr) (fun c _ => m - (intOf c).toNat)
      case atStart => exact ⟨0, r, Nat.zero_le _, rfl, HTB.out, fun u hu => by rw [if_neg (by omega)]; exact HSP.out u hu, HON.out⟩
      case round =>
        clear HTB HSP HON
        obtain ⟨v, r, hv, rfl, htab, hsp, hon⟩ := hrel
        have HTB := Lib.hid htab
        have HSP := Lib.hid hsp
        have HON := Lib.hid hon
        clear htab hsp hon
        have v0 : (0 : Int) ≤ (v : Int) := by omega
        by_cases hlv : v < m
        · have v1 : (v : Int) < (m : Int) := by omega
          have hnd := bits_nd hk6 (show p ≤ k by omega)
          have hor := bits_or_nd hk6 hp2
          have b1 := FT_bd HN.out p v
          have b2 := FT_bd HN.out (nd k p) v
          have HJ := joinParts_any lo hi T (k + 1) L m cT R C (rowsF ws k r) p (nd k p) k v
          have HOR := Lib.hid hor
          have HB1 := Lib.hid b1
          have HB2 := Lib.hid b2
          clear hor b1 b2
          go_wp2_with fail
          refine (HJ _ HTB.out (by omega) (by omega) hk1 (by omega) hlv (by omega) (by omega) HOR.out (by rw [rows_other (by omega)]; have := HB1.out; omega) (by rw [rows_other (by omega)]; have := HB2.out; omega)).mono ?_; rintro e w2 ⟨rfl, ht2, ho2⟩
          rw [rows_other (show p ≠ k by omega), rows_other (show nd k p ≠ k by omega)] at ht2
          have HO2 := Lib.hid (HON.out.trans ho2)
          have HT2 := Lib.hid ht2
          clear ht2 ho2 HJ
          go_wp2_with fail
          go_roundw
          case rel =>
            by_cases hb : 0 ≤ FT ws p v ∧ 0 ≤ FT ws (nd k p) v
            · refine ⟨v + 1, putR r v (FT ws p v + FT ws (nd k p) v), by omega, by go_num, ?_, fun u hu => ?_, HO2.out⟩
              · have h := HT2.out
                rw [if_pos hb] at h
                exact h.congr (fun i j _ _ => rows_low ws k r v _ i j)
              · have hsu := HSP.out u hu
                unfold putR
                by_cases e : u = v
                · subst e
                  rw [if_neg (by omega)] at hsu
                  rw [if_pos rfl, if_pos (by omega)]
                  exact hsu.take HN.out hkm hp2 hu hb.1 hb.2
                · rw [if_neg e]
                  by_cases e2 : u < v
                  · rw [if_pos e2] at hsu; rw [if_pos (by omega)]; exact hsu
                  · rw [if_neg e2] at hsu; rw [if_neg (by omega)]; exact hsu
            · refine ⟨v + 1, r, by omega, by go_num, ?_, fun u hu => ?_, HO2.out⟩
              · have h := HT2.out
                rw [if_neg hb] at h
                exact h
              · have hsu := HSP.out u hu
                by_cases e : u = v
                · subst e
                  rw [if_neg (by omega)] at hsu
                  rw [if_pos (by omega)]
                  exact hsu.skip hb
                · by_cases e2 : u < v
                  · rw [if_pos e2] at hsu; rw [if_pos (by omega)]; exact hsu
                  · rw [if_neg e2] at hsu; rw [if_neg (by omega)]; exact hsu
          case measure => (simp [intOf]) <;> omega
        · have hvm : v = m := by omega
          subst hvm
          have hdn := dn_sub hk6 hp2 hp0
          have hand := bits_dn hk6 (show p ≤ k by omega) hp0
          have hsub : IntKind.i64.wrap ((p : Int) - 1) = (p : Int) - 1 := IntWalk.i64_in _ ⟨by omega, by omega⟩
          have HND := Lib.hid (show ∀ P, ((p - 1) &&& k) + 1 ≤ P → P < k → 0 < P → P &&& k = P → p ≤ P from fun P h1 h2 h3 h4 => by
            apply Classical.byContradiction
            intro hno
            have := dn_next hk6 hp2 hp0 (show P < p by omega) h4
            omega)
          have HSPP := Lib.hid (show ∀ u, u < v → SplitC ws k (((p - 1) &&& k) + 1) u (r u) from fun u hu => by
            have h := HSP.out u hu
            rw [if_pos hu] at h
            exact h.down HND.out)
          have hdl : (p - 1) &&& k < k := by omega
          clear HSP HND
          go_wp2_with fail
          clear hsub
          go_roundw
          case rel => exact ⟨(p - 1) &&& k, r, by first | rfl | (rw [hand]), .inl hdl, hdn.2, HTB.out, HSPP.out, HON.out⟩
          case measure => simp only [intOf]; first | omega | (rw [hand]; simp only [intOf]; omega)
    · have hp0' : ¬ (0 : Int) < (p : Int) := by omega
      have hpz : p = 0 := by omega
      subst hpz
      go_wp2_with fail
      go_end0
      exact ⟨rfl, r, HTB.out, HSP.out, HON.out⟩
set_option maxHeartbeats 4000000 in
theorem moveFeet_any (lo hi T L m cT k T0 lo0 hi0 c0 : Nat) (R C R0 C0 : Nat → Nat) (ws : List Wy) (r0 : Nat → Int) (w : World) (h : TabR w lo hi T (k + 1) m R C (rowsF ws k r0)) (hf : TabM w lo0 hi0 T0 m R0 C0 (farF ws m)) (hd : hi0 ≤ lo) (hn : NetIs (m : Int) ws) (hL : k < L) (hkm : k < 2 ^ m) (hs : ∀ u, u < m → SplitC ws k 1 u (r0 u)) :
    Calls Tryd.prog 55 #[.slice (some ⟨T, 0, none⟩) L cT, .int .i64 k, .slice (some ⟨T0, 0, none⟩) m c0] w fun e w' => e = .returned (.tuple #[]) ∧ TabR w' lo hi T (k + 1) m R C (FT ws) ∧ OnT lo hi T w w' := by
  have H := Lib.hid h
  have HF := Lib.hid hf
  have HS := Lib.hid hs
  have HN := Lib.hid hn
  have hm6 := hn.hi
  have k0 : (0 : Int) ≤ (k : Int) := by omega
  have kL : (k : Int) < (L : Int) := by omega
  have hk1 : k < k + 1 := by omega
  clear h hf hs hn
  go_enter Tryd.func55, Tryd.ntmps55
  go_wp2_with fail
  go_loopw [10] (fun c wr => ∃ (a : Nat) (r : Nat → Int), a ≤ m ∧ c = .int .i64 a ∧ TabR wr lo hi T (k + 1) m R C (rowsF ws k r) ∧ (∀ u, u < m → MoveC m ws k r0 u a (200 + 1000 * (a : Int)) (r u)) ∧ OnT lo hi T w wr) (fun c _ => m - (intOf c).toNat)
  case atStart => exact ⟨0, r0, Nat.zero_le _, rfl, H.out, fun u hu => MoveC.first (HS.out u hu) (by omega), OnT.refl _ _ _ _⟩
  case round =>
    obtain ⟨a, r, ha, rfl, htab, hmv, hon⟩ := hrel
    have HTB := Lib.hid htab
    have HMV := Lib.hid hmv
    have HON := Lib.hid hon
    clear htab hmv hon
    have a0 : (0 : Int) ≤ (a : Int) := by omega
    by_cases hla : a < m
    · have a1 : (a : Int) < (m : Int) := by omega
      have HFA := HF.out.only HON.out.only (.inl hd)
      have ta := HFA.top a hla
      have HRA := Lib.hid (show r a ≤ 200 + 1000 * (a : Int) from ((HMV.out a hla).bd).2)
      go_wp2_with fail
      clear HFA ta
      go_loopw [18] (fun c wr => ∃ (b : Nat) (r : Nat → Int), b ≤ m ∧ c = .int .i64 b ∧ TabR wr lo hi T (k + 1) m R C (rowsF ws k r) ∧ (∀ u, u < m → MoveC m ws k r0 u (if u < b then a + 1 else a) (1200 + 1000 * (a : Int)) (r u)) ∧ r a ≤ 200 + 1000 * (a : Int) ∧ OnT lo hi T w wr) (fun c _ => m - (intOf c).toNat)
      case atStart => exact ⟨0, r, Nat.zero_le _, rfl, HTB.out, fun u hu => by rw [if_neg (by omega)]; exact (HMV.out u hu).more (by omega), HRA.out, HON.out⟩
      case round =>
        clear HTB HMV HON HRA
        obtain ⟨b, r, hb, rfl, htab, hmv, hra, hon⟩ := hrel
        have HTB := Lib.hid htab
        have HMV := Lib.hid hmv
        have HON := Lib.hid hon
        clear htab hmv hon
        have b0 : (0 : Int) ≤ (b : Int) := by omega
        by_cases hlb : b < m
        · have b1 : (b : Int) < (m : Int) := by omega
          have HFB := HF.out.only HON.out.only (.inl hd)
          have ta := HFB.top a hla
          have rab := (HFB.row a b hla hlb).1
          have tk := HTB.out.top k hk1
          have rka := (HTB.out.row k a hk1 hla).1
          rw [rows_at] at rka
          have hfd := farF_bd HN.out hla hlb
          have hdg : b = a → farF ws m a b = 0 := fun e => by rw [e]; exact farF_diag HN.out hla
          have hso := (HMV.out a hla).so
          have hle := (HMV.out a hla).le
          obtain ⟨x, hx⟩ : ∃ x, r a = x := ⟨_, rfl⟩
          obtain ⟨D, hD⟩ : ∃ D, farF ws m a b = D := ⟨_, rfl⟩
          rw [hx] at rka hra hso hle
          rw [hD] at rab hfd hdg
          have HX := Lib.hid hx
          have HD := Lib.hid hD
          have HFB' := Lib.hid HFB
          have HSO := Lib.hid hso
          have HLE := Lib.hid hle
          have HDG := Lib.hid hdg
          clear hx hD HFB hso hle hdg
          by_cases hx0 : 0 ≤ x
          · by_cases hd0 : 0 ≤ D
            · have HKA : Hid (lowF (rowsF ws k r) k b (x + D) k a = x) := by
                show lowF (rowsF ws k r) k b (x + D) k a = x
                unfold lowF
                rw [rows_at, rows_at]
                by_cases e : a = b
                · have := HDG.out e.symm
                  subst e
                  rw [HX.out, if_neg (by omega)]
                · rw [if_neg (fun h => e h.2.1), HX.out]
              have hwr : IntKind.i64.wrap (x + D) = x + D := IntWalk.i64_in _ ⟨by omega, by omega⟩
              have hwr2 : wrap64 (x + D) = x + D := IntWalk.wrap64_in _ ⟨by omega, by omega⟩
              go_wp2_with fail
              refine wp_region_held_drew (S := (fun w' => w'.cell? ⟨T, k, none⟩ = some (.slice (some ⟨R k, 0, none⟩) m (C k)) ∧ w'.cell? ⟨R k, a, none⟩ = some (.int .i64 x) ∧ w'.cell? ⟨T0, a, none⟩ = some (.slice (some ⟨R0 a, 0, none⟩) m (C0 a)) ∧ w'.cell? ⟨R0 a, b, none⟩ = some (.int .i64 D))) (by kernel_rfl) ?_ (fun hHeld => ?_)
              · exact ⟨tk, rka, ta, rab⟩
              refine wpAnyH_take (i := 0) (v := ?_) rfl (by kernel_rfl) (by kernel_rfl) (by kernel_rfl) (fun _ _ _ h => h) (Or.inl ⟨by rfl, ?_⟩) (by assumption) ?_
              rotate_left
              · (intro w hSw; (try dsimp only at hSw); (try simp only [List.getElem_toArray, List.getElem_cons_succ, List.getElem_cons_zero]); first | (go_simp; done) | (go_simp; with_reducible rfl))
              try simp only [Act.put, List.getElem_toArray, List.getElem_cons_succ, List.getElem_cons_zero, List.setIfInBounds_toArray, List.set_cons_zero, List.set_cons_succ]
              refine wpAnyH_take (i := 1) (v := ?_) rfl (by kernel_rfl) (by kernel_rfl) (by kernel_rfl) (fun _ _ _ h => h) (Or.inl ⟨by rfl, ?_⟩) (by assumption) ?_
              rotate_left
              · (intro w hSw; (try dsimp only at hSw); (try simp only [List.getElem_toArray, List.getElem_cons_succ, List.getElem_cons_zero]); first | (go_simp; done) | (go_simp; with_reducible rfl))
              try simp only [Act.put, List.getElem_toArray, List.getElem_cons_succ, List.getElem_cons_zero, List.setIfInBounds_toArray, List.set_cons_zero, List.set_cons_succ]
              refine wpAnyH_take (i := 2) (v := ?_) rfl (by kernel_rfl) (by kernel_rfl) (by kernel_rfl) (fun _ _ _ h => h) (Or.inl ⟨by rfl, ?_⟩) (by assumption) ?_
              rotate_left
              · (intro w hSw; (try dsimp only at hSw); (try simp only [List.getElem_toArray, List.getElem_cons_succ, List.getElem_cons_zero]); first | (go_simp; done) | (go_simp; with_reducible rfl))
              try simp only [Act.put, List.getElem_toArray, List.getElem_cons_succ, List.getElem_cons_zero, List.setIfInBounds_toArray, List.set_cons_zero, List.set_cons_succ]
              refine wpAnyH_take (i := 3) (v := ?_) rfl (by kernel_rfl) (by kernel_rfl) (by kernel_rfl) (fun _ _ _ h => h) (Or.inl ⟨by rfl, ?_⟩) (by assumption) ?_
              rotate_left
              · (intro w hSw; (try dsimp only at hSw); (try simp only [List.getElem_toArray, List.getElem_cons_succ, List.getElem_cons_zero]); first | (go_simp; done) | (go_simp; with_reducible rfl))
              try simp only [Act.put, List.getElem_toArray, List.getElem_cons_succ, List.getElem_cons_zero, List.setIfInBounds_toArray, List.set_cons_zero, List.set_cons_succ]
              refine wpAnyH_take (i := 4) (v := ?_) rfl (by kernel_rfl) (by kernel_rfl) (by kernel_rfl) (fun _ _ _ h => h) (Or.inl ⟨by rfl, ?_⟩) (by assumption) ?_
              rotate_left
              · (intro w hSw; (try dsimp only at hSw); (try simp only [List.getElem_toArray, List.getElem_cons_succ, List.getElem_cons_zero]); first | (go_simp; done) | (go_simp; with_reducible rfl))
              try simp only [Act.put, List.getElem_toArray, List.getElem_cons_succ, List.getElem_cons_zero, List.setIfInBounds_toArray, List.set_cons_zero, List.set_cons_succ]
              refine wpAnyH_take (i := 5) (v := ?_) rfl (by kernel_rfl) (by kernel_rfl) (by kernel_rfl) (fun _ _ _ h => h) (Or.inl ⟨by rfl, ?_⟩) (by assumption) ?_
              rotate_left
              · (intro w hSw; (try dsimp only at hSw); (try simp only [List.getElem_toArray, List.getElem_cons_succ, List.getElem_cons_zero]); first | (go_simp; done) | (go_simp; with_reducible rfl))
              try simp only [Act.put, List.getElem_toArray, List.getElem_cons_succ, List.getElem_cons_zero, List.setIfInBounds_toArray, List.set_cons_zero, List.set_cons_succ]
              refine wpAnyH_take (i := 6) (v := ?_) rfl (by kernel_rfl) (by kernel_rfl) (by kernel_rfl) (fun _ _ _ h => h) (Or.inl ⟨by rfl, ?_⟩) (by assumption) ?_
              rotate_left
              · (intro w hSw; (try dsimp only at hSw); (try simp only [List.getElem_toArray, List.getElem_cons_succ, List.getElem_cons_zero]); first | (go_simp; done) | (go_simp; with_reducible rfl))
              try simp only [Act.put, List.getElem_toArray, List.getElem_cons_succ, List.getElem_cons_zero, List.setIfInBounds_toArray, List.set_cons_zero, List.set_cons_succ]
              refine wpAnyH_take (i := 7) (v := ?_) rfl (by kernel_rfl) (by kernel_rfl) (by kernel_rfl) (fun _ _ _ h => h) (Or.inl ⟨by rfl, ?_⟩) (by assumption) ?_
              rotate_left
              · (intro w hSw; (try dsimp only at hSw); (try simp only [List.getElem_toArray, List.getElem_cons_succ, List.getElem_cons_zero]); first | (go_simp; done) | (go_simp; with_reducible rfl))
              try simp only [Act.put, List.getElem_toArray, List.getElem_cons_succ, List.getElem_cons_zero, List.setIfInBounds_toArray, List.set_cons_zero, List.set_cons_succ]
              refine wpAnyH_take (i := 8) (v := ?_) rfl (by kernel_rfl) (by kernel_rfl) (by kernel_rfl) (fun _ _ _ h => h) (Or.inl ⟨by rfl, ?_⟩) (by assumption) ?_
              rotate_left
              · (intro w hSw; (try dsimp only at hSw); (try simp only [List.getElem_toArray, List.getElem_cons_succ, List.getElem_cons_zero]); first | (go_simp; done) | (go_simp; with_reducible rfl))
              try simp only [Act.put, List.getElem_toArray, List.getElem_cons_succ, List.getElem_cons_zero, List.setIfInBounds_toArray, List.set_cons_zero, List.set_cons_succ]
              refine wpAnyH_take (i := 9) (v := ?_) rfl (by kernel_rfl) (by kernel_rfl) (by kernel_rfl) (fun _ _ _ h => h) (Or.inl ⟨by rfl, ?_⟩) (by assumption) ?_
              rotate_left
              · (intro w hSw; (try dsimp only at hSw); (try simp only [List.getElem_toArray, List.getElem_cons_succ, List.getElem_cons_zero]); first | (go_simp; done) | (go_simp; with_reducible rfl))
              try simp only [Act.put, List.getElem_toArray, List.getElem_cons_succ, List.getElem_cons_zero, List.setIfInBounds_toArray, List.set_cons_zero, List.set_cons_succ]
              refine wpAnyH_take (i := 10) (v := ?_) rfl (by kernel_rfl) (by kernel_rfl) (by kernel_rfl) (fun _ _ _ h => h) (Or.inl ⟨by rfl, ?_⟩) (by assumption) ?_
              rotate_left
              · (intro w hSw; (try dsimp only at hSw); (try simp only [List.getElem_toArray, List.getElem_cons_succ, List.getElem_cons_zero]); first | (go_simp; done) | (go_simp; with_reducible rfl))
              try simp only [Act.put, List.getElem_toArray, List.getElem_cons_succ, List.getElem_cons_zero, List.setIfInBounds_toArray, List.set_cons_zero, List.set_cons_succ]
              refine wpAnyH_take (i := 11) (v := ?_) rfl (by kernel_rfl) (by kernel_rfl) (by kernel_rfl) (fun _ _ _ h => h) (Or.inl ⟨by rfl, ?_⟩) (by assumption) ?_
              rotate_left
              · (intro w hSw; (try dsimp only at hSw); (try simp only [List.getElem_toArray, List.getElem_cons_succ, List.getElem_cons_zero]); first | (go_simp; done) | (go_simp; with_reducible rfl))
              try simp only [Act.put, List.getElem_toArray, List.getElem_cons_succ, List.getElem_cons_zero, List.setIfInBounds_toArray, List.set_cons_zero, List.set_cons_succ]
              refine wpAnyH_take (i := 12) (v := ?_) rfl (by kernel_rfl) (by kernel_rfl) (by kernel_rfl) (fun _ _ _ h => h) (Or.inl ⟨by rfl, ?_⟩) (by assumption) ?_
              rotate_left
              · (intro w hSw; (try dsimp only at hSw); (try simp only [List.getElem_toArray, List.getElem_cons_succ, List.getElem_cons_zero]); first | (go_simp; done) | (go_simp; with_reducible rfl))
              try simp only [Act.put, List.getElem_toArray, List.getElem_cons_succ, List.getElem_cons_zero, List.setIfInBounds_toArray, List.set_cons_zero, List.set_cons_succ]
              refine wpAnyH_take (i := 13) (v := ?_) rfl (by kernel_rfl) (by kernel_rfl) (by kernel_rfl) (fun _ _ _ h => h) (Or.inl ⟨by rfl, ?_⟩) (by assumption) ?_
              rotate_left
              · (intro w hSw; (try dsimp only at hSw); (try simp only [List.getElem_toArray, List.getElem_cons_succ, List.getElem_cons_zero]); first | (go_simp; done) | (go_simp; with_reducible rfl))
              try simp only [Act.put, List.getElem_toArray, List.getElem_cons_succ, List.getElem_cons_zero, List.setIfInBounds_toArray, List.set_cons_zero, List.set_cons_succ]
              refine wpAnyH_take (i := 14) (v := ?_) rfl (by kernel_rfl) (by kernel_rfl) (by kernel_rfl) (fun _ _ _ h => h) (Or.inl ⟨by rfl, ?_⟩) (by assumption) ?_
              rotate_left
              · (intro w hSw; (try dsimp only at hSw); (try simp only [List.getElem_toArray, List.getElem_cons_succ, List.getElem_cons_zero]); first | (go_simp; done) | (go_simp; with_reducible rfl))
              try simp only [Act.put, List.getElem_toArray, List.getElem_cons_succ, List.getElem_cons_zero, List.setIfInBounds_toArray, List.set_cons_zero, List.set_cons_succ]
              refine wpAnyH_take (i := 15) (v := ?_) rfl (by kernel_rfl) (by kernel_rfl) (by kernel_rfl) (fun _ _ _ h => h) (Or.inl ⟨by rfl, ?_⟩) (by assumption) ?_
              rotate_left
              · (intro w hSw; (try dsimp only at hSw); (try simp only [List.getElem_toArray, List.getElem_cons_succ, List.getElem_cons_zero]); first | (go_simp; done) | (go_simp; with_reducible rfl))
              try simp only [Act.put, List.getElem_toArray, List.getElem_cons_succ, List.getElem_cons_zero, List.setIfInBounds_toArray, List.set_cons_zero, List.set_cons_succ]
              refine wpAnyH_take (i := 16) (v := ?_) rfl (by kernel_rfl) (by kernel_rfl) (by kernel_rfl) (fun _ _ _ h => h) (Or.inl ⟨by rfl, ?_⟩) (by assumption) ?_
              rotate_left
              · (intro w hSw; (try dsimp only at hSw); (try simp only [List.getElem_toArray, List.getElem_cons_succ, List.getElem_cons_zero]); first | (go_simp; done) | (go_simp; with_reducible rfl))
              try simp only [Act.put, List.getElem_toArray, List.getElem_cons_succ, List.getElem_cons_zero, List.setIfInBounds_toArray, List.set_cons_zero, List.set_cons_succ]
              refine wpAnyH_take (i := 17) (v := ?_) rfl (by kernel_rfl) (by kernel_rfl) (by kernel_rfl) (fun _ _ _ h => h) (Or.inl ⟨by rfl, ?_⟩) (by assumption) ?_
              rotate_left
              · (intro w hSw; (try dsimp only at hSw); (try simp only [List.getElem_toArray, List.getElem_cons_succ, List.getElem_cons_zero]); first | (go_simp; done) | (go_simp; with_reducible rfl))
              try simp only [Act.put, List.getElem_toArray, List.getElem_cons_succ, List.getElem_cons_zero, List.setIfInBounds_toArray, List.set_cons_zero, List.set_cons_succ]
              refine wpAnyH_ready (rs := [18]) (by kernel_rfl) (by simp) ?_
              refine AllReadyH.cons rfl (fun K hK => ?_) AllReadyH.nil
              try simp only [List.getElem_toArray, List.getElem_cons_succ, List.getElem_cons_zero]
              go_simp
              go_at_call 61; refine (lowerR_any lo hi T (k + 1) L m cT R C (rowsF ws k r) k b (x + D) _ (HTB.out.keep (w' := wr.drew) (fun _ _ _ => rfl) (Nat.le_refl _)) hk1 (by omega) hlb).mono ?_; rintro e2 w2 ⟨rfl, ht2, ho2⟩; have HT2 := Lib.hid ht2; have HO2 := Lib.hid (HON.out.trans ho2.undrew); have hf9 := HFB'.out.only ho2.undrew.only (.inl hd); have k2 : w2.cell? ⟨T, k, none⟩ = some (.slice (some ⟨R k, 0, none⟩) m (C k)) ∧ w2.cell? ⟨R k, a, none⟩ = some (.int .i64 x) ∧ w2.cell? ⟨T0, a, none⟩ = some (.slice (some ⟨R0 a, 0, none⟩) m (C0 a)) ∧ w2.cell? ⟨R0 a, b, none⟩ = some (.int .i64 D) := ⟨ht2.top k hk1, (by have h9 := (ht2.row k a hk1 hla).1; rw [HKA.out] at h9; exact h9), hf9.top a hla, (by have h9 := (hf9.row a b hla hlb).1; rw [HD.out] at h9; exact h9)⟩; clear ht2 ho2 hf9
              refine hK.out _ _ ?_ (fun hHeld => ?_)
              · exact k2
              clear hK K
              try simp only [Act.put, List.getElem_toArray, List.getElem_cons_succ, List.getElem_cons_zero, List.setIfInBounds_toArray, List.set_cons_zero, List.set_cons_succ]
              refine wpAnyH_done (by kernel_rfl) ?_ _
              clear hwr hwr2
              go_wp2_with fail
              go_roundw
              case rel =>
                refine ⟨b + 1, putR r b (x + D), by omega, by go_num, HT2.out.congr (fun i j _ _ => rows_low ws k r b _ i j), fun u hu => ?_, ?_, HO2.out⟩
                · have hsu := HMV.out u hu
                  unfold putR
                  by_cases e : u = b
                  · subst e
                    rw [if_neg (by omega)] at hsu
                    rw [if_pos rfl, if_pos (by omega), ← HD.out]
                    exact hsu.take HN.out hkm hla hu hx0 (HSO.out hx0) (fun h => (HLE.out h).2) (by rw [HD.out]; exact hd0) (by rw [HD.out]; omega)
                  · rw [if_neg e]
                    by_cases e2 : u < b
                    · rw [if_pos e2] at hsu; rw [if_pos (by omega)]; exact hsu
                    · rw [if_neg e2] at hsu; rw [if_neg (by omega)]; exact hsu
                · unfold putR
                  by_cases e : a = b
                  · have := HDG.out e.symm
                    rw [if_pos e, ← e, HX.out]
                    have := (low_told (n := x) (c := x + D) (by omega)).2.1
                    omega
                  · rw [if_neg e, HX.out]; exact hra
              case measure => (simp [intOf]) <;> omega
            · go_wp2_with fail
              go_roundw
              case rel =>
                refine ⟨b + 1, r, by omega, by go_num, HTB.out, fun u hu => ?_, by rw [HX.out]; exact hra, HON.out⟩
                have hsu := HMV.out u hu
                by_cases e : u = b
                · subst e
                  rw [if_neg (by omega)] at hsu
                  rw [if_pos (by omega)]
                  exact hsu.skip (fun h => by rw [HD.out] at h; omega)
                · by_cases e2 : u < b
                  · rw [if_pos e2] at hsu; rw [if_pos (by omega)]; exact hsu
                  · rw [if_neg e2] at hsu; rw [if_neg (by omega)]; exact hsu
              case measure => (simp [intOf]) <;> omega
          · go_wp2_with fail
            go_roundw
            case rel =>
              refine ⟨b + 1, r, by omega, by go_num, HTB.out, fun u hu => ?_, by rw [HX.out]; exact hra, HON.out⟩
              have hsu := HMV.out u hu
              by_cases e : u = b
              · subst e
                rw [if_neg (by omega)] at hsu
                rw [if_pos (by omega)]
                exact hsu.skip (fun h => by have := (HLE.out h.1).1; omega)
              · by_cases e2 : u < b
                · rw [if_pos e2] at hsu; rw [if_pos (by omega)]; exact hsu
                · rw [if_neg e2] at hsu; rw [if_neg (by omega)]; exact hsu
            case measure => (simp [intOf]) <;> omega
        · have hbm : b = m := by omega
          subst hbm
          go_wp2_with fail
          go_roundw
          case rel => exact ⟨a + 1, r, by omega, by go_num, HTB.out, fun u hu => by
            have h := HMV.out u hu
            rw [if_pos hu] at h
            exact h.more (by omega), HON.out⟩
          case measure => (simp [intOf]) <;> omega
    · have ham : a = m := by omega
      subst ham
      go_wp2_with fail
      go_end0
      refine ⟨rfl, HTB.out.congr (fun i j hi hj => ?_), HON.out⟩
      unfold rowsF
      by_cases e : i = k
      · rw [if_pos e, e]
        exact foot_is HN.out hkm hj HS.out (HMV.out j hj)
      · rw [if_neg e]
end Go.Proofs.YtbbomajgmgmigaaDoor
namespace Go.Proofs.YtbbomajgmgmigaaDoor
open Go.ChangeShapes Go.WideShapes Go.ChangeAt Go.RowKit

def footF (k b : Nat) : Int := if idiff (k : Int) (2 ^ b) = 0 then 0 else -1
theorem foot_first {m : Nat} {ws : List Wy} (hn : NetIs (m : Int) ws) (k : Nat) {u : Nat} (hu : u < m) : SplitC ws k k u (footF k u) :=
  SplitC.first hn hu (fun h => by unfold footF; rw [if_pos (only1_iff.1 h)]) (fun h => by unfold footF; rw [if_neg (fun e => h (only1_iff.2 e))])
theorem new_cells (w : World) (m : Nat) (v : Value) (t : TypeId) (j : Nat) (hj : j < m) : (w.alloc (.cells (Array.replicate m v) t)).cell? ⟨w.heap.size, j, none⟩ = some v ∧ (w.alloc (.cells (Array.replicate m v) t)).frozen? ⟨w.heap.size, j, none⟩ = false := by
  have h := heap_alloc_new w (.cells (Array.replicate m v) t)
  refine ⟨?_, by unfold World.frozen?; rw [h]; simp⟩
  rw [cell_of_row _ _ j _ _ (0, 0) h]
  simp [hj]
set_option maxHeartbeats 2000000 in
theorem firstFeet_any (m k : Nat) (A : Option Addr) (l cap : Nat) (w : World) (hm6 : m ≤ 6) (hk6 : k < 64) :
    Calls Tryd.prog 53 #[.agg #[.int .i64 m, .slice A l cap], .int .i64 k] w fun e w' => ∃ g, w.heap.size ≤ g ∧ g < w'.heap.size ∧ e = .returned (.slice (some ⟨g, 0, none⟩) m m) ∧ (∀ b, b < m → w'.cell? ⟨g, b, none⟩ = some (.int .i64 (footF k b)) ∧ w'.frozen? ⟨g, b, none⟩ = false) ∧ Below w.heap.size w w' := by
  have hmk2 := fun W => mkRow W m hm6
  go_enter Tryd.func53, Tryd.ntmps53
  go_wp2_with fail
  go_loopw [12] (fun i wr => ∃ v : Nat, v ≤ m ∧ i = .int .i64 v ∧ RowF wr (w.heap.size + 1) (w.heap.size + 1 + 1) (some ⟨w.heap.size + 1, 0, none⟩) m (fun j => if j < v then footF k j else 0) ∧ Below w.heap.size w wr) (fun i _ => m - (intOf i).toNat)
  case atStart =>
    refine ⟨0, Nat.zero_le _, rfl, ⟨fun j hj => ?_, by simp⟩, by go_grown⟩
    have h := new_cells (w.alloc (.cells #[.int .i64 m, .slice A l cap] 25)) m (.int .i64 0) 3 j hj
    rw [World.size_alloc] at h
    exact ⟨w.heap.size + 1, 0, rfl, Nat.le_refl _, Nat.lt_succ_self _, by rw [if_neg (by omega), Nat.zero_add]; exact h.1, by rw [Nat.zero_add]; exact h.2⟩
  case round =>
    clear hmk2
    obtain ⟨v, hv, rfl, hrow, hb⟩ := hrel
    have HRO := Lib.hid hrow
    have HB := Lib.hid hb
    clear hrow hb
    have v0 : (0 : Int) ≤ (v : Int) := by omega
    by_cases hlv : v < m
    · have v1 : (v : Int) < (m : Int) := by omega
      obtain ⟨b, o, e, _, _, c0, f0⟩ := HRO.out.at_ v hlv
      injection e with e
      injection e with e1 e2
      subst e1; subst e2
      rw [Nat.zero_add] at c0 f0
      have pv := pow_bd (v : Int) 6 (by omega)
      rw [Int.toNat_natCast] at pv
      have han : bits .andNot .i64 (k : Int) (2 ^ v) = idiff (k : Int) (2 ^ v) := bits_andNot _ _ (by omega) (by omega) (by omega) (by omega)
      have hw1 : IntKind.i64.wrap (2 ^ v) = 2 ^ v := IntWalk.i64_in _ ⟨by omega, by omega⟩
      have hw2 : wrap64 (2 ^ v) = 2 ^ v := IntWalk.wrap64_in _ ⟨by omega, by omega⟩
      by_cases hz : idiff (k : Int) (2 ^ v) = 0
      · have HV : Hid (footF k v = 0) := if_pos hz
        have hd1 : bits .andNot .i64 (k : Int) (2 ^ v) = 0 := by rw [han, hz]
        rw [if_neg (by omega)] at c0
        clear han hz pv
        go_wp2_with fail
        clear hw1 hw2
        refine ⟨⟨v + 1, by omega, by go_num, HRO.out.congr (fun j hj => ?_), HB.out⟩, by simp [intOf]; omega⟩
        by_cases e : j = v
        · subst e; rw [if_neg (by omega), if_pos (by omega), HV.out]
        · by_cases e2 : j < v
          · rw [if_pos e2, if_pos (by omega)]
          · rw [if_neg e2, if_neg (by omega)]
      · have HV : Hid (footF k v = -1) := if_neg hz
        have hd3 : ¬ bits .andNot .i64 (k : Int) (2 ^ v) = 0 := by rw [han]; exact hz
        rw [if_neg (by omega)] at c0
        have hB2 : Hid (Below w.heap.size w (wr.setCell ⟨w.heap.size + 1, v, none⟩ (.int .i64 (-1)))) := by
          have h9 := HB.out
          show Below w.heap.size w (wr.setCell ⟨w.heap.size + 1, v, none⟩ (.int .i64 (-1)))
          go_grown
        clear han hz pv
        go_wp2_with fail
        clear hw1 hw2
        go_roundw
        case rel =>
          have hput := HRO.out.put hlv (-1)
          have hb2 := hB2.out
          simp only [Nat.zero_add] at hput
          refine ⟨v + 1, by omega, by go_num, hput.congr (fun j hj => ?_), hb2⟩
          by_cases e : j = v
          · subst e; simp only [if_true]; rw [if_pos (by omega), HV.out]
          · simp only [if_neg e]
            by_cases e2 : j < v
            · rw [if_pos e2, if_pos (by omega)]
            · rw [if_neg e2, if_neg (by omega)]
        case measure => simp [intOf]; omega
    · have hvm : v = m := by omega
      subst hvm
      go_wp2_with fail
      go_ret
      refine ⟨w.heap.size + 1, by omega, ?_, rfl, fun b hb => ?_, HB.out⟩
      · have := HRO.out.top; omega
      · obtain ⟨b', o', e, _, _, c0, f0⟩ := HRO.out.at_ b hb
        injection e with e
        injection e with e1 e2
        subst e1; subst e2
        rw [if_pos hb, Nat.zero_add] at c0
        rw [Nat.zero_add] at f0
        exact ⟨c0, f0⟩
theorem mkTop4 (W : World) : (Instr.makeSlice 31 (.int .i64 ((4 : Nat) : Int)) (.int .i64 ((4 : Nat) : Int))).run Tryd.prog W = .ok (.slice (some ⟨W.heap.size, 0, none⟩) 4 4) (W.alloc (.cells (Array.replicate 4 (.slice none 0 0)) 33)) := by kernel_rfl
theorem mkTop8 (W : World) : (Instr.makeSlice 31 (.int .i64 ((8 : Nat) : Int)) (.int .i64 ((8 : Nat) : Int))).run Tryd.prog W = .ok (.slice (some ⟨W.heap.size, 0, none⟩) 8 8) (W.alloc (.cells (Array.replicate 8 (.slice none 0 0)) 33)) := by kernel_rfl
theorem mkTop16 (W : World) : (Instr.makeSlice 31 (.int .i64 ((16 : Nat) : Int)) (.int .i64 ((16 : Nat) : Int))).run Tryd.prog W = .ok (.slice (some ⟨W.heap.size, 0, none⟩) 16 16) (W.alloc (.cells (Array.replicate 16 (.slice none 0 0)) 33)) := by kernel_rfl
theorem mkTop32 (W : World) : (Instr.makeSlice 31 (.int .i64 ((32 : Nat) : Int)) (.int .i64 ((32 : Nat) : Int))).run Tryd.prog W = .ok (.slice (some ⟨W.heap.size, 0, none⟩) 32 32) (W.alloc (.cells (Array.replicate 32 (.slice none 0 0)) 33)) := by kernel_rfl
theorem mkTop64 (W : World) : (Instr.makeSlice 31 (.int .i64 ((64 : Nat) : Int)) (.int .i64 ((64 : Nat) : Int))).run Tryd.prog W = .ok (.slice (some ⟨W.heap.size, 0, none⟩) 64 64) (W.alloc (.cells (Array.replicate 64 (.slice none 0 0)) 33)) := by kernel_rfl
theorem mkTop (W : World) (m N : Nat) (h2 : 2 ≤ m) (h6 : m ≤ 6) (hN : 2 ^ m = N) : (Instr.makeSlice 31 (.int .i64 ((N : Nat) : Int)) (.int .i64 ((N : Nat) : Int))).run Tryd.prog W = .ok (.slice (some ⟨W.heap.size, 0, none⟩) N N) (W.alloc (.cells (Array.replicate N (.slice none 0 0)) 33)) := by
  have : m = 2 ∨ m = 3 ∨ m = 4 ∨ m = 5 ∨ m = 6 := by omega
  rcases this with rfl | rfl | rfl | rfl | rfl
  · have : N = 4 := by rw [← hN]
    subst this; exact mkTop4 W
  · have : N = 8 := by rw [← hN]
    subst this; exact mkTop8 W
  · have : N = 16 := by rw [← hN]
    subst this; exact mkTop16 W
  · have : N = 32 := by rw [← hN]
    subst this; exact mkTop32 W
  · have : N = 64 := by rw [← hN]
    subst this; exact mkTop64 W
/-- a new table over all sets -/
def NewFeet (m : Nat) (ws : List Wy) (w : World) (e : Ending) (w' : World) : Prop :=
  ∃ T cT lo hi R C, e = .returned (.slice (some ⟨T, 0, none⟩) (2 ^ m) cT) ∧ TabR w' lo hi T (2 ^ m) m R C (FT ws) ∧ w.heap.size ≤ lo ∧ Below w.heap.size w w'
set_option maxHeartbeats 4000000 in
theorem FootTable_any (m : Nat) (A : Option Addr) (cap : Nat) (ws : List Wy) (w : World) (hr : RW w w.heap.size A ws) (hno : netOk (m : Int) ws = true) :
    Calls Tryd.prog 27 #[.agg #[.int .i64 m, .slice A ws.length cap]] w (NewFeet m ws w) := by
  have HR := Lib.hid hr
  have HNO := Lib.hid hno
  have hn := netOk_t hno
  have HN := Lib.hid hn
  have hn2 := hn.lo
  have hn6 := hn.hi
  have hm2 : 2 ≤ m := by omega
  have hm6 : m ≤ 6 := by omega
  unfold NewFeet
  obtain ⟨N, hN⟩ : ∃ N, 2 ^ m = N := ⟨_, rfl⟩
  rw [hN]
  have hN64 : N ≤ 64 := by rw [← hN]; exact Nat.pow_le_pow_right (n := 2) (by omega) hm6
  have hall : allPl (m : Int) + 1 = (N : Int) := by
    unfold allPl
    rw [Int.toNat_natCast, ← hN]
    simp
  have hwN : IntKind.i64.wrap (allPl (m : Int) + 1) = (N : Int) := by rw [hall]; exact IntWalk.i64_in _ ⟨by omega, by omega⟩
  have hmk1 := fun W => mkTop W m N hm2 hm6 hN
  have HNN := Lib.hid hN
  clear hr hno hn hN hall
  go_enter Tryd.func27, Tryd.ntmps27
  go_wp2_with fail
  refine (NetOk_any (m : Int) A cap ws _ (HR.out.later (by go_grown))).mono ?_; rintro e w1 ⟨rfl, hb1⟩; rw [HNO.out]
  have k1 : w1.cell? ⟨w.heap.size, 0, none⟩ = some (.int .i64 m) ∧ w1.cell? ⟨w.heap.size, 1, none⟩ = some (.slice A ws.length cap) := by
    obtain ⟨hc1, hf1⟩ := bcell hb1
    exact ⟨by go_simp, by go_simp⟩
  have hz1 : w.heap.size < w1.heap.size := by have hq := hb1.size; (try simp at hq); omega
  have HB1 := Lib.hid (bstep (B := w.heap.size) (W := w) (by go_grown) (by go_size) hb1)
  clear hb1
  obtain ⟨k10, k11⟩ := k1
  go_wp2_with fail
  refine (FarTable_any m A cap ws _ (HR.out.later HB1.out) HNO.out).mono ?_; rintro e w2 ⟨T0, hT0, rfl, htab, hb2⟩
  obtain ⟨k20, k21⟩ := keep2 hb2 ⟨k10, k11⟩ hz1
  have hz2 : w.heap.size < w2.heap.size := Nat.lt_of_lt_of_le hz1 hb2.size
  have HB2 := Lib.hid (bstep (B := w.heap.size) (W := w) HB1.out (Nat.le_of_lt hz1) hb2)
  have HF2 := Lib.hid htab
  clear hb2 htab hT0
  go_wp2_with fail
  refine (allPlaces_any (m : Int) _ (by omega) (by omega) _).mono ?_; rintro e w3 ⟨rfl, hb3⟩
  obtain ⟨k30, k31⟩ := keep2 hb3 ⟨k20, k21⟩ hz2
  have hz3 : w.heap.size < w3.heap.size := Nat.lt_of_lt_of_le hz2 hb3.size
  have HB3 := Lib.hid (bstep (B := w.heap.size) (W := w) HB2.out (Nat.le_of_lt hz2) hb3)
  have HF3 := Lib.hid (HF2.out.below hb3)
  have htop : T0 + 1 + m ≤ w3.heap.size := HF3.out.his
  clear hb3
  go_wp2_with fail
  clear hmk1 hwN
  obtain ⟨T, hT⟩ : ∃ T, w3.heap.size = T := ⟨_, rfl⟩
  have hTz : w.heap.size < T := by omega
  have hst : (∀ j, j < N → (w3.alloc (.cells (Array.replicate N (.slice none 0 0)) 33)).cell? ⟨T, j, none⟩ = some (.slice none 0 0) ∧ (w3.alloc (.cells (Array.replicate N (.slice none 0 0)) 33)).frozen? ⟨T, j, none⟩ = false) := fun j hj => by
    have h := new_cells w3 N (.slice none 0 0) 33 j hj
    rw [hT] at h; exact h
  have hsz : (w3.alloc (.cells (Array.replicate N (.slice none 0 0)) 33)).heap.size = T + 1 := by rw [World.size_alloc, hT]
  have k40 : (w3.alloc (.cells (Array.replicate N (.slice none 0 0)) 33)).cell? ⟨w.heap.size, 0, none⟩ = some (.int .i64 m) := (World.cell?_alloc_lt _ _ _ hz3).trans k30
  have k41 : (w3.alloc (.cells (Array.replicate N (.slice none 0 0)) 33)).cell? ⟨w.heap.size, 1, none⟩ = some (.slice A ws.length cap) := (World.cell?_alloc_lt _ _ _ hz3).trans k31
  have HB4 := Lib.hid (HB3.out.alloc (Nat.le_of_lt hz3) (.cells (Array.replicate N (.slice none 0 0)) 33))
  have HF4 := Lib.hid (HF3.out.below ((Below.refl w3.heap.size w3).alloc (Nat.le_refl _) (.cells (Array.replicate N (.slice none 0 0)) 33)))
  rw [hT] at htop ⊢
  generalize hw4 : w3.alloc (.cells (Array.replicate N (.slice none 0 0)) 33) = w4 at hst hsz k40 k41 HB4 HF4 ⊢
  have HST := Lib.hid hst
  clear hst k10 k11 k20 k21 k30 k31 HB1 HB2 HB3 HF2 HF3 hw4 hz1 hz2 hz3 hT
  go_loopw [17] (fun c wr => ∃ (k : Nat) (R C : Nat → Nat), k ≤ N ∧ c = .int .i64 k ∧ wr.cell? ⟨w.heap.size, 0, none⟩ = some (.int .i64 m) ∧ wr.cell? ⟨w.heap.size, 1, none⟩ = some (.slice A ws.length cap) ∧ Below w.heap.size w wr ∧ T < wr.heap.size ∧ TabM wr T0 (T0 + 1 + m) T0 m (fun i => T0 + 1 + i) (fun _ => m) (farF ws m) ∧ (∀ j, k ≤ j → j < N → wr.cell? ⟨T, j, none⟩ = some (.slice none 0 0) ∧ wr.frozen? ⟨T, j, none⟩ = false) ∧ TabR wr T wr.heap.size T k m R C (FT ws)) (fun c _ => N - (intOf c).toNat)
  case atStart => exact ⟨0, fun _ => 0, fun _ => 0, Nat.zero_le _, rfl, k40, k41, HB4.out, by omega, HF4.out, fun j _ hj => HST.out j hj, ⟨fun a h => by omega, fun a b h => by omega, fun a b h => by omega, fun a h => by omega, ⟨Nat.le_refl _, by omega⟩, fun a h => by omega, Nat.le_refl _⟩⟩
  case round =>
    clear k40 k41 HB4 HF4 HST hsz
    obtain ⟨k, R, C, hk, rfl, b0, b1, hb, hz, hfar, hfree, htab⟩ := hrel
    have HB0 := Lib.hid hb
    have HF0 := Lib.hid hfar
    have HFR := Lib.hid hfree
    have HT0 := Lib.hid htab
    have k0 : (0 : Int) ≤ (k : Int) := by omega
    clear hb hfar hfree htab
    by_cases hlk : k < N
    · have k1 : (k : Int) < (N : Int) := by omega
      have hkm : k < 2 ^ m := by rw [HNN.out]; exact hlk
      have hhz : w.heap.size < wr.heap.size := by omega
      go_wp2_with fail
      refine (firstFeet_any m k A ws.length cap _ hm6 (by omega)).mono ?_; rintro e w5 ⟨g, hg1, hg2, rfl, hrow, hb5⟩
      obtain ⟨c0, c1⟩ := keep2 hb5 ⟨b0, b1⟩ hhz
      have z5 : w.heap.size < w5.heap.size := Nat.lt_of_lt_of_le hhz hb5.size
      have t5 : T < w5.heap.size := Nat.lt_of_lt_of_le hz hb5.size
      obtain ⟨hfc, hff⟩ := HFR.out k (Nat.le_refl _) hlk
      have hfc5 := (hb5.cell (p := ⟨T, k, none⟩) hz).trans hfc
      have hff5 : w5.frozen? ⟨T, k, none⟩ = false := (World.frozen?_of_block (w := wr) (hb5.block T hz)).trans hff
      have HB5 := Lib.hid (bstep (B := w.heap.size) (W := w) HB0.out (Nat.le_of_lt hhz) hb5)
      have HM : Hid (TabR (w5.setCell ⟨T, k, none⟩ (.slice (some ⟨g, 0, none⟩) m m)) T w5.heap.size T (k + 1) m (fun i => if i = k then g else R i) (fun i => if i = k then m else C i) (rowsF ws k (footF k))) := (HT0.out.below hb5).more hg1 hg2 hrow hfc5
      have HFR5 := Lib.hid (show ∀ j, k + 1 ≤ j → j < N → (w5.setCell ⟨T, k, none⟩ (.slice (some ⟨g, 0, none⟩) m m)).cell? ⟨T, j, none⟩ = some (.slice none 0 0) ∧ (w5.setCell ⟨T, k, none⟩ (.slice (some ⟨g, 0, none⟩) m m)).frozen? ⟨T, j, none⟩ = false from fun j h1 h2 => by
        obtain ⟨q1, q2⟩ := HFR.out j (by omega) h2
        rw [World.cell?_setCell_other _ _ _ _ (by intro e'; simp only [Addr.mk.injEq] at e'; omega), World.frozen?_setCell]
        exact ⟨(hb5.cell (p := ⟨T, j, none⟩) hz).trans q1, (World.frozen?_of_block (w := wr) (hb5.block T hz)).trans q2⟩)
      have ho6 : Only T w5.heap.size w5 (w5.setCell ⟨T, k, none⟩ (.slice (some ⟨g, 0, none⟩) m m)) := (Only.refl T w5.heap.size w5).setCell (p := ⟨T, k, none⟩) ⟨Nat.le_refl _, t5⟩ _
      have HF6 := Lib.hid ((HF0.out.below hb5).only ho6 (.inl htop))
      have HB6 := Lib.hid (Below.only_ HB5.out (Nat.le_of_lt hTz) (Nat.le_of_lt z5) ho6)
      obtain ⟨d0, d1⟩ := ho6.keep2_ hTz z5 ⟨c0, c1⟩
      have hs6 : (w5.setCell ⟨T, k, none⟩ (.slice (some ⟨g, 0, none⟩) m m)).heap.size = w5.heap.size := by simp [World.setCell]
      clear hb5 hrow hfc hff ho6
      go_wp2_with fail
      generalize hw6 : w5.setCell ⟨T, k, none⟩ (.slice (some ⟨g, 0, none⟩) m m) = w6 at HM HFR5 HF6 HB6 d0 d1 hs6 ⊢
      clear hw6 hfc5 hff5 c0 c1 HFR HT0 HB0 HF0 b0 b1
      refine (splitEnds_any T w5.heap.size T N m N k _ _ ws (footF k) _ HM.out HN.out hlk (by omega) hkm (fun u hu => foot_first HN.out k hu)).mono ?_; rintro e w7 ⟨rfl, r1, ht7, hs7, ho7⟩
      have HT7 := Lib.hid ht7
      have HS7 := Lib.hid hs7
      have HF7 := Lib.hid (HF6.out.only ho7.only (.inl htop))
      have HB7 := Lib.hid (Below.only_ HB6.out (Nat.le_of_lt hTz) (by omega) ho7.only)
      obtain ⟨e0, e1⟩ := ho7.only.keep2_ hTz (by omega) ⟨d0, d1⟩
      have hz7 := ho7.only.size
      have htp7 := ho7.top
      clear ht7 hs7 ho7 HM
      go_wp2_with fail
      refine (moveFeet_any T w5.heap.size T N m N k T0 T0 (T0 + 1 + m) m _ _ _ _ ws r1 _ HT7.out HF7.out htop HN.out hlk hkm HS7.out).mono ?_; rintro e w8 ⟨rfl, ht8, ho8⟩
      have HF8 := Lib.hid (HF7.out.only ho8.only (.inl htop))
      have HB8 := Lib.hid (Below.only_ HB7.out (Nat.le_of_lt hTz) (by omega) ho8.only)
      obtain ⟨f0, f1⟩ := ho8.only.keep2_ hTz (by omega) ⟨e0, e1⟩
      have hz8 := ho8.only.size
      have htp8 := ho8.top.trans htp7
      have HT8 := Lib.hid (ht8.wider (by omega) (Nat.le_refl _))
      have HFR8 := Lib.hid (show ∀ j, k + 1 ≤ j → j < N → w8.cell? ⟨T, j, none⟩ = some (.slice none 0 0) ∧ w8.frozen? ⟨T, j, none⟩ = false from fun j h1 h2 => by
        obtain ⟨q1, q2⟩ := HFR5.out j h1 h2
        exact ⟨(World.cell?_of_block (w := w6) htp8).trans q1, (World.frozen?_of_block (w := w6) htp8).trans q2⟩)
      clear ht8 ho8 htp7 htp8 HT7 HS7
      go_wp2_with fail
      go_roundw
      case rel => exact ⟨k + 1, _, _, by omega, by go_num, f0, f1, HB8.out, by omega, HF8.out, HFR8.out, HT8.out⟩
      case measure => simp [intOf]; omega
    · have hkN : k = N := by omega
      subst hkN
      go_wp2_with fail
      go_ret
      exact ⟨T, k, T, wr.heap.size, R, C, rfl, HT0.out, Nat.le_of_lt hTz, HB0.out⟩
theorem FootTable_none (n : Int) (A : Option Addr) (cap : Nat) (ws : List Wy) (w : World) (hr : RW w w.heap.size A ws) (hno : netOk n ws = false) :
    Calls Tryd.prog 27 #[.agg #[.int .i64 n, .slice A ws.length cap]] w fun e w' => e = .returned (.slice none 0 0) ∧ Below w.heap.size w w' := by
  have HR := Lib.hid hr
  have HNO := Lib.hid hno
  clear hr hno
  go_enter Tryd.func27, Tryd.ntmps27
  go_wp2_with fail
  refine (NetOk_any _ _ _ _ _ (HR.out.later (by go_grown))).mono ?_; rintro e w1 ⟨rfl, hb1⟩
  rw [HNO.out]
  obtain ⟨hc1, hf1⟩ := bcell hb1
  have hz1_0 : w.heap.size < w1.heap.size := by have hq := hb1.size; (try simp at hq); omega
  have HK1 := Lib.hid hb1
  have HB1 := Lib.hid (bstep (B := w.heap.size) (W := w) (by (try have hp := HB0.out); go_grown) (by go_size) hb1); clear hb1
  go_wp2_with fail
  go_ret
  exact ⟨rfl, HB1.out⟩
end Go.Proofs.YtbbomajgmgmigaaDoor
