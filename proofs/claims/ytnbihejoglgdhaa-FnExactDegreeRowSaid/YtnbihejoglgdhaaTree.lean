/- A set of ways joins at most one place more than it has ways; so no way of a tree is needless. Plain mathematics. -/
import Derived.Test.YtnbihejoglgdhaaSets
namespace Go.Proofs.Ytnbihejoglgdhaa
open Go.RowKit

theorem pop_place_all : ∀ (r : Fin 64) (j : Fin 6), r.val.testBit j.val = false → pop ((r.val ||| 2 ^ j.val : Nat) : Int) = pop (r.val : Int) + 1 := by decide +kernel
theorem pop_way_all : ∀ (u : Fin 512) (k : Fin 9), u.val.testBit k.val = false → pop ((u.val ||| 2 ^ k.val : Nat) : Int) = pop (u.val : Int) + 1 := by decide +kernel
theorem pop_less_all : ∀ (u : Fin 512) (k : Fin 9), u.val.testBit k.val = true → pop ((u.val - 2 ^ k.val : Nat) : Int) + 1 = pop (u.val : Int) := by decide +kernel
theorem pop_place {r j : Int} (r0 : 0 ≤ r) (r1 : r < 64) (j0 : 0 ≤ j) (j1 : j < 6) (h : bit r j = false) : pop (ior r (2 ^ j.toNat)) = pop r + 1 := by
  have := pop_place_all ⟨r.toNat, by omega⟩ ⟨j.toNat, by omega⟩ h
  simp only at this
  rw [Int.toNat_of_nonneg r0] at this
  rw [← this]
  unfold ior
  rw [pow_toNat]
theorem pop_add {u : Int} {k : Nat} (u0 : 0 ≤ u) (u1 : u < 512) (hk : k < 9) (h : bit u k = false) : pop (ior u (2 ^ k)) = pop u + 1 := by
  have := pop_way_all ⟨u.toNat, by omega⟩ ⟨k, hk⟩ (by simpa [bit] using h)
  simp only at this
  rw [Int.toNat_of_nonneg u0] at this
  rw [← this]
  unfold ior
  have := pow_toNat (k : Int)
  rw [Int.toNat_natCast] at this
  rw [this]
theorem pop_less {u : Int} {k : Nat} (u0 : 0 ≤ u) (u1 : u < 512) (hk : k < 9) (h : bit u k = true) : pop (u - 2 ^ k) + 1 = pop u := by
  have hb : u.toNat.testBit k = true := by simpa [bit] using h
  have := pop_less_all ⟨u.toNat, by omega⟩ ⟨k, hk⟩ hb
  simp only at this
  rw [Int.toNat_of_nonneg u0] at this
  rw [← this]
  have hge : 2 ^ k ≤ u.toNat := Nat.ge_two_pow_of_testBit hb
  have e : ((2 : Int) ^ k) = ((2 ^ k : Nat) : Int) := by simp
  have e2 : u - 2 ^ k = ((u.toNat - 2 ^ k : Nat) : Int) := by omega
  rw [e2]
theorem popF_sub : ∀ (f x y : Nat), (∀ i, x.testBit i = true → y.testBit i = true) → popF f x ≤ popF f y
  | 0, _, _, _ => Nat.le_refl _
  | f + 1, x, y, h => by
    have ih := popF_sub f (x / 2) (y / 2) (fun i hi => by
      have := h (i + 1)
      rw [Nat.testBit_succ, Nat.testBit_succ] at this
      exact this hi)
    have h0 := h 0
    rw [Nat.testBit_zero, Nat.testBit_zero] at h0
    simp only [decide_eq_true_eq] at h0
    rw [popF, popF]
    omega
theorem pop_sub {u s : Int} (h : ∀ q, 0 ≤ q → bit u q = true → bit s q = true) : pop u ≤ pop s := by
  have := popF_sub 20 u.toNat s.toNat (fun i hi => by
    have := h (i : Int) (by omega)
    simpa [bit, hi] using this)
  unfold pop; omega

/-- what is come to, and the ways by which it grew -/
structure GrownBy (ws : List Wy) (s p r u : Int) : Prop where
  on : OnWay ws s p r
  onu : OnWay ws u p r
  u0 : 0 ≤ u
  u1 : u < 512
  sub : ∀ q, 0 ≤ q → bit u q = true → bit s q = true
  ends : ∀ (k : Nat) (x : Wy), ws[k]? = some x → bit u k = true → bit r x.a = true ∧ bit r x.b = true
  cnt : pop r = pop u + 1
theorem bit_pow (k : Nat) (i : Int) (hi : 0 ≤ i) : bit (2 ^ k) i = decide (i = k) := by
  have := bit_shl (k : Int) i (by omega) hi
  rwa [Int.toNat_natCast] at this
theorem OnWay.more {ws : List Wy} {s s' p r : Int} (h : OnWay ws s p r) (hs : ∀ q, 0 ≤ q → bit s q = true → bit s' q = true) : OnWay ws s' p r :=
  ⟨h.lo, h.hi, h.has, fun T hT hc => h.least T hT fun k x hx hb => hc k x hx (hs k (by omega) hb)⟩
theorem grown_ex {n : Int} {ws : List Wy} {s p : Int} (hn : NetIs n ws) : ∀ (m : Nat) (r u : Int), (64 - r).toNat ≤ m → GrownBy ws s p r u → ∃ r' u', GrownBy ws s p r' u' ∧ Closed ws s (bit r')
  | 0, r, u, hm, h => by have := h.on.hi; omega
  | m + 1, r, u, hm, h => by
    by_cases hc : Closed ws s (bit r)
    · exact ⟨r, u, h, hc⟩
    · have hex : ∃ (k : Nat) (x : Wy), ws[k]? = some x ∧ bit s k = true ∧ bit r x.a ≠ bit r x.b := by
        apply Classical.byContradiction
        intro hno
        apply hc
        intro k x hx hb
        apply Classical.byContradiction
        intro hne
        exact hno ⟨k, x, hx, hb, hne⟩
      obtain ⟨k, x, hx, hb, hne⟩ := hex
      obtain ⟨a0, a1, b0, b1, _⟩ := hn.at_ hx
      have h6 := hn.hi
      have hl9 := hn.len
      have hk := (List.getElem?_eq_some_iff.1 hx).1
      have r0 := h.on.lo
      have r1 := h.on.hi
      have huk : bit u k = false := by
        cases hq : bit u k
        · rfl
        · obtain ⟨e1, e2⟩ := h.ends k x hx hq
          exact absurd (e1.trans e2.symm) hne
      have ht : bit r x.a = true ∨ bit r x.b = true := by
        cases h1 : bit r x.a <;> cases h2 : bit r x.b <;> simp_all
      have hon := h.on.step hn hx hb ht
      -- the one place that is new
      obtain ⟨c, c0, c6, hcf, hcr⟩ : ∃ c : Int, 0 ≤ c ∧ c < 6 ∧ bit r c = false ∧ ior r (ior (2 ^ x.a.toNat) (2 ^ x.b.toNat)) = ior r (2 ^ c.toNat) := by
        cases h1 : bit r x.a
        · have h2 : bit r x.b = true := by rcases ht with h | h; · rw [h1] at h; cases h
                                           · exact h
          refine ⟨x.a, a0, by omega, h1, set_ext hon.lo ?_ fun q hq => ?_⟩
          · unfold ior; omega
          · rw [bit_ior, bit_ior, bit_ior, bit_shl _ _ a0 hq, bit_shl _ _ b0 hq]
            by_cases hqb : q = x.b
            · rw [hqb, h2]; simp
            · simp [hqb]
        · have h2 : bit r x.b = false := by
            cases h2 : bit r x.b
            · rfl
            · exact absurd (h1.trans h2.symm) hne
          refine ⟨x.b, b0, by omega, h2, set_ext hon.lo ?_ fun q hq => ?_⟩
          · unfold ior; omega
          · rw [bit_ior, bit_ior, bit_ior, bit_shl _ _ a0 hq, bit_shl _ _ b0 hq]
            by_cases hqa : q = x.a
            · rw [hqa, h1]; simp
            · simp [hqa]
      have hpk := pow_bd (k : Int) 8 (by omega)
      rw [Int.toNat_natCast] at hpk
      have hub := ior_bd u (2 ^ k) 9 (by have := h.u1; omega) (by omega)
      have hge := ior_ge r (ior (2 ^ x.a.toNat) (2 ^ x.b.toNat)) r0
      have hnew : ior r (ior (2 ^ x.a.toNat) (2 ^ x.b.toNat)) ≠ r := by
        intro e
        rw [hcr] at e
        have : bit (ior r (2 ^ c.toNat)) c = true := by rw [bit_ior, bit_shl c c c0 c0]; simp
        rw [e, hcf] at this; cases this
      refine grown_ex hn m (ior r (ior (2 ^ x.a.toNat) (2 ^ x.b.toNat))) (ior u (2 ^ k)) (by have := hon.hi; omega) ⟨hon, (h.onu.more (s' := ior u (2 ^ k)) (fun q hq hbq => by rw [bit_ior, hbq]; rfl)).step hn hx (by rw [bit_ior, bit_pow k k (by omega)]; simp) ht, hub.1, by omega, fun q hq hbq => ?_, fun j y hy hbj => ?_, ?_⟩
      · rw [bit_ior, bit_pow k q hq] at hbq
        simp only [Bool.or_eq_true, decide_eq_true_eq] at hbq
        rcases hbq with hbq | hbq
        · exact h.sub q hq hbq
        · rw [hbq]; exact hb
      · rw [bit_ior, bit_pow k (j : Int) (by omega)] at hbj
        simp only [Bool.or_eq_true, decide_eq_true_eq] at hbj
        rcases hbj with hbj | hbj
        · obtain ⟨e1, e2⟩ := h.ends j y hy hbj
          rw [bit_ior r _ y.a, bit_ior r _ y.b, e1, e2]
          exact ⟨rfl, rfl⟩
        · have hjk : j = k := by omega
          subst hjk
          rw [hx] at hy; injection hy with hy; subst hy
          rw [bit_ior, bit_ior, bit_ior, bit_ior, bit_shl _ _ a0 a0, bit_shl _ _ b0 b0]
          simp
      · rw [hcr, pop_place r0 r1 c0 c6 hcf, pop_add h.u0 h.u1 (by omega) huk, h.cnt]
/-- from a place at most one place more is come to than there are ways -/
theorem pop_reach {n : Int} {ws : List Wy} {s p : Int} (hn : NetIs n ws) (hp : 0 ≤ p) (hp' : p < n) : pop (reach ws s p) ≤ pop s + 1 := by
  have h6 := hn.hi
  have hst : GrownBy ws s p (2 ^ p.toNat) 0 := by
    refine ⟨OnWay.start hn hp hp', OnWay.start hn hp hp', Int.le_refl _, by omega, fun q _ h => ?_, fun k x _ h => ?_, ?_⟩
    · rw [bit_zero_] at h; cases h
    · rw [bit_zero_] at h; cases h
    · have := pop_place (r := 0) (j := p) (Int.le_refl _) (by omega) hp (by omega) (bit_zero_ p)
      have e : ior 0 (2 ^ p.toNat) = 2 ^ p.toNat := by
        unfold ior
        have := pow_bd p p.toNat (Nat.le_refl _)
        simp; omega
      rw [e] at this
      exact this
  obtain ⟨r, u, hg, hc⟩ := grown_ex hn 64 _ 0 (by have := pow_bd p 5 (by omega); omega) hst
  have hr : r = reach ws s p := IsReach.eq { hg.on with closed := hc }
  have := pop_sub hg.sub
  rw [← hr, hg.cnt]; omega
/-- no way of a tree is needless -/
theorem tree_way {n : Int} {ws : List Wy} {s e : Int} (hn : NetIs n ws) (s0 : 0 ≤ s) (s1 : s < 512) (e0 : 0 ≤ e) (e1 : e < 2 ^ n.toNat) (hp : pop s = pop e - 1) {k : Nat} (hk : k < 9) (hb : bit s k = true) {a : Int} (ha : 0 ≤ a) (hae : bit e a = true) :
    joins ws (s - 2 ^ k) e = false := by
  cases hj : joins ws (s - 2 ^ k) e
  · rfl
  · exfalso
    have han : a < n := by have := set_sub e0 e1 hae; have := hn.lo; omega
    have hl := (joins_iff hn e0 e1).1 hj
    have h1 := pop_sub (u := e) (s := reach ws (s - 2 ^ k) a) (fun q hq hbq => hl a q ha hq hae hbq)
    have h2 := pop_reach (s := s - 2 ^ k) hn ha han
    have h3 := pop_less s0 s1 hk hb
    omega
end Go.Proofs.Ytnbihejoglgdhaa
