/- Sets of places: their least place, their size, and whether a set of ways joins them. Plain mathematics. -/
import Derived.Test.YtnbihejoglgdhaaReach2
import Derived.Lib.TrailingZeros
namespace Go.Proofs.Ytnbihejoglgdhaa
open Go.RowKit

/-- a without b -/
def idiff (a b : Int) : Int := ((a.toNat &&& (a.toNat ^^^ b.toNat) : Nat) : Int)
theorem bit_idiff (a b i : Int) : bit (idiff a b) i = (bit a i && !bit b i) := by
  unfold bit idiff
  rw [Int.toNat_natCast, Nat.testBit_and, Nat.testBit_xor]
  cases a.toNat.testBit i.toNat <;> cases b.toNat.testBit i.toNat <;> rfl
theorem idiff_bd (a b : Int) (ha : 0 ≤ a) : 0 ≤ idiff a b ∧ idiff a b ≤ a := by
  unfold idiff
  have := @Nat.and_le_left a.toNat (a.toNat ^^^ b.toNat)
  omega
theorem and_not_nat (x y : Nat) (hx : x < 9223372036854775808) (hy : y < 9223372036854775808) : x &&& (2 ^ 64 - 1 - y) = x &&& (x ^^^ y) := by
  apply Nat.eq_of_testBit_eq
  intro i
  rw [Nat.testBit_and, Nat.testBit_and, Nat.testBit_xor, show 2 ^ 64 - 1 - y = 2 ^ 64 - (y + 1) from by omega, Nat.testBit_two_pow_sub_succ (by omega)]
  by_cases hi : i < 64
  · simp only [hi, decide_true, Bool.true_and]
    cases x.testBit i <;> cases y.testBit i <;> rfl
  · have hxi : x.testBit i = false := Nat.testBit_lt_two_pow (Nat.lt_of_lt_of_le (show x < 2 ^ 64 from by omega) (Nat.pow_le_pow_right (by omega) (by omega)))
    simp [hxi]
theorem bits_andNot (a b : Int) (ha : 0 ≤ a) (ha' : a < 9223372036854775808) (hb : 0 ≤ b) (hb' : b < 9223372036854775808) : bits .andNot .i64 a b = idiff a b := by
  obtain ⟨x, rfl⟩ := Int.eq_ofNat_of_zero_le ha
  obtain ⟨y, rfl⟩ := Int.eq_ofNat_of_zero_le hb
  show IntKind.i64.wrap ((BitVec.ofInt 64 (x : Int) &&& ~~~BitVec.ofInt 64 (y : Int)).toNat : Int) = _
  rw [BitVec.toNat_and, BitVec.toNat_not, ofInt_i64 x (by omega), ofInt_i64 y (by omega), IntKind.wrap_i64, and_not_nat x y (by omega) (by omega)]
  unfold idiff
  rw [Int.toNat_natCast, Int.toNat_natCast]
  have := @Nat.and_le_left x (x ^^^ y)
  omega
theorem bit_zero_ (q : Int) : bit 0 q = false := by simp [bit]
theorem idiff_zero {a b : Int} (ha : 0 ≤ a) : idiff a b = 0 ↔ ∀ q, 0 ≤ q → bit a q = true → bit b q = true := by
  constructor
  · intro h q _ hb
    have := bit_idiff a b q
    rw [h, bit_zero_, hb] at this
    cases hq : bit b q
    · rw [hq] at this; cases this
    · rfl
  · intro h
    refine set_ext (idiff_bd a b ha).1 (Int.le_refl 0) fun q hq => ?_
    rw [bit_idiff, bit_zero_]
    cases hb : bit a q
    · rfl
    · rw [h q hq hb]; rfl

/-- the least place of a set -/
def low (e : Int) : Int := ((Lib.ctz 64 e.toNat : Nat) : Int)
theorem low_spec {e : Int} (h0 : 0 < e) (h1 : e < 9223372036854775808) : 0 ≤ low e ∧ low e < 64 ∧ bit e (low e) = true ∧ ∀ j, 0 ≤ j → j < low e → bit e j = false := by
  obtain ⟨x, rfl⟩ := Int.eq_ofNat_of_zero_le (Int.le_of_lt h0)
  obtain ⟨m, hm, hk⟩ := Lib.ctzFrom_spec 64 x (by omega) (by omega)
  have e : low (x : Int) = ((Lib.ctzFrom 64 x : Nat) : Int) := by
    unfold low Lib.ctz
    rw [Int.toNat_natCast, if_neg (by omega)]
  rw [e]
  generalize Lib.ctzFrom 64 x = k at hm hk
  refine ⟨by omega, by omega, ?_, fun j hj hjk => ?_⟩
  · unfold bit
    rw [Int.toNat_natCast, Int.toNat_natCast, hm, Nat.mul_comm, Nat.testBit_mul_two_pow]
    simp
  · obtain ⟨i, rfl⟩ := Int.eq_ofNat_of_zero_le hj
    unfold bit
    rw [Int.toNat_natCast, Int.toNat_natCast, hm, Nat.mul_comm, Nat.testBit_mul_two_pow]
    have : ¬ k ≤ i := by omega
    simp [this]
theorem low_is {e k : Int} (h0 : 0 < e) (h1 : e < 9223372036854775808) (hk : 0 ≤ k) (hb : bit e k = true) (hl : ∀ j, 0 ≤ j → j < k → bit e j = false) : low e = k := by
  obtain ⟨a, _, c, d⟩ := low_spec h0 h1
  have h2 : ¬ k < low e := fun h => by have := d k hk h; rw [hb] at this; cases this
  have h3 : ¬ low e < k := fun h => by have := hl _ a h; rw [c] at this; cases this
  omega
theorem bit_big {e q : Int} {n : Nat} (h0 : 0 ≤ e) (h1 : e < 2 ^ n) (hq : (n : Int) ≤ q) : bit e q = false := by
  obtain ⟨x, rfl⟩ := Int.eq_ofNat_of_zero_le h0
  unfold bit
  rw [Int.toNat_natCast]
  have e2 : ((2 : Int) ^ n) = ((2 ^ n : Nat) : Int) := by simp
  exact Nat.testBit_lt_two_pow (Nat.lt_of_lt_of_le (show x < 2 ^ n from by omega) (Nat.pow_le_pow_right (by omega) (by omega)))
/-- a set below 2 ^ n without places below n is none -/
theorem set_none {e : Int} {n : Nat} (h0 : 0 ≤ e) (h1 : e < 2 ^ n) (h : ∀ j, 0 ≤ j → j < (n : Int) → bit e j = false) : e = 0 :=
  set_ext h0 (Int.le_refl 0) fun q hq => by
    rw [bit_zero_]
    by_cases hn : q < (n : Int)
    · exact h q hq hn
    · exact bit_big h0 h1 (by omega)
theorem set_sub {e : Int} {n : Nat} (h0 : 0 ≤ e) (h1 : e < 2 ^ n) {q : Int} (hb : bit e q = true) : q < (n : Int) := by
  apply Classical.byContradiction
  intro hn
  rw [bit_big h0 h1 (by omega)] at hb
  cases hb

/-- the ways of the set s join the places e -/
noncomputable def joins (ws : List Wy) (s e : Int) : Bool := if e = 0 then true else idiff e (reach ws s (low e)) == 0
theorem joins_none (ws : List Wy) (s : Int) : joins ws s 0 = true := by unfold joins; simp
theorem joins_at {ws : List Wy} {s e k : Int} (h0 : 0 ≤ e) (h1 : e < 9223372036854775808) (hk : 0 ≤ k) (hb : bit e k = true) (hl : ∀ j, 0 ≤ j → j < k → bit e j = false) : joins ws s e = (idiff e (reach ws s k) == 0) := by
  have hne : e ≠ 0 := by rintro rfl; rw [bit_zero_] at hb; cases hb
  unfold joins
  rw [if_neg hne, low_is (by omega) h1 hk hb hl]
theorem joins_iff {n : Int} {ws : List Wy} {s e : Int} (hn : NetIs n ws) (h0 : 0 ≤ e) (h1 : e < 2 ^ n.toNat) :
    joins ws s e = true ↔ ∀ p q, 0 ≤ p → 0 ≤ q → bit e p = true → bit e q = true → bit (reach ws s p) q = true := by
  have h2 := hn.lo
  have h6 := hn.hi
  have hp := pow_bd n 6 (by omega)
  by_cases he : e = 0
  · subst he
    rw [joins_none]
    refine ⟨fun _ p q _ _ hb => ?_, fun _ => rfl⟩
    rw [bit_zero_] at hb; cases hb
  · unfold joins
    rw [if_neg he]
    obtain ⟨l0, _, lb, _⟩ := low_spec (e := e) (by omega) (by omega)
    have ln : low e < n := by have := set_sub h0 h1 lb; omega
    rw [beq_iff_eq, idiff_zero h0]
    constructor
    · intro h p q hp0 hq0 hbp hbq
      have e1 := reach_back (s := s) hn l0 ln hp0 (h p hp0 hbp)
      rw [e1]; exact h q hq0 hbq
    · intro h q hq hb
      exact h _ q l0 hq lb hb

/-- how many of the first f bits are 1 -/
def popF : Nat → Nat → Nat
  | 0, _ => 0
  | f + 1, x => x % 2 + popF f (x / 2)
theorem popF_more : ∀ (f x : Nat), x < 2 ^ f → popF (f + 1) x = popF f x
  | 0, x, h => by have : x = 0 := by simp at h; exact h
                  subst this; rfl
  | f + 1, x, h => by
    show x % 2 + popF (f + 1) (x / 2) = x % 2 + popF f (x / 2)
    rw [popF_more f (x / 2) (by rw [Nat.pow_succ] at h; omega)]
theorem popF_le : ∀ (f x : Nat), popF f x ≤ f
  | 0, _ => Nat.le_refl _
  | f + 1, x => by have := popF_le f (x / 2); rw [popF]; omega
/-- how many members a set has -/
def pop (s : Int) : Int := ((popF 20 s.toNat : Nat) : Int)
theorem pop_bd (s : Int) : 0 ≤ pop s ∧ pop s ≤ 20 := by
  have := popF_le 20 s.toNat
  unfold pop; omega
theorem pop_zero : pop 0 = 0 := by decide
theorem pop_half (s : Int) (h0 : 0 ≤ s) (h1 : s < 1048576) : pop s = s % 2 + pop (s / 2) := by
  obtain ⟨x, rfl⟩ := Int.eq_ofNat_of_zero_le h0
  unfold pop
  have e1 : ((x : Int) / 2).toNat = x / 2 := by omega
  rw [e1, Int.toNat_natCast, ← popF_more 20 x (by omega), popF]
  omega
end Go.Proofs.Ytnbihejoglgdhaa
