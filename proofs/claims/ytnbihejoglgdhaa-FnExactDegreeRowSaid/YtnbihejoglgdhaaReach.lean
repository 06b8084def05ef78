/- Who is come to: the least closed set that has the place. Plain mathematics. -/
import Derived.Test.YtnbihejoglgdhaaNets
namespace Go.Proofs.Ytnbihejoglgdhaa
open Go.RowKit

theorem bit_ior (a b i : Int) : bit (ior a b) i = (bit a i || bit b i) := by
  unfold bit ior
  rw [Int.toNat_natCast, Nat.testBit_or]
theorem bit_shl (a i : Int) (ha : 0 ≤ a) (hi : 0 ≤ i) : bit (2 ^ a.toNat) i = decide (i = a) := by
  unfold bit
  rw [pow_toNat, Nat.testBit_two_pow, Bool.eq_iff_iff]
  simp only [decide_eq_true_eq]
  omega
/-- two sets of at most six places are one if they have the same places -/
theorem set_ext {r r' : Int} (h0 : 0 ≤ r) (h0' : 0 ≤ r') (h : ∀ q, 0 ≤ q → bit r q = bit r' q) : r = r' := by
  obtain ⟨x, rfl⟩ := Int.eq_ofNat_of_zero_le h0
  obtain ⟨y, rfl⟩ := Int.eq_ofNat_of_zero_le h0'
  have : x = y := Nat.eq_of_testBit_eq fun i => by
    have := h (i : Int) (by omega)
    simpa [bit] using this
  rw [this]
theorem ior_ge (a b : Int) (ha : 0 ≤ a) : a ≤ ior a b := by
  unfold ior
  have := @Nat.left_le_or a.toNat b.toNat
  omega
theorem iand_ne (a b r : Int) (ha : 0 ≤ a) (hb : 0 ≤ b) : iand (ior (2 ^ a.toNat) (2 ^ b.toNat)) r ≠ 0 ↔ bit r a = true ∨ bit r b = true := by
  constructor
  · intro h
    apply Classical.byContradiction
    intro hn
    apply h
    unfold iand
    have : (ior (2 ^ a.toNat) (2 ^ b.toNat)).toNat &&& r.toNat = 0 := Nat.eq_of_testBit_eq fun i => by
      rw [Nat.testBit_and, Nat.zero_testBit]
      have h1 : (ior (2 ^ a.toNat) (2 ^ b.toNat)).toNat.testBit i = (decide ((i : Int) = a) || decide ((i : Int) = b)) := by
        have := bit_ior (2 ^ a.toNat) (2 ^ b.toNat) (i : Int)
        rw [bit_shl a i ha (by omega), bit_shl b i hb (by omega)] at this
        simpa [bit] using this
      rw [h1]
      cases hr : r.toNat.testBit i
      · simp
      · have hbr : bit r (i : Int) = true := by simpa [bit] using hr
        have hna : ¬ (i : Int) = a := fun e => hn (.inl (e ▸ hbr))
        have hnb : ¬ (i : Int) = b := fun e => hn (.inr (e ▸ hbr))
        simp [hna, hnb]
    rw [this]; rfl
  · intro h he
    have key : ∀ c : Int, 0 ≤ c → bit (ior (2 ^ a.toNat) (2 ^ b.toNat)) c = true → bit r c = true → False := fun c hc h1 h2 => by
      have : (iand (ior (2 ^ a.toNat) (2 ^ b.toNat)) r).toNat.testBit c.toNat = true := by
        unfold iand
        rw [Int.toNat_natCast, Nat.testBit_and]
        unfold bit at h1 h2
        rw [h1, h2]; rfl
      rw [he] at this
      simp at this
    rcases h with h | h
    · exact key a ha (by rw [bit_ior, bit_shl a a ha ha]; simp) h
    · exact key b hb (by rw [bit_ior, bit_shl b b hb hb]; simp) h

/-- closed under the ways of a set -/
def Closed (ws : List Wy) (s : Int) (T : Int → Bool) : Prop := ∀ (k : Nat) (x : Wy), ws[k]? = some x → bit s k = true → T x.a = T x.b
/-- on the way to what is come to from p -/
structure OnWay (ws : List Wy) (s p r : Int) : Prop where
  lo : 0 ≤ r
  hi : r < 64
  has : bit r p = true
  least : ∀ T : Int → Bool, T p = true → Closed ws s T → ∀ q, 0 ≤ q → bit r q = true → T q = true
structure IsReach (ws : List Wy) (s p r : Int) : Prop extends OnWay ws s p r where
  closed : Closed ws s (bit r)
theorem IsReach.one {ws : List Wy} {s p r r' : Int} (h : IsReach ws s p r) (h' : IsReach ws s p r') : r = r' := by
  refine set_ext h.lo h'.lo fun q hq => ?_
  rw [Bool.eq_iff_iff]
  exact ⟨h.least (bit r') h'.has h'.closed q hq, h'.least (bit r) h.has h.closed q hq⟩
theorem OnWay.start {n : Int} {ws : List Wy} {s p : Int} (hn : NetIs n ws) (hp : 0 ≤ p) (hp' : p < n) : OnWay ws s p (2 ^ p.toNat) := by
  have h6 := hn.hi
  have hb := pow_bd p 5 (by omega)
  refine ⟨by omega, by omega, by rw [bit_shl p p hp hp]; simp, fun T hT _ q hq h => ?_⟩
  rw [bit_shl p q hp hq] at h
  have : q = p := by simpa using h
  rw [this]; exact hT
/-- a way that touches is taken in -/
theorem OnWay.step {n : Int} {ws : List Wy} {s p r : Int} (hn : NetIs n ws) (h : OnWay ws s p r) {k : Nat} {x : Wy} (hx : ws[k]? = some x) (hb : bit s k = true) (ht : bit r x.a = true ∨ bit r x.b = true) :
    OnWay ws s p (ior r (ior (2 ^ x.a.toNat) (2 ^ x.b.toNat))) := by
  obtain ⟨a0, a1, b0, b1, _⟩ := hn.at_ hx
  have h6 := hn.hi
  have ha := pow_bd x.a 5 (by omega)
  have hbb := pow_bd x.b 5 (by omega)
  have hw := ior_bd (2 ^ x.a.toNat) (2 ^ x.b.toNat) 6 (by omega) (by omega)
  have hr := ior_bd r (ior (2 ^ x.a.toNat) (2 ^ x.b.toNat)) 6 (by have := h.hi; omega) (by omega)
  refine ⟨hr.1, hr.2, by rw [bit_ior, h.has]; rfl, fun T hT hc q hq hbit => ?_⟩
  rw [bit_ior, bit_ior, bit_shl x.a q a0 hq, bit_shl x.b q b0 hq] at hbit
  simp only [Bool.or_eq_true, decide_eq_true_eq] at hbit
  have hab := hc k x hx hb
  have hta : T x.a = true := by
    rcases ht with ht | ht
    · exact h.least T hT hc x.a a0 ht
    · rw [hab]; exact h.least T hT hc x.b b0 ht
  rcases hbit with hbit | rfl | rfl
  · exact h.least T hT hc q hq hbit
  · exact hta
  · rw [← hab]; exact hta

/-! the program's wave -/
def waveTo (ws : List Wy) (s r : Int) : Nat → Int
  | 0 => r
  | k + 1 => match ws[k]? with
    | some x => if bit s k = true ∧ iand (ior (2 ^ x.a.toNat) (2 ^ x.b.toNat)) (waveTo ws s r k) ≠ 0 then ior (waveTo ws s r k) (ior (2 ^ x.a.toNat) (2 ^ x.b.toNat)) else waveTo ws s r k
    | none => waveTo ws s r k
theorem waveTo_yes {ws : List Wy} {s r : Int} {k : Nat} {x : Wy} (hx : ws[k]? = some x) (hb : bit s k = true) (hi : iand (ior (2 ^ x.a.toNat) (2 ^ x.b.toNat)) (waveTo ws s r k) ≠ 0) :
    waveTo ws s r (k + 1) = ior (waveTo ws s r k) (ior (2 ^ x.a.toNat) (2 ^ x.b.toNat)) := by
  rw [waveTo, hx]; simp only; rw [if_pos ⟨hb, hi⟩]
theorem waveTo_no {ws : List Wy} {s r : Int} {k : Nat} {x : Wy} (hx : ws[k]? = some x) (h : ¬ (bit s k = true ∧ iand (ior (2 ^ x.a.toNat) (2 ^ x.b.toNat)) (waveTo ws s r k) ≠ 0)) :
    waveTo ws s r (k + 1) = waveTo ws s r k := by
  rw [waveTo, hx]; simp only; rw [if_neg h]
theorem waveTo_ok {n : Int} {ws : List Wy} {s p r : Int} (hn : NetIs n ws) (h : OnWay ws s p r) : ∀ k, OnWay ws s p (waveTo ws s r k) ∧ r ≤ waveTo ws s r k
  | 0 => ⟨h, Int.le_refl _⟩
  | k + 1 => by
    obtain ⟨ih, hge⟩ := waveTo_ok hn h k
    cases hx : ws[k]? with
    | none => rw [waveTo, hx]; exact ⟨ih, hge⟩
    | some x =>
      obtain ⟨a0, _, b0, _⟩ := hn.at_ hx
      by_cases hc : bit s k = true ∧ iand (ior (2 ^ x.a.toNat) (2 ^ x.b.toNat)) (waveTo ws s r k) ≠ 0
      · rw [waveTo_yes hx hc.1 hc.2]
        exact ⟨ih.step hn hx hc.1 ((iand_ne _ _ _ a0 b0).1 hc.2), Int.le_trans hge (ior_ge _ _ ih.lo)⟩
      · rw [waveTo_no hx hc]; exact ⟨ih, hge⟩
theorem waveTo_mono {n : Int} {ws : List Wy} {s p r : Int} (hn : NetIs n ws) (h : OnWay ws s p r) (k : Nat) : waveTo ws s r k ≤ waveTo ws s r (k + 1) := by
  have ih := (waveTo_ok hn h k).1
  cases hx : ws[k]? with
  | none => rw [waveTo, hx]; exact Int.le_refl _
  | some x =>
    by_cases hc : bit s k = true ∧ iand (ior (2 ^ x.a.toNat) (2 ^ x.b.toNat)) (waveTo ws s r k) ≠ 0
    · rw [waveTo_yes hx hc.1 hc.2]; exact ior_ge _ _ ih.lo
    · rw [waveTo_no hx hc]; exact Int.le_refl _
theorem waveTo_mono' {n : Int} {ws : List Wy} {s p r : Int} (hn : NetIs n ws) (h : OnWay ws s p r) (k : Nat) : ∀ d, waveTo ws s r k ≤ waveTo ws s r (k + d)
  | 0 => Int.le_refl _
  | d + 1 => Int.le_trans (waveTo_mono' hn h k d) (waveTo_mono hn h (k + d))
/-- a wave that brings nothing: all is come to -/
theorem wave_end {n : Int} {ws : List Wy} {s p r : Int} (hn : NetIs n ws) (h : OnWay ws s p r) (he : waveTo ws s r ws.length = r) : IsReach ws s p r := by
  refine { h with closed := fun k x hx hb => ?_ }
  have hk := (List.getElem?_eq_some_iff.1 hx).1
  obtain ⟨a0, _, b0, _⟩ := hn.at_ hx
  have e1 : waveTo ws s r k = r := by
    have h1 := (waveTo_ok hn h k).2
    have h2 := waveTo_mono' hn h k (ws.length - k)
    rw [show k + (ws.length - k) = ws.length from by omega, he] at h2
    omega
  have e2 : waveTo ws s r (k + 1) = r := by
    have h1 := (waveTo_ok hn h (k + 1)).2
    have h2 := waveTo_mono' hn h (k + 1) (ws.length - (k + 1))
    rw [show k + 1 + (ws.length - (k + 1)) = ws.length from by omega, he] at h2
    omega
  by_cases hc : iand (ior (2 ^ x.a.toNat) (2 ^ x.b.toNat)) r ≠ 0
  · have e3 := waveTo_yes (r := r) hx hb (by rw [e1]; exact hc)
    rw [e1, e2] at e3
    rw [e3, bit_ior, bit_ior, bit_ior, bit_ior, bit_shl _ _ a0 a0, bit_shl _ _ b0 b0]
    simp
  · have hn1 : ¬ bit r x.a = true := fun hh => hc ((iand_ne _ _ _ a0 b0).2 (.inl hh))
    have hn2 : ¬ bit r x.b = true := fun hh => hc ((iand_ne _ _ _ a0 b0).2 (.inr hh))
    simp only [Bool.not_eq_true] at hn1 hn2
    rw [hn1, hn2]

/-- who is come to -/
noncomputable def reach (ws : List Wy) (s p : Int) : Int := @Classical.epsilon Int ⟨0⟩ (IsReach ws s p)
theorem IsReach.eq {ws : List Wy} {s p r : Int} (h : IsReach ws s p r) : r = reach ws s p :=
  h.one (Classical.epsilon_spec ⟨r, h⟩)
end Go.Proofs.Ytnbihejoglgdhaa
