/- The table over all sets of ends: what its cells keep to while it is made, and that they come to the costs of roots. Plain mathematics. -/
import Derived.Test.YtcfendmhhhggeaaMJ
set_option linter.unusedSimpArgs false
set_option linter.unusedVariables false
namespace Go.Proofs.Ytcfendmhhhggeaa
open Go.RowKit

/-! ### parts of a set, by their numbers -/
def nd (k p : Nat) : Nat := k &&& (k ^^^ p)
theorem nd_is (k p : Nat) : idiff (k : Int) (p : Int) = ((nd k p : Nat) : Int) := by unfold idiff nd; rw [Int.toNat_natCast, Int.toNat_natCast]
theorem nd_all : ∀ k p : Fin 64, p.val &&& k.val = p.val → p.val ||| nd k.val p.val = k.val ∧ nd k.val p.val ≤ k.val ∧ (0 < p.val → nd k.val p.val < k.val) ∧ nd k.val p.val &&& k.val = nd k.val p.val := by decide +kernel
theorem dn_all : ∀ k p : Fin 64, p.val &&& k.val = p.val → 0 < p.val → ((p.val - 1) &&& k.val < p.val ∧ ((p.val - 1) &&& k.val) &&& k.val = (p.val - 1) &&& k.val) := by decide +kernel
theorem dn_next_all : ∀ k p : Fin 64, p.val &&& k.val = p.val → 0 < p.val → ∀ P : Fin 64, P.val < p.val → P.val &&& k.val = P.val → P.val ≤ (p.val - 1) &&& k.val := by decide +kernel
theorem sub_bits {P k : Nat} : P &&& k = P ↔ ∀ q, 0 ≤ q → bit (P : Int) q = true → bit (k : Int) q = true := by
  constructor
  · intro h q hq hb
    unfold bit at hb ⊢
    rw [Int.toNat_natCast] at hb ⊢
    rw [← h, Nat.testBit_and, Bool.and_eq_true] at hb
    exact hb.2
  · intro h
    apply Nat.eq_of_testBit_eq
    intro i
    rw [Nat.testBit_and]
    cases hp : P.testBit i
    · rfl
    · have := h i (by omega) (by unfold bit; rw [Int.toNat_natCast, Int.toNat_natCast]; exact hp)
      unfold bit at this
      rw [Int.toNat_natCast, Int.toNat_natCast] at this
      rw [this]; rfl

/-! ### one cell -/
noncomputable def FT (ws : List Wy) (k v : Nat) : Int := rc ws (withp (k : Int) v)
theorem FT_bd {n : Int} {ws : List Wy} (hn : NetIs n ws) (k v : Nat) : -1 ≤ FT ws k v ∧ FT ws k v ≤ 81 := rc_ge hn _
def Only1 (k v : Nat) : Prop := ∀ q, 0 ≤ q → bit (k : Int) q = true → q = (v : Int)
structure SplitC (ws : List Wy) (k p v : Nat) (n : Int) : Prop where
  so : 0 ≤ n → 0 ≤ FT ws k v ∧ FT ws k v ≤ n
  bd : -1 ≤ n ∧ n ≤ 200
  on : Only1 k v → n = 0
  lo : ∀ P, p ≤ P → P < k → 0 < P → P &&& k = P → 0 ≤ FT ws P v → 0 ≤ FT ws (nd k P) v → 0 ≤ n ∧ n ≤ FT ws P v + FT ws (nd k P) v
def lowC (n c : Int) : Int := if n < 0 ∨ c < n then c else n
theorem only1_iff {k v : Nat} : Only1 k v ↔ idiff (k : Int) (2 ^ v) = 0 := by
  rw [idiff_zero (by omega)]
  constructor
  · intro h q hq hb
    rw [bit_pow v q hq, decide_eq_true_eq]; exact h q hq hb
  · intro h q hq hb
    have := h q hq hb
    rw [bit_pow v q hq, decide_eq_true_eq] at this; exact this
theorem only1_ft {m : Nat} {ws : List Wy} (hn : NetIs (m : Int) ws) {k v : Nat} (hv : v < m) (h : Only1 k v) : FT ws k v = 0 := by
  have e : withp (k : Int) v = withp 0 v := set_ext (ior_nn _ _) (ior_nn _ _) fun q hq => by
    rw [withp_bit _ v hq, withp_bit _ v hq, bit_zero_]
    cases hb : bit (k : Int) q
    · rfl
    · have := h q hq hb
      simp [this]
  unfold FT
  rw [e]
  exact rc_one hn hv
/-- no parts are looked at yet -/
theorem SplitC.first {m : Nat} {ws : List Wy} (hn : NetIs (m : Int) ws) {k v : Nat} {n : Int} (hv : v < m) (h1 : Only1 k v → n = 0) (h2 : ¬ Only1 k v → n = -1) : SplitC ws k k v n := by
  refine ⟨fun h0 => ?_, ?_, h1, fun P h2 h3 => by omega⟩
  · by_cases ho : Only1 k v
    · rw [only1_ft hn hv ho, h1 ho]; omega
    · rw [h2 ho] at h0; omega
  · by_cases ho : Only1 k v
    · rw [h1 ho]; omega
    · rw [h2 ho]; omega
theorem SplitC.down {ws : List Wy} {k p p' v : Nat} {n : Int} (h : SplitC ws k p v n) (hp : ∀ P, p' ≤ P → P < k → 0 < P → P &&& k = P → p ≤ P) : SplitC ws k p' v n :=
  ⟨h.so, h.bd, h.on, fun P h1 h2 h3 h4 => h.lo P (hp P h1 h2 h3 h4) h2 h3 h4⟩
/-- roots of both parts, joined at v -/
theorem ft_join {m : Nat} {ws : List Wy} (hn : NetIs (m : Int) ws) {k p v : Nat} (hk : k < 2 ^ m) (hp : p &&& k = p) (hv : v < m) (h1 : 0 ≤ FT ws p v) (h2 : 0 ≤ FT ws (nd k p) v) : 0 ≤ FT ws k v ∧ FT ws k v ≤ FT ws p v + FT ws (nd k p) v := by
  have hpk : p ≤ k := by rw [← hp]; exact Nat.and_le_right
  have hqk : nd k p ≤ k := Nat.and_le_left
  have e2 : ((2 : Int) ^ ((m : Int)).toNat) = ((2 ^ m : Nat) : Int) := by rw [Int.toNat_natCast]; simp
  have b1 := withp_bd (m := m) (e := (p : Int)) (v := v) (by omega) (by omega) hv
  have b2 := withp_bd (m := m) (e := ((nd k p : Nat) : Int)) (v := v) (by omega) (by omega) hv
  have hj := rc_join hn b1.1 b1.2 b2.1 b2.2 (p := (v : Int)) (by omega) (by rw [withp_bit _ v (by omega)]; simp) (by rw [withp_bit _ v (by omega)]; simp) h1 h2
  have e : ior (withp (p : Int) v) (withp ((nd k p : Nat) : Int) v) = withp (k : Int) v := set_ext (ior_nn _ _) (ior_nn _ _) fun q hq => by
    rw [bit_ior, withp_bit _ v hq, withp_bit _ v hq, withp_bit _ v hq, ← nd_is, bit_idiff]
    have := sub_bits.1 hp q hq
    cases hb : bit (p : Int) q
    · cases bit (k : Int) q <;> simp
    · rw [this hb]; simp
  rw [e] at hj
  exact hj
theorem low_told {n c : Int} (hc : 0 ≤ c) : 0 ≤ lowC n c ∧ lowC n c ≤ c ∧ (0 ≤ n → lowC n c ≤ n) := by
  unfold lowC
  by_cases h : n < 0 ∨ c < n
  · rw [if_pos h]; omega
  · rw [if_neg h]; omega
theorem low_or (n c : Int) : lowC n c = c ∨ lowC n c = n := by
  unfold lowC; split
  · exact .inl rfl
  · exact .inr rfl
theorem SplitC.take {m : Nat} {ws : List Wy} (hn : NetIs (m : Int) ws) {k p v : Nat} {n : Int} (h : SplitC ws k (p + 1) v n) (hk : k < 2 ^ m) (hp : p &&& k = p) (hv : v < m) (h1 : 0 ≤ FT ws p v) (h2 : 0 ≤ FT ws (nd k p) v) : SplitC ws k p v (lowC n (FT ws p v + FT ws (nd k p) v)) := by
  have hj := ft_join hn hk hp hv h1 h2
  have g1 := FT_bd hn p v
  have g2 := FT_bd hn (nd k p) v
  have hlt := low_told (n := n) (c := FT ws p v + FT ws (nd k p) v) (by omega)
  have hb := h.bd
  refine ⟨fun h0 => ?_, ?_, fun ho => ?_, fun P a1 a2 a3 a4 a5 a6 => ?_⟩
  · rcases low_or n (FT ws p v + FT ws (nd k p) v) with e | e
    · rw [e]; exact hj
    · rw [e] at h0 ⊢; exact h.so h0
  · rcases low_or n (FT ws p v + FT ws (nd k p) v) with e | e <;> omega
  · have := h.on ho
    have := hlt.2.2 (by omega)
    omega
  · by_cases e : P = p
    · subst e; exact ⟨hlt.1, hlt.2.1⟩
    · have := h.lo P (by omega) a2 a3 a4 a5 a6
      have := hlt.2.2 this.1
      omega
theorem SplitC.skip {ws : List Wy} {k p v : Nat} {n : Int} (h : SplitC ws k (p + 1) v n) (hno : ¬ (0 ≤ FT ws p v ∧ 0 ≤ FT ws (nd k p) v)) : SplitC ws k p v n :=
  ⟨h.so, h.bd, h.on, fun P a1 a2 a3 a4 a5 a6 => by
    by_cases e : P = p
    · subst e; exact absurd ⟨a5, a6⟩ hno
    · exact h.lo P (by omega) a2 a3 a4 a5 a6⟩

/-! ### feet are moved -/
structure MoveC (m : Nat) (ws : List Wy) (k : Nat) (r0 : Nat → Int) (v a : Nat) (B n : Int) : Prop where
  so : 0 ≤ n → 0 ≤ FT ws k v ∧ FT ws k v ≤ n
  bd : -1 ≤ n ∧ n ≤ B
  le : 0 ≤ r0 v → 0 ≤ n ∧ n ≤ r0 v
  lo : ∀ u, u < a → 0 ≤ r0 u → 0 ≤ farF ws m u v → 0 ≤ n ∧ n ≤ r0 u + farF ws m u v
theorem MoveC.first {m : Nat} {ws : List Wy} {k p v : Nat} {r0 : Nat → Int} {B : Int} (h : SplitC ws k p v (r0 v)) (hB : 200 ≤ B) : MoveC m ws k r0 v 0 B (r0 v) :=
  ⟨h.so, by have := h.bd; omega, fun h => ⟨h, Int.le_refl _⟩, fun u h => by omega⟩
theorem MoveC.more {m : Nat} {ws : List Wy} {k v a : Nat} {r0 : Nat → Int} {B B' n : Int} (h : MoveC m ws k r0 v a B n) (hB : B ≤ B') : MoveC m ws k r0 v a B' n := ⟨h.so, by have := h.bd; omega, h.le, h.lo⟩
theorem MoveC.take {m : Nat} {ws : List Wy} (hn : NetIs (m : Int) ws) {k v a : Nat} {r0 : Nat → Int} {B n x : Int} (h : MoveC m ws k r0 v a B n) (hk : k < 2 ^ m) (ha : a < m) (hv : v < m) (hx : 0 ≤ x) (hs : 0 ≤ FT ws k a ∧ FT ws k a ≤ x) (hx0 : 0 ≤ r0 a → x ≤ r0 a) (hf : 0 ≤ farF ws m a v) (hB : x + farF ws m a v ≤ B) :
    MoveC m ws k r0 v (a + 1) B (lowC n (x + farF ws m a v)) := by
  have e2 : ((2 : Int) ^ ((m : Int)).toNat) = ((2 ^ m : Nat) : Int) := by rw [Int.toNat_natCast]; simp
  have hg := rc_grow hn (e := (k : Int)) (by omega) (by omega) ha hv hs.1 hf
  have hlt := low_told (n := n) (c := x + farF ws m a v) (by omega)
  have hb := h.bd
  have hg' : 0 ≤ FT ws k v ∧ FT ws k v ≤ FT ws k a + farF ws m a v := hg
  refine ⟨fun h0 => ?_, ?_, fun h0 => ?_, fun u hu h1 h2 => ?_⟩
  · rcases low_or n (x + farF ws m a v) with e | e
    · rw [e]; omega
    · rw [e] at h0 ⊢; exact h.so h0
  · rcases low_or n (x + farF ws m a v) with e | e <;> omega
  · have := h.le h0
    have := hlt.2.2 this.1
    omega
  · by_cases e : u = a
    · subst e
      have := hx0 h1
      omega
    · have := h.lo u (by omega) h1 h2
      have := hlt.2.2 this.1
      omega
theorem MoveC.skip {m : Nat} {ws : List Wy} {k v a : Nat} {r0 : Nat → Int} {B n : Int} (h : MoveC m ws k r0 v a B n) (hno : ¬ (0 ≤ r0 a ∧ 0 ≤ farF ws m a v)) : MoveC m ws k r0 v (a + 1) B n :=
  ⟨h.so, h.bd, h.le, fun u hu h1 h2 => by
    by_cases e : u = a
    · subst e; exact absurd ⟨h1, h2⟩ hno
    · exact h.lo u (by omega) h1 h2⟩
/-- it comes to what a root costs -/
theorem foot_is {m : Nat} {ws : List Wy} (hn : NetIs (m : Int) ws) {k v : Nat} {r0 : Nat → Int} {B n : Int} (hk : k < 2 ^ m) (hv : v < m) (hr : ∀ u, u < m → SplitC ws k 1 u (r0 u)) (h : MoveC m ws k r0 v m B n) : n = FT ws k v := by
  have e2 : ((2 : Int) ^ ((m : Int)).toNat) = ((2 ^ m : Nat) : Int) := by rw [Int.toNat_natCast]; simp
  have hb := h.bd
  have hf := FT_bd hn k v
  by_cases h0 : 0 ≤ FT ws k v
  · obtain ⟨u, hu, hfar, hor⟩ := rc_falls hn (e := (k : Int)) (by omega) (by omega) hv h0
    have hle : 0 ≤ n ∧ n ≤ FT ws k v := by
      rcases hor with ⟨h1, h2⟩ | ⟨P, p0, p1, p2, p3, p4, p5, p6⟩
      · have h3 := (hr u hu).on h1
        have h4 := h.lo u hu (by omega) hfar
        have h2' : farF ws m u v ≤ FT ws k v := h2
        omega
      · obtain ⟨Q, rfl⟩ := Int.eq_ofNat_of_zero_le (show 0 ≤ P by omega)
        have hs : Q &&& k = Q := sub_bits.2 p3
        have hqk : Q ≤ k := by rw [← hs]; exact Nat.and_le_right
        rw [nd_is] at p5 p6
        have h3 := (hr u hu).lo Q (by omega) (by omega) (by omega) hs p4 p5
        have h4 := h.lo u hu h3.1 hfar
        have p6' : FT ws Q u + FT ws (nd k Q) u + farF ws m u v ≤ FT ws k v := p6
        omega
    have := h.so hle.1
    omega
  · by_cases h1 : 0 ≤ n
    · have := h.so h1; omega
    · omega
end Go.Proofs.Ytcfendmhhhggeaa
