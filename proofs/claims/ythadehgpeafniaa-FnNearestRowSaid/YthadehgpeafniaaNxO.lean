/- The farthest places and the centre. Plain mathematics. -/
import Derived.Test.YthadehgpeafniaaNxN
set_option linter.unusedVariables false
set_option linter.unusedSimpArgs false
namespace Go.Proofs.Ythadehgpeafniaa
open Go.RowKit

def fhTo (F : Nat → Nat → Int) (a : Nat) : Nat → Int
  | 0 => 0
  | k + 1 => max (fhTo F a k) (F a k)
def farthestRow (n : Int) (ws : List Wy) : List Int := if netOk n ws = true then (List.range n.toNat).map (fun a => fhTo (farF ws n.toNat) a n.toNat) else []
theorem fhTo_le {F : Nat → Nat → Int} {a : Nat} {c : Int} : ∀ k, fhTo F a k ≤ c ↔ 0 ≤ c ∧ ∀ j, j < k → F a j ≤ c
  | 0 => by rw [fhTo]; exact ⟨fun h => ⟨h, fun j hj => by omega⟩, fun h => h.1⟩
  | k + 1 => by
    have ih := fhTo_le (F := F) (a := a) (c := c) k
    rw [fhTo]
    constructor
    · intro h
      obtain ⟨h0, h1⟩ := ih.1 (by omega)
      refine ⟨h0, fun j hj => ?_⟩
      by_cases e : j = k
      · subst e; omega
      · exact h1 j (by omega)
    · rintro ⟨h0, h1⟩
      have h2 := ih.2 ⟨h0, fun j hj => h1 j (by omega)⟩
      have h3 := h1 k (by omega)
      omega
theorem fh_nn (F : Nat → Nat → Int) (a k : Nat) : 0 ≤ fhTo F a k := ((fhTo_le (c := fhTo F a k) k).1 (Int.le_refl _)).1
theorem fh_ge {F : Nat → Nat → Int} {a k j : Nat} (hj : j < k) : F a j ≤ fhTo F a k := ((fhTo_le (c := fhTo F a k) k).1 (Int.le_refl _)).2 j hj
/-- the first place whose number is the least, of the first k (from 1 on) -/
def ceTo (f : Nat → Int) : Nat → Int
  | 0 => 0
  | k + 1 => if f k < f (ceTo f k).toNat then k else ceTo f k
theorem ceTo_ok (f : Nat → Int) : ∀ k : Nat, 0 ≤ ceTo f k ∧ (ceTo f k < k ∨ ceTo f k = 0) ∧ (∀ j, j < k → f (ceTo f k).toNat ≤ f j) ∧ ∀ j, j < (ceTo f k).toNat → f (ceTo f k).toNat < f j
  | 0 => by
    rw [ceTo]
    exact ⟨Int.le_refl _, .inr rfl, fun j hj => by omega, fun j hj => by simp at hj⟩
  | k + 1 => by
    obtain ⟨h0, h1, h2, h3⟩ := ceTo_ok f k
    rw [ceTo]
    by_cases h : f k < f (ceTo f k).toNat
    · rw [if_pos h]
      refine ⟨by omega, .inl (by omega), fun j hj => ?_, fun j hj => ?_⟩
      · rw [Int.toNat_natCast]
        by_cases e : j = k
        · subst e; exact Int.le_refl _
        · have := h2 j (by omega); omega
      · rw [Int.toNat_natCast] at hj ⊢
        have := h2 j hj; omega
    · rw [if_neg h]
      refine ⟨h0, ?_, fun j hj => ?_, h3⟩
      · rcases h1 with h1 | h1
        · exact .inl (by omega)
        · exact .inr h1
      · by_cases e : j = k
        · subst e; omega
        · exact h2 j (by omega)
theorem ceTo_lt {f : Nat → Int} {m : Nat} (hm : 0 < m) : ceTo f m < m := by
  obtain ⟨_, h1, _⟩ := ceTo_ok f m
  omega
/-- everything is come to from everywhere -/
def Whole (F : Nat → Nat → Int) (m : Nat) : Prop := ∀ a b, a < m → b < m → 0 ≤ F a b
section
variable {F : Nat → Nat → Int} {m : Nat}
theorem fh_way (ht : Tri m F) (hs : ∀ a b, a < m → b < m → F a b = F b a) {a b : Nat} (ha : a < m) (hb : b < m) {c : Int} (h0 : 0 ≤ F a b) (hc : F a b ≤ c) : fhTo F a m ≤ fhTo F b m + c := by
  have h1 := fh_nn F b m
  refine (fhTo_le m).2 ⟨by omega, fun j hj => ?_⟩
  by_cases h : 0 ≤ F a j
  · have hba : 0 ≤ F b a := by rw [hs b a hb ha]; exact h0
    have h2 := (ht.tri b j a hb hj ha hba h).1
    have h3 := (ht.tri a j b ha hj hb h0 h2).2
    have h4 := fh_ge (F := F) (a := b) hj
    omega
  · omega
theorem fh_twice (ht : Tri m F) (hs : ∀ a b, a < m → b < m → F a b = F b a) (hw : Whole F m) {a b : Nat} (ha : a < m) (hb : b < m) : fhTo F a m ≤ 2 * fhTo F b m := by
  have h1 := fh_nn F b m
  refine (fhTo_le m).2 ⟨by omega, fun j hj => ?_⟩
  have h3 := (ht.tri a j b ha hj hb (hw a b ha hb) (hw b j hb hj)).2
  have h4 := fh_ge (F := F) (a := b) hj
  have h5 := fh_ge (F := F) (a := b) ha
  rw [hs b a hb ha] at h5
  omega
theorem one_bit {a : Nat} (j : Nat) : bit (2 ^ a) (j : Int) = true ↔ j = a := by
  rw [bit_pow a j (by omega), decide_eq_true_eq]; omega
/-- one end alone covers within its farthest place -/
theorem cov_one (hs : ∀ a b, a < m → b < m → F a b = F b a) (hw : Whole F m) {a : Nat} (ha : a < m) {c : Int} : Cov F m (2 ^ a) c ↔ fhTo F a m ≤ c := by
  constructor
  · intro h
    have h9 := h a ha
    obtain ⟨j, _, hb, h0, h1⟩ := h9
    refine (fhTo_le m).2 ⟨by omega, fun k hk => ?_⟩
    obtain ⟨i, hi, hbi, h2, h3⟩ := h k hk
    have e := (one_bit i).1 hbi
    subst e
    rw [hs i k hi hk]; exact h3
  · intro h k hk
    obtain ⟨h0, h1⟩ := (fhTo_le m).1 h
    exact ⟨a, ha, (one_bit a).2 rfl, hw k a hk ha, by rw [hs k a hk ha]; exact h1 k hk⟩
theorem cv_one (hm : 0 < m) (hs : ∀ a b, a < m → b < m → F a b = F b a) (hw : Whole F m) {a : Nat} (ha : a < m) : cv F m (2 ^ a) = fhTo F a m := by
  obtain ⟨h0, h1⟩ := (cv_iff (F := F) hm).2 ((cov_one hs hw ha (c := fhTo F a m)).2 (Int.le_refl _))
  have h2 := (cov_one hs hw ha).1 ((cv_iff (F := F) hm (e := 2 ^ a) (c := cv F m (2 ^ a))).1 ⟨h0, Int.le_refl _⟩)
  omega
theorem pop_pos_all : ∀ s : Fin 64, s.val ≠ 0 → 1 ≤ pop (s.val : Int) := by decide +kernel
theorem pop_two_all : ∀ s : Fin 64, pop (s.val : Int) = 1 → ∃ j : Fin 6, s.val = 2 ^ j.val := by decide +kernel
theorem pop_pow_all : ∀ j : Fin 6, pop (2 ^ j.val) = 1 := by decide +kernel
/-- some end is wanted -/
theorem cov_some (hm : 0 < m) {e c : Int} (e0 : 0 ≤ e) (e1 : e < 64) (h : Cov F m e c) : 1 ≤ pop e := by
  obtain ⟨k, rfl⟩ := Int.eq_ofNat_of_zero_le e0
  obtain ⟨j, _, hb, _⟩ := h 0 hm
  refine pop_pos_all ⟨k, by omega⟩ fun e => ?_
  simp only at e
  subst e
  rw [show ((0 : Nat) : Int) = 0 from rfl, bit_zero_] at hb; cases hb
/-- from the centre all is nearest, and one end is enough for as much -/
theorem centre_fe (hm : 0 < m) (hm6 : m ≤ 6) (hd : ∀ a, a < m → F a a = 0) (hs : ∀ a b, a < m → b < m → F a b = F b a) (hw : Whole F m) {a : Nat} (ha : a < m) (hmin : ∀ b, b < m → fhTo F a m ≤ fhTo F b m) :
    fe F m (fhTo F a m) = 1 ∧ (0 < fhTo F a m → 1 < fe F m (fhTo F a m - 1)) := by
  have h1 := fh_nn F a m
  have hp6 := pow_bd (m : Int) 6 (by omega)
  rw [Int.toNat_natCast] at hp6
  have hpa : (0 : Int) ≤ 2 ^ a ∧ (2 : Int) ^ a < 2 ^ m := by
    have h9 := Nat.pow_lt_pow_right (a := 2) (by omega) ha
    have e2 : ((2 : Int) ^ a) = ((2 ^ a : Nat) : Int) := by simp
    have e3 : ((2 : Int) ^ m) = ((2 ^ m : Nat) : Int) := by simp
    rw [e2, e3]
    exact ⟨Int.natCast_nonneg _, Int.ofNat_lt.2 h9⟩
  have h2 := fe_le hm hpa.1 hpa.2 ((cov_one hs hw ha).2 (Int.le_refl _))
  have h3 : pop (2 ^ a) = 1 := pop_pow_all ⟨a, by omega⟩
  obtain ⟨e, e0, e1, hc, hf⟩ := fe_ex hm hd hm6 h1
  have h4 := cov_some hm e0 (by omega) hc
  refine ⟨by omega, fun hpos => ?_⟩
  obtain ⟨e', e0', e1', hc', hf'⟩ := fe_ex hm hd hm6 (c := fhTo F a m - 1) (by omega)
  have h5 := cov_some hm e0' (by omega) hc'
  apply Classical.byContradiction
  intro hcon
  obtain ⟨k, rfl⟩ := Int.eq_ofNat_of_zero_le e0'
  obtain ⟨j, hj⟩ := pop_two_all ⟨k, by omega⟩ (by simp only; omega)
  simp only at hj
  subst hj
  have hjm : j.val < m := by
    apply Classical.byContradiction
    intro h9
    have := Nat.pow_le_pow_right (n := 2) (by omega) (show m ≤ j.val by omega)
    have e3 : ((2 : Int) ^ m) = ((2 ^ m : Nat) : Int) := by simp
    omega
  have h6 := (cov_one hs hw hjm (c := fhTo F a m - 1)).1 (by simpa using hc')
  have h7 := hmin j.val hjm
  omega
end
theorem fullb_ {len : Nat} {q : Int} (h0 : 0 ≤ q) (h1 : q < len) : bit (full len) q = true := by
  obtain ⟨j, rfl⟩ := Int.eq_ofNat_of_zero_le h0
  exact full_bit len j (by omega)
noncomputable def centreOf (n : Int) (ws : List Wy) : Int := if (netOk n ws && joins ws (span ws (allPl n)) (allPl n)) = true then ceTo (fun a => fhTo (farF ws n.toNat) a n.toNat) n.toNat else -1
section
variable {m : Nat} {ws : List Wy} (hn : NetIs (m : Int) ws)
include hn
theorem far_sym : ∀ a b, a < m → b < m → farF ws m a b = farF ws m b a := fun a b ha hb => farF_sym hn ha hb
theorem far_tri : Tri m (farF ws m) := farF_tri hn (by have := hn.hi; omega)
theorem far_whole (hj : joins ws (span ws (allPl (m : Int))) (allPl (m : Int)) = true) : Whole (farF ws m) m := fun a b ha hb => by
  have hall := allPl_bd hn
  have hsb := span_bd ws (allPl (m : Int))
  have h1 := joins_mono hn (by omega) hall.2.2 (fun q hq hb => fullb_ hq (set_sub hsb.1 ((full_lt ws.length _).1 hsb.2) hb)) hj
  exact (farF_join hn ha hb).2 ((joins_all hn).1 h1 a b (by omega) (by omega) (by omega) (by omega))
end
theorem nearestRow_len (n : Int) (ws : List Wy) (e : Int) : (nearestRow n ws e).length ≤ 6 := by
  unfold nearestRow
  split
  · rename_i h
    rw [Bool.and_eq_true] at h
    have := (netOk_t h.1).hi
    simp; omega
  · simp
theorem farthestRow_len (n : Int) (ws : List Wy) : (farthestRow n ws).length ≤ 6 := by
  unfold farthestRow
  split
  · rename_i h
    have := (netOk_t h).hi
    simp; omega
  · simp
end Go.Proofs.Ythadehgpeafniaa
