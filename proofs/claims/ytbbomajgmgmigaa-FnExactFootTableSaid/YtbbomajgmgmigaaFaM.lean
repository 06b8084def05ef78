/- The table of least costs: the same both ways, 0 for each place itself, told just for places that all ways join. Plain mathematics. -/
import Derived.Test.YtbbomajgmgmigaaPaM
set_option linter.unusedSimpArgs false
set_option linter.unusedVariables false
namespace Go.Proofs.Ytbbomajgmgmigaa
open Go.RowKit

def GeM (f : Nat → Nat → Int) : Prop := ∀ i j, -1 ≤ f i j
theorem lowF_ge {f : Nat → Nat → Int} {a b : Nat} {c : Int} (h : GeM f) (hc : -1 ≤ c) : GeM (lowF f a b c) := fun i j => by
  unfold lowF
  split
  · exact hc
  · exact h i j
theorem shF_ge {f : Nat → Nat → Int} {a o b : Nat} (h : GeM f) : GeM (shF f a o b) := by
  unfold shF
  split
  · rename_i hc; exact lowF_ge h (by omega)
  · exact h
theorem fwB_ge {f : Nat → Nat → Int} {o a : Nat} (h : GeM f) : ∀ b, GeM (fwB f o a b)
  | 0 => h
  | b + 1 => shF_ge (fwB_ge h b)
theorem fwA_ge {f : Nat → Nat → Int} {o m : Nat} (h : GeM f) : ∀ a, GeM (fwA f o m a)
  | 0 => h
  | a + 1 => fwB_ge (fwA_ge h a) m
theorem fwO_ge {f : Nat → Nat → Int} {m : Nat} (h : GeM f) : ∀ o, GeM (fwO f m o)
  | 0 => h
  | o + 1 => fwA_ge (fwO_ge h o) m
theorem nxTo_ge {n : Int} {ws : List Wy} (hn : NetIs n ws) : ∀ k, GeM (nxTo ws k)
  | 0 => fun i j => by simp only [nxTo, nF0]; split <;> omega
  | k + 1 => by
    have ih := nxTo_ge hn k
    cases hx : ws[k]? with
    | none => rw [nxTo, hx]; exact ih
    | some x =>
      have hxa := hn.at_ hx
      rw [nxTo_step hx]
      exact lowF_ge (lowF_ge ih (by omega)) (by omega)
theorem farF_ge {n : Int} {ws : List Wy} (hn : NetIs n ws) (m : Nat) : GeM (farF ws m) := fwO_ge (nxTo_ge hn ws.length) m
theorem full_all (len : Nat) (k : Nat) (h : k < len) : bit (full len) k = true := by
  unfold bit full
  have e : ((2 : Int) ^ len - 1).toNat = 2 ^ len - 1 := by
    have e1 : ((2 : Int) ^ len) = ((2 ^ len : Nat) : Int) := by simp
    have : 1 ≤ 2 ^ len := Nat.one_le_two_pow
    omega
  rw [e, Int.toNat_natCast, Nat.testBit_two_pow_sub_one]
  simpa using h
theorem farF_join {m : Nat} {ws : List Wy} (hn : NetIs (m : Int) ws) {a b : Nat} (ha : a < m) (hb : b < m) : 0 ≤ farF ws m a b ↔ bit (reach ws (full ws.length) a) b = true := by
  have h6 := hn.hi
  constructor
  · intro h
    obtain ⟨s, s0, s1, s2, s3⟩ := rep_fw hn a b ha hb h
    refine re_mono hn (by omega) (by omega) (by omega) (fun k hk hb => ?_) s2
    obtain ⟨j, rfl⟩ := Int.eq_ofNat_of_zero_le hk
    have := set_sub s0 ((full_lt ws.length s).1 s1) hb
    exact full_all _ _ (by omega)
  · intro h
    exact (far_le hn ha (farF_tri hn (by omega)) (fun k x hx => farF_way hn hx) h).1
theorem farF_sym {m : Nat} {ws : List Wy} (hn : NetIs (m : Int) ws) {a b : Nat} (ha : a < m) (hb : b < m) : farF ws m a b = farF ws m b a := by
  have h6 := hn.hi
  have key : ∀ a b : Nat, a < m → b < m → 0 ≤ farF ws m a b → 0 ≤ farF ws m b a ∧ farF ws m b a ≤ farF ws m a b := fun a b ha hb h => by
    obtain ⟨s, s0, s1, s2, s3⟩ := rep_fw hn a b ha hb h
    have h2 := far_le hn hb (farF_tri hn (by omega)) (fun k x hx => farF_way hn hx) (re_sym hn (by omega) (by omega) (by omega) s2)
    omega
  have g1 := farF_ge hn m a b
  have g2 := farF_ge hn m b a
  by_cases h : 0 ≤ farF ws m a b
  · have k1 := key a b ha hb h
    have k2 := key b a hb ha k1.1
    omega
  · by_cases h' : 0 ≤ farF ws m b a
    · have k2 := key b a hb ha h'
      omega
    · omega
theorem farF_diag {m : Nat} {ws : List Wy} (hn : NetIs (m : Int) ws) {a : Nat} (ha : a < m) : farF ws m a a = 0 := by
  have h6 := hn.hi
  exact (fw_small hn (m := m) (o := m) (by omega) (Nat.le_refl _)).diag a ha
theorem farF_bd {m : Nat} {ws : List Wy} (hn : NetIs (m : Int) ws) {a b : Nat} (ha : a < m) (hb : b < m) : farF ws m a b ≤ 1000 := by
  have h6 := hn.hi
  exact (fw_small hn (m := m) (o := m) (by omega) (Nat.le_refl _)).bd a b ha hb
end Go.Proofs.Ytbbomajgmgmigaa
