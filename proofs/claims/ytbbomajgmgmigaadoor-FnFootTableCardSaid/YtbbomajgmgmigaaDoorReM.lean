/- Who is come to by a set of ways. Plain mathematics. -/
import Derived.Test.YtbbomajgmgmigaaDoorSets
import Derived.Test.YtbbomajgmgmigaaDoorTree
set_option linter.unusedVariables false
set_option linter.unusedSimpArgs false
namespace Go.Proofs.YtbbomajgmgmigaaDoor
open Go.RowKit

/-! ### who is come to -/
theorem bit_lt6 {ws : List Wy} {s p q : Int} {n : Int} (hn : NetIs n ws) (hp : 0 ≤ p) (hp' : p < n) (h : bit (reach ws s p) q = true) : q < n := by
  by_cases hq : q < 0
  · have := hn.lo; omega
  · have R := reach_is (s := s) hn hp hp'
    have := R.least (fun q => decide (q < n)) (by simpa using hp') (fun k x hx hb => by
      have := hn.at_ hx
      have h1 : x.a < n := by omega
      have h2 : x.b < n := by omega
      simp [h1, h2]) q (by omega) h
    simpa using this
theorem re_mono {n : Int} {ws : List Wy} {s t p q : Int} (hn : NetIs n ws) (hp : 0 ≤ p) (hp' : p < n) (hq : 0 ≤ q) (hs : ∀ k, 0 ≤ k → bit s k = true → bit t k = true) (h : bit (reach ws s p) q = true) : bit (reach ws t p) q = true := by
  have R := reach_is (s := s) hn hp hp'
  have R' := reach_is (s := t) hn hp hp'
  exact R.least (bit (reach ws t p)) R'.has (fun k x hx hb => R'.closed k x hx (hs k (by omega) hb)) q hq h
theorem re_sym {n : Int} {ws : List Wy} {s p q : Int} (hn : NetIs n ws) (hp : 0 ≤ p) (hp' : p < n) (hq : 0 ≤ q) (h : bit (reach ws s p) q = true) : bit (reach ws s q) p = true := by
  rw [reach_back hn hp hp' hq h]
  exact (reach_is hn hp hp').has
theorem re_trans {n : Int} {ws : List Wy} {s p q r : Int} (hn : NetIs n ws) (hp : 0 ≤ p) (hp' : p < n) (hq : 0 ≤ q) (h : bit (reach ws s p) q = true) (h' : bit (reach ws s q) r = true) : bit (reach ws s p) r = true := by
  rw [← reach_back hn hp hp' hq h]; exact h'
theorem re_way {n : Int} {ws : List Wy} {s : Int} {k : Nat} {x : Wy} (hn : NetIs n ws) (hx : ws[k]? = some x) (hb : bit s k = true) : bit (reach ws s x.a) x.b = true := by
  have hxa := hn.at_ hx
  have R := reach_is (s := s) hn hxa.1 hxa.2.1
  rw [← R.closed k x hx hb]; exact R.has
/-- if the ends of each way of s are joined by t, t joins what s does -/
theorem re_over {n : Int} {ws : List Wy} {s t p q : Int} (hn : NetIs n ws) (hp : 0 ≤ p) (hp' : p < n) (hq : 0 ≤ q) (hs : ∀ (k : Nat) (x : Wy), ws[k]? = some x → bit s k = true → bit (reach ws t x.a) x.b = true) (h : bit (reach ws s p) q = true) : bit (reach ws t p) q = true := by
  have R := reach_is (s := s) hn hp hp'
  have R' := reach_is (s := t) hn hp hp'
  refine R.least (bit (reach ws t p)) R'.has (fun k x hx hb => ?_) q hq h
  have hxa := hn.at_ hx
  have hj := hs k x hx hb
  rw [Bool.eq_iff_iff]
  exact ⟨fun h => re_trans hn hp hp' hxa.1 h hj, fun h => re_trans hn hp hp' hxa.2.2.1 h (re_sym hn hxa.1 hxa.2.1 hxa.2.2.1 hj)⟩
/-- one way more -/
theorem re_add {n : Int} {ws : List Wy} {t p q : Int} {k : Nat} {x : Wy} (hn : NetIs n ws) (hx : ws[k]? = some x) (hp : 0 ≤ p) (hp' : p < n) (hq : 0 ≤ q) (h : bit (reach ws (ior t (2 ^ k)) p) q = true) :
    bit (reach ws t p) q = true ∨ (bit (reach ws t p) x.a = true ∧ bit (reach ws t x.b) q = true) ∨ (bit (reach ws t p) x.b = true ∧ bit (reach ws t x.a) q = true) := by
  have hxa := hn.at_ hx
  have R := reach_is (s := ior t (2 ^ k)) hn hp hp'
  have Rp := reach_is (s := t) hn hp hp'
  have Ra := reach_is (s := t) hn hxa.1 hxa.2.1
  have Rb := reach_is (s := t) hn hxa.2.2.1 hxa.2.2.2.1
  have := R.least (fun q => bit (reach ws t p) q || ((bit (reach ws t p) x.a && bit (reach ws t x.b) q) || (bit (reach ws t p) x.b && bit (reach ws t x.a) q)))
    (by rw [Rp.has]; rfl) (fun j y hy hb => by
      rw [bit_ior, bit_pow k j (by omega)] at hb
      simp only [Bool.or_eq_true, decide_eq_true_eq] at hb
      rcases hb with hb | hb
      · simp only [Rp.closed j y hy hb, Ra.closed j y hy hb, Rb.closed j y hy hb]
      · have : j = k := by omega
        subst this
        rw [hx] at hy; injection hy with hy; subst hy
        simp only [Ra.has, Rb.has, Bool.and_true]
        cases bit (reach ws t p) x.a <;> cases bit (reach ws t p) x.b <;> simp) q hq h
  simpa using this

end Go.Proofs.YtbbomajgmgmigaaDoor
