/- Parts: two places have the same least place exactly if all ways join them. Plain mathematics. -/
import Derived.Test.YtkjheobeogkhlaaDoorRp
import Derived.Test.YtkjheobeogkhlaaDoorGrM
set_option linter.unusedSimpArgs false
set_option linter.unusedVariables false
namespace Go.Proofs.YtkjheobeogkhlaaDoor
open Go.RowKit

theorem part_iff {n : Int} {ws : List Wy} (hn : NetIs n ws) {a c : Nat} (ha : (a : Int) < n) (hc : (c : Int) < n) : partAt ws a = partAt ws c ↔ bit (reach ws (full ws.length) a) c = true := by
  have ha0 : (0 : Int) ≤ (a : Int) := by omega
  have hc0 : (0 : Int) ≤ (c : Int) := by omega
  have Ra := reach_is (s := full ws.length) hn ha0 ha
  have Rc := reach_is (s := full ws.length) hn hc0 hc
  have pos : ∀ (p : Int), IsReach ws (full ws.length) p (reach ws (full ws.length) p) → 0 < reach ws (full ws.length) p := fun p R => by
    have h0 := R.lo
    have hne : reach ws (full ws.length) p ≠ 0 := fun e => by have h9 := R.has; rw [e, bit_zero_] at h9; cases h9
    omega
  unfold partAt
  constructor
  · intro h
    obtain ⟨l0, _, lb, _⟩ := low_spec (pos a Ra) (by have := Ra.hi; omega)
    obtain ⟨m0, _, mb, _⟩ := low_spec (pos c Rc) (by have := Rc.hi; omega)
    rw [← h] at mb m0
    have ln := bit_lt6 hn ha0 ha lb
    have e1 := reach_back hn ha0 ha l0 lb
    have e2 := reach_back hn hc0 hc l0 mb
    rw [← e1, e2]
    exact Rc.has
  · intro h
    rw [reach_back hn ha0 ha hc0 h]
theorem parts_join {n : Int} {ws : List Wy} (hno : netOk n ws = true) {a c : Nat} (ha : (a : Int) < n) (hc : (c : Int) < n) : joinsEnds n ws (full ws.length) (ior (2 ^ a) (2 ^ c)) = (partAt ws a == partAt ws c) := by
  have hn := netOk_t hno
  have h6 := hn.hi
  have hfb := full_bd ws.length hn.len
  have e1 : ((2 : Int) ^ a) < 2 ^ n.toNat := by
    have h1 : 2 ^ a < 2 ^ n.toNat := Nat.pow_lt_pow_right (by omega) (by omega)
    have e : ((2 : Int) ^ a) = ((2 ^ a : Nat) : Int) := by simp
    have e' : ((2 : Int) ^ n.toNat) = ((2 ^ n.toNat : Nat) : Int) := by simp
    omega
  have e2 : ((2 : Int) ^ c) < 2 ^ n.toNat := by
    have h1 : 2 ^ c < 2 ^ n.toNat := Nat.pow_lt_pow_right (by omega) (by omega)
    have e : ((2 : Int) ^ c) = ((2 ^ c : Nat) : Int) := by simp
    have e' : ((2 : Int) ^ n.toNat) = ((2 ^ n.toNat : Nat) : Int) := by simp
    omega
  have hb := ior_bd (2 ^ a) (2 ^ c) n.toNat e1 e2
  have hbits : ∀ q, 0 ≤ q → bit (ior (2 ^ a) (2 ^ c)) q = (decide (q = (a : Int)) || decide (q = (c : Int))) := fun q hq => by rw [bit_ior, bit_pow a q hq, bit_pow c q hq]
  have hp : plOk n (ior (2 ^ a) (2 ^ c)) = true := by unfold plOk; simp; omega
  unfold joinsEnds
  rw [setOk_mk hno hfb.1 (Int.le_refl _), hp, Bool.true_and, Bool.true_and, Bool.eq_iff_iff, joins_iff hn hb.1 hb.2, beq_iff_eq, part_iff hn ha hc]
  have ha0 : (0 : Int) ≤ (a : Int) := by omega
  have hc0 : (0 : Int) ≤ (c : Int) := by omega
  constructor
  · intro h
    exact h a c ha0 hc0 (by rw [hbits a ha0]; simp) (by rw [hbits c hc0]; simp)
  · intro h p q p0 q0 hbp hbq
    rw [hbits p p0] at hbp
    rw [hbits q q0] at hbq
    simp only [Bool.or_eq_true, decide_eq_true_eq] at hbp hbq
    have h2 := re_sym hn ha0 ha hc0 h
    rcases hbp with rfl | rfl <;> rcases hbq with rfl | rfl
    · exact (reach_is hn ha0 ha).has
    · exact h
    · exact h2
    · exact (reach_is hn hc0 hc).has
theorem parts_way {n : Int} {ws : List Wy} (hn : NetIs n ws) {k : Nat} {x : Wy} (hx : ws[k]? = some x) : partAt ws x.a.toNat = partAt ws x.b.toNat := by
  have hxa := hn.at_ hx
  have hk := (List.getElem?_eq_some_iff.1 hx).1
  have e1 : ((x.a.toNat : Nat) : Int) = x.a := Int.toNat_of_nonneg hxa.1
  have e2 : ((x.b.toNat : Nat) : Int) = x.b := Int.toNat_of_nonneg hxa.2.2.1
  rw [part_iff hn (by omega) (by omega), e1, e2]
  exact re_way hn hx (full_bit _ _ hk)
end Go.Proofs.YtkjheobeogkhlaaDoor
