/- Cuts by distances: what they are of two places, and that they pack. Plain mathematics. -/
import Derived.Test.YtgnjjiljipgbnaaDoorCuN
import Derived.Test.YtgnjjiljipgbnaaDoorCuB
import Derived.Test.YtgnjjiljipgbnaaDoorEnB
set_option linter.unusedSimpArgs false
set_option linter.unusedVariables false
namespace Go.Proofs.YtgnjjiljipgbnaaDoor
open Go.RowKit

/-- two different places of a net that are joined -/
noncomputable def twoOk (n : Int) (ws : List Wy) (a b : Int) : Bool := netOk n ws && (hasPl n a && (hasPl n b && !(a == b)))
noncomputable def pathCuts (n : Int) (ws : List Wy) (a b : Int) : Option (List (Int × Int)) :=
  if twoOk n ws a b = true then (if 0 ≤ farF ws n.toNat a.toNat b.toNat then some (pcs (farF ws n.toNat a.toNat) n.toNat (farF ws n.toNat a.toNat b.toNat) (farF ws n.toNat a.toNat b.toNat).toNat 0) else none) else none
theorem twoOk_t {n : Int} {ws : List Wy} {a b : Int} (h : twoOk n ws a b = true) : netOk n ws = true ∧ ∃ m ia ib : Nat, n = (m : Int) ∧ a = (ia : Int) ∧ b = (ib : Int) ∧ ia < m ∧ ib < m ∧ ia ≠ ib := by
  unfold twoOk at h
  rw [Bool.and_eq_true, Bool.and_eq_true, Bool.and_eq_true] at h
  obtain ⟨h1, h2, h3, h4⟩ := h
  have ha := hasPl_t h2
  have hb := hasPl_t h3
  obtain ⟨m, rfl⟩ := Int.eq_ofNat_of_zero_le (show 0 ≤ n by omega)
  obtain ⟨ia, rfl⟩ := Int.eq_ofNat_of_zero_le ha.1
  obtain ⟨ib, rfl⟩ := Int.eq_ofNat_of_zero_le hb.1
  refine ⟨h1, m, ia, ib, rfl, rfl, rfl, by omega, by omega, fun e => ?_⟩
  subst e
  simp at h4
theorem twoOk_sym {n : Int} {ws : List Wy} {a b : Int} (h : twoOk n ws a b = true) : twoOk n ws b a = true := by
  unfold twoOk at h ⊢
  simp only [Bool.and_eq_true, Bool.not_eq_true', beq_eq_false_iff_ne, ne_eq] at h ⊢
  exact ⟨h.1, h.2.2.1, h.2.1, fun e => h.2.2.2 e.symm⟩
theorem pathCuts_some {m ia ib : Nat} {ws : List Wy} (h : twoOk (m : Int) ws ia ib = true) (hf : 0 ≤ farF ws m ia ib) : pathCuts (m : Int) ws ia ib = some (pcs (farF ws m ia) m (farF ws m ia ib) (farF ws m ia ib).toNat 0) := by
  unfold pathCuts
  rw [if_pos h, Int.toNat_natCast, Int.toNat_natCast, Int.toNat_natCast, if_pos hf]
theorem pathCuts_far {m ia ib : Nat} {ws : List Wy} (h : twoOk (m : Int) ws ia ib = true) (hf : farF ws m ia ib < 0) : pathCuts (m : Int) ws ia ib = none := by
  unfold pathCuts
  rw [if_pos h, Int.toNat_natCast, Int.toNat_natCast, Int.toNat_natCast, if_neg (by omega)]
theorem pathCuts_not {n : Int} {ws : List Wy} {a b : Int} (h : twoOk n ws a b = false) : pathCuts n ws a b = none := by
  unfold pathCuts; rw [if_neg (by rw [h]; simp)]
/-- what the cuts that are told are like -/
theorem pathCuts_told {n : Int} {ws : List Wy} {a b : Int} {L : List (Int × Int)} (h : pathCuts n ws a b = some L) :
    ∃ m ia ib : Nat, n = (m : Int) ∧ a = (ia : Int) ∧ b = (ib : Int) ∧ netOk n ws = true ∧ twoOk n ws a b = true ∧ ia < m ∧ ib < m ∧ ia ≠ ib ∧ 0 ≤ farF ws m ia ib ∧ L = pcs (farF ws m ia) m (farF ws m ia ib) (farF ws m ia ib).toNat 0 := by
  cases ht : twoOk n ws a b
  · rw [pathCuts_not ht] at h; cases h
  · obtain ⟨h1, m, ia, ib, rfl, rfl, rfl, h2, h3, h4⟩ := twoOk_t ht
    by_cases hf : 0 ≤ farF ws m ia ib
    · rw [pathCuts_some ht hf] at h
      injection h with h
      exact ⟨m, ia, ib, rfl, rfl, rfl, h1, rfl, h2, h3, h4, hf, h.symm⟩
    · rw [pathCuts_far ht (by omega)] at h; cases h
theorem plcT_step (d : Nat → Int) (now : Int) (k : Nat) : plcT d now (k + 1) = if 0 ≤ d k ∧ d k ≤ now then ior (plcT d now k) (2 ^ k) else plcT d now k := rfl
theorem nxtD_step (d : Nat → Int) (now D : Int) (k : Nat) : nxtD d now D (k + 1) = if now < d k then min (nxtD d now D k) (d k) else nxtD d now D k := rfl
/-- the cuts that are told: few, each with a weight, of places -/
theorem cuts_are {m ia ib : Nat} {ws : List Wy} (hn : NetIs (m : Int) ws) (ha : ia < m) (hb : ib < m) (hne : ia ≠ ib) (hf : 0 ≤ farF ws m ia ib) :
    let L := pcs (farF ws m ia) m (farF ws m ia ib) (farF ws m ia ib).toNat 0
    L.length + 1 ≤ m ∧ wsum L = farF ws m ia ib ∧ (∀ c, c ∈ L → plOk (m : Int) c.1 = true ∧ 0 ≤ c.1 ∧ c.1 < 64 ∧ 1 ≤ c.2 ∧ c.2 ≤ 81) ∧ Packs ws (both (ia : Int) ib) L ∧ (∀ (k : Nat) (c c' : Int × Int), L[k]? = some c → L[k + 1]? = some c' → idiff c.1 c'.1 = 0) := by
  intro L
  have hm6 : m ≤ 6 := by have := hn.hi; omega
  have hp := pcs_packs hn ha hb hf (farF ws m ia ib).toNat
  have hp6 := pow_bd (m : Int) 6 (by omega)
  rw [Int.toNat_natCast] at hp6
  refine ⟨?_, (pcs_sum (d := farF ws m ia) (m := m) (farF ws m ia ib).toNat 0 hf (by omega)).trans (Int.sub_zero _), fun c hc => ?_, hp, fun k c c' h h' => pcs_nest _ 0 k c c' h h'⟩
  · by_cases h0 : 0 < farF ws m ia ib
    · have h1 := pcs_len (d := farF ws m ia) hm6 hb rfl (farF ws m ia ib).toNat 0 (Int.le_refl _) h0
      have h2 : bit (plcT (farF ws m ia) 0 m) ia = true := by
        rw [plcT_bit, farF_diag hn ha]
        simp [ha]
      have h3 := plcT_bd (farF ws m ia) 0 m
      have h4 := pop_pos h3.1 (by omega) (fun e => by rw [e, bit_zero_] at h2; cases h2)
      show L.length + 1 ≤ m
      have : L = pcs (farF ws m ia) m (farF ws m ia ib) (farF ws m ia ib).toNat 0 := rfl
      rw [this]
      omega
    · have : L = [] := pcs_end h0 _
      rw [this]
      simp only [List.length_nil]
      omega
  · obtain ⟨t, h1, h2, h3, h4, h5⟩ := pcs_mem _ 0 (Int.le_refl _) c hc
    have h6 := plcT_bd (farF ws m ia) t m
    have h7 := hp.part c hc
    rw [← h3] at h6
    exact ⟨plOk_mk h6.1 (by rw [Int.toNat_natCast]; exact h6.2), h6.1, by omega, h4, h7.2.2⟩
theorem twoOk_no0 {n : Int} {ws : List Wy} {a b : Int} (h : netOk n ws = false) : twoOk n ws a b = false := by unfold twoOk; rw [h]; rfl
theorem twoOk_no1 {n : Int} {ws : List Wy} {a b : Int} (h : hasPl n a = false) : twoOk n ws a b = false := by unfold twoOk; rw [h]; simp
theorem twoOk_no2 {n : Int} {ws : List Wy} {a b : Int} (h : hasPl n b = false) : twoOk n ws a b = false := by unfold twoOk; rw [h]; simp
theorem twoOk_no3 {n : Int} {ws : List Wy} {a b : Int} (h : a = b) : twoOk n ws a b = false := by unfold twoOk; subst h; simp
theorem twoOk_mk {n : Int} {ws : List Wy} {a b : Int} (h : netOk n ws = true) (h1 : hasPl n a = true) (h2 : hasPl n b = true) (h3 : a ≠ b) : twoOk n ws a b = true := by
  unfold twoOk; rw [h, h1, h2]; simpa using h3
end Go.Proofs.YtgnjjiljipgbnaaDoor
