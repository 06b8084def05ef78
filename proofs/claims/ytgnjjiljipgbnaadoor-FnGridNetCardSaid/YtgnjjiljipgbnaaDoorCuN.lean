/- Cuts by distances: they pack for the two places, and weigh what the least path costs. Plain mathematics. -/
import Derived.Test.YtgnjjiljipgbnaaDoorCuM
import Derived.Test.YtgnjjiljipgbnaaDoorMJ
import Derived.Test.YtgnjjiljipgbnaaDoorME
set_option linter.unusedVariables false
set_option linter.unusedSimpArgs false
namespace Go.Proofs.YtgnjjiljipgbnaaDoor
open Go.RowKit

/-- the places at most so far, among the first k -/
def plcT (d : Nat → Int) (now : Int) : Nat → Int
  | 0 => 0
  | k + 1 => if 0 ≤ d k ∧ d k ≤ now then ior (plcT d now k) (2 ^ k) else plcT d now k
theorem plcT_bd (d : Nat → Int) (now : Int) : ∀ k : Nat, 0 ≤ plcT d now k ∧ plcT d now k < 2 ^ k
  | 0 => by unfold plcT; simp
  | k + 1 => by
    have ih := plcT_bd d now k
    have e1 : ((2 : Int) ^ (k + 1)) = 2 ^ k * 2 := Int.pow_succ 2 k
    rw [plcT]; split
    · exact ior_bd _ _ _ (by omega) (by omega)
    · omega
theorem plcT_bit (d : Nat → Int) (now : Int) (j : Nat) : ∀ k : Nat, bit (plcT d now k) j = (decide (j < k) && decide (0 ≤ d j ∧ d j ≤ now))
  | 0 => by rw [plcT, bit_zero_]; simp
  | k + 1 => by
    have ih := plcT_bit d now j k
    by_cases e : j = k
    · subst e
      rw [plcT]
      have hz : bit (plcT d now j) j = false := by rw [ih]; simp
      by_cases h : 0 ≤ d j ∧ d j ≤ now
      · rw [if_pos h, bit_ior, bit_pow j j (by omega)]; simp [h]
      · rw [if_neg h, hz]; simp [h]
    · have hd : decide (j < k + 1) = decide (j < k) := by rw [decide_eq_decide]; omega
      rw [hd, ← ih, plcT]
      split
      · rw [bit_ior, bit_pow k j (by omega)]
        have : decide ((j : Int) = k) = false := by simp; omega
        rw [this, Bool.or_false]
      · rfl
/-- the next greater distance, at most D -/
def nxtD (d : Nat → Int) (now D : Int) : Nat → Int
  | 0 => D
  | k + 1 => if now < d k then min (nxtD d now D k) (d k) else nxtD d now D k
theorem nxtD_ok (d : Nat → Int) (now D : Int) (h : now < D) : ∀ k : Nat, now < nxtD d now D k ∧ nxtD d now D k ≤ D ∧ (∀ j, j < k → now < d j → nxtD d now D k ≤ d j) ∧ (nxtD d now D k = D ∨ ∃ j, j < k ∧ nxtD d now D k = d j)
  | 0 => ⟨h, Int.le_refl _, fun j hj => by omega, .inl rfl⟩
  | k + 1 => by
    obtain ⟨h1, h2, h3, h4⟩ := nxtD_ok d now D h k
    rw [nxtD]
    by_cases hk : now < d k
    · rw [if_pos hk]
      refine ⟨by omega, by omega, fun j hj hd => ?_, ?_⟩
      · by_cases e : j = k
        · subst e; omega
        · have := h3 j (by omega) hd; omega
      · by_cases hle : nxtD d now D k ≤ d k
        · rw [Int.min_eq_left hle]
          exact h4.imp id fun ⟨j, hj, e⟩ => ⟨j, by omega, e⟩
        · exact .inr ⟨k, by omega, by omega⟩
    · rw [if_neg hk]
      refine ⟨h1, h2, fun j hj hd => ?_, h4.imp id fun ⟨j, hj, e⟩ => ⟨j, by omega, e⟩⟩
      by_cases e : j = k
      · subst e; exact absurd hd hk
      · exact h3 j (by omega) hd
/-- the cuts from a distance on -/
def pcs (d : Nat → Int) (m : Nat) (D : Int) : Nat → Int → List (Int × Int)
  | 0, _ => []
  | f + 1, now => if now < D then (plcT d now m, nxtD d now D m - now) :: pcs d m D f (nxtD d now D m) else []
theorem pcs_end {d : Nat → Int} {m : Nat} {D now : Int} (h : ¬ now < D) (f : Nat) : pcs d m D f now = [] := by
  cases f with
  | zero => rfl
  | succ f => rw [pcs, if_neg h]
theorem pcs_more {d : Nat → Int} {m : Nat} {D now : Int} (h : now < D) (f : Nat) : pcs d m D (f + 1) now = (plcT d now m, nxtD d now D m - now) :: pcs d m D f (nxtD d now D m) := by rw [pcs, if_pos h]
theorem pcs_sum {d : Nat → Int} {m : Nat} {D : Int} : ∀ (f : Nat) (now : Int), now ≤ D → D - now ≤ f → wsum (pcs d m D f now) = D - now
  | 0, now, h1, h2 => by simp only [pcs, wsum]; omega
  | f + 1, now, h1, h2 => by
    by_cases h : now < D
    · have hx := nxtD_ok d now D h m
      rw [pcs_more h, wsum, pcs_sum f _ hx.2.1 (by omega)]
      simp only; omega
    · rw [pcs_end h, wsum]; omega
/-- each cut's weight, and its places -/
theorem pcs_mem {d : Nat → Int} {m : Nat} {D : Int} : ∀ (f : Nat) (now : Int), 0 ≤ now → ∀ c, c ∈ pcs d m D f now → ∃ t, now ≤ t ∧ t < D ∧ c.1 = plcT d t m ∧ 1 ≤ c.2 ∧ c.2 ≤ D
  | 0, now, _, c, h => by cases h
  | f + 1, now, h0, c, h => by
    by_cases hlt : now < D
    · have hx := nxtD_ok d now D hlt m
      rw [pcs_more hlt] at h
      rcases List.mem_cons.1 h with rfl | h
      · exact ⟨now, Int.le_refl _, hlt, rfl, by simp only; omega, by simp only; omega⟩
      · obtain ⟨t, h1, h2⟩ := pcs_mem f _ (by omega) c h
        exact ⟨t, by omega, h2⟩
    · rw [pcs_end hlt] at h; cases h
/-- the load of a way whose places are told, or both not -/
theorem pcs_load {ws : List Wy} {d : Nat → Int} {m : Nat} {D : Int} {k : Nat} {x : Wy} {a b : Nat} (hx : ws[k]? = some x) (ha : x.a = (a : Int)) (hb : x.b = (b : Int)) (ham : a < m) (hbm : b < m) (ht : 0 ≤ d a ↔ 0 ≤ d b) :
    ∀ (f : Nat) (now : Int), 0 ≤ now → wload ws k (pcs d m D f now) ≤ if now < max (d a) (d b) then max (d a) (d b) - max (min (d a) (d b)) now else 0
  | 0, now, _ => by
    simp only [pcs, wload]
    split <;> omega
  | f + 1, now, h0 => by
    by_cases hlt : now < D
    · have hn := nxtD_ok d now D hlt m
      have ih := pcs_load (D := D) hx ha hb ham hbm ht f (nxtD d now D m) (by omega)
      rw [pcs_more hlt, wload, cutB_at hx, ha, hb]
      simp only
      rw [plcT_bit, plcT_bit]
      have d1 : decide (a < m) = true := by simpa using ham
      have d2 : decide (b < m) = true := by simpa using hbm
      rw [d1, d2, Bool.true_and, Bool.true_and]
      have n1 : now < d a → nxtD d now D m ≤ d a := hn.2.2.1 a ham
      have n2 : now < d b → nxtD d now D m ≤ d b := hn.2.2.1 b hbm
      have hn1 := hn.1
      clear hn d1 d2 hx ha hb
      generalize nxtD d now D m = nx at *
      generalize d a = da at *
      generalize d b = db at *
      generalize wload ws k (pcs d m D f nx) = W at *
      by_cases c1 : 0 ≤ da ∧ da ≤ now <;> by_cases c2 : 0 ≤ db ∧ db ≤ now
      · rw [decide_eq_true c1, decide_eq_true c2]
        simp only [bne_self_eq_false, Bool.false_eq_true, if_false]
        split at ih <;> split <;> omega
      · rw [decide_eq_true c1, decide_eq_false c2]
        simp only [Bool.bne_false, if_true]
        split at ih <;> split <;> omega
      · rw [decide_eq_false c1, decide_eq_true c2]
        simp only [Bool.bne_true, Bool.not_false, if_true]
        split at ih <;> split <;> omega
      · rw [decide_eq_false c1, decide_eq_false c2]
        simp only [bne_self_eq_false, Bool.false_eq_true, if_false]
        split at ih <;> split <;> omega
    · rw [pcs_end hlt]
      simp only [wload]
      split <;> omega
/-- how many cuts -/
theorem pcs_len {d : Nat → Int} {m : Nat} {D : Int} {b : Nat} (hm6 : m ≤ 6) (hbm : b < m) (hb : d b = D) : ∀ (f : Nat) (now : Int), 0 ≤ now → now < D → ((pcs d m D f now).length : Int) + pop (plcT d now m) ≤ m
  | 0, now, h0, hlt => by
    have hp := pop_sub (u := plcT d now m) (s := allPl m) (fun q hq h => by rw [allPl_bit hq (by omega)]; have := set_sub (plcT_bd d now m).1 (plcT_bd d now m).2 h; simpa using this)
    rw [pop_allPl (by omega) (by omega)] at hp
    simp only [pcs, List.length_nil]; omega
  | f + 1, now, h0, hlt => by
    have hn := nxtD_ok d now D hlt m
    have hbd := fun t => plcT_bd d t m
    have hp64 := Nat.pow_le_pow_right (n := 2) (by omega) hm6
    have e2 : ((2 : Int) ^ m) = ((2 ^ m : Nat) : Int) := by simp
    have grow : ∀ (t : Int) (j : Nat), now < t → j < m → d j = t → ∀ s : Int, (∀ q : Nat, bit (plcT d now m) q = true → bit s q = true) → bit s j = true → pop (plcT d now m) + 1 ≤ pop s := fun t j hnt hj hdj s hs hsj => by
      have hnb : bit (plcT d now m) (j : Int) = false := by rw [plcT_bit]; simp; omega
      have h9 := pop_place (r := plcT d now m) (j := (j : Int)) (hbd now).1 (by have := (hbd now).2; omega) (by omega) (by omega) hnb
      rw [Int.toNat_natCast] at h9
      rw [← h9]
      refine pop_sub fun q hq h => ?_
      rw [bit_ior, bit_pow j q hq, Bool.or_eq_true, decide_eq_true_eq] at h
      rcases h with h | rfl
      · obtain ⟨k, rfl⟩ := Int.eq_ofNat_of_zero_le hq
        exact hs k h
      · exact hsj
    rw [pcs_more hlt, List.length_cons]
    by_cases hnD : nxtD d now D m < D
    · have ih := pcs_len hm6 hbm hb f (nxtD d now D m) (by omega) hnD
      obtain ⟨j, hj, hdj⟩ : ∃ j, j < m ∧ nxtD d now D m = d j := by
        rcases hn.2.2.2 with h | h
        · omega
        · exact h
      have hg := grow (nxtD d now D m) j hn.1 hj hdj.symm (plcT d (nxtD d now D m) m) (fun q h => by
        rw [plcT_bit] at h ⊢
        simp only [Bool.and_eq_true, decide_eq_true_eq] at h ⊢
        omega) (by rw [plcT_bit]; simp; omega)
      omega
    · rw [pcs_end hnD]
      have hg := grow D b (by omega) hbm hb (allPl m) (fun q h => by
        rw [allPl_bit (by omega) (by omega)]
        have := set_sub (hbd now).1 (hbd now).2 h
        simpa using this) (by rw [allPl_bit (by omega) (by omega)]; simp; omega)
      rw [pop_allPl (by omega) (by omega)] at hg
      simp only [List.length_nil]; omega
/-- each cut is within the next one -/
theorem pcs_nest {d : Nat → Int} {m : Nat} {D : Int} : ∀ (f : Nat) (now : Int) (k : Nat) (c c' : Int × Int), (pcs d m D f now)[k]? = some c → (pcs d m D f now)[k + 1]? = some c' → idiff c.1 c'.1 = 0
  | 0, _, _, _, _, h, _ => by simp [pcs] at h
  | f + 1, now, k, c, c', h, h' => by
    by_cases hlt : now < D
    · have hn := nxtD_ok d now D hlt m
      rw [pcs_more hlt] at h h'
      cases k with
      | succ k =>
        rw [List.getElem?_cons_succ] at h h'
        exact pcs_nest f _ k c c' h h'
      | zero =>
        rw [List.getElem?_cons_zero] at h
        rw [List.getElem?_cons_succ] at h'
        injection h with h
        cases f with
        | zero => simp [pcs] at h'
        | succ f =>
          by_cases hlt2 : nxtD d now D m < D
          · rw [pcs_more hlt2, List.getElem?_cons_zero] at h'
            injection h' with h'
            subst h; subst h'
            refine (idiff_zero (plcT_bd _ _ _).1).2 fun q hq hb => ?_
            obtain ⟨j, rfl⟩ := Int.eq_ofNat_of_zero_le hq
            simp only at hb ⊢
            rw [plcT_bit] at hb ⊢
            simp only [Bool.and_eq_true, decide_eq_true_eq] at hb ⊢
            omega
          · rw [pcs_end hlt2] at h'; simp at h'
    · rw [pcs_end hlt] at h; simp at h
/-- the cuts of two places that are joined -/
theorem pcs_packs {m : Nat} {ws : List Wy} (hn : NetIs (m : Int) ws) {a b : Nat} (ha : a < m) (hb : b < m) (hf : 0 ≤ farF ws m a b) (f : Nat) : Packs ws (both a b) (pcs (farF ws m a) m (farF ws m a b) f 0) := by
  have h6 : m ≤ 6 := by have := hn.hi; omega
  have ht := farF_tri hn h6
  have hbo := both_bd (n := (m : Int)) (a := (a : Int)) (b := (b : Int)) (by omega) (by omega) (by omega) (by omega)
  rw [Int.toNat_natCast] at hbo
  have h81 : farF ws m a b ≤ 81 := by
    obtain ⟨s, s0, s1, s2, s3⟩ := rep_fw hn a b ha hb hf
    have := (far_le hn ha ht (fun k x hx => farF_way hn hx) s2).2
    have := (cost_bds hn s).2
    omega
  refine ⟨fun c hc => ?_, fun k x hx => ?_⟩
  · obtain ⟨t, h1, h2, h3, h4, h5⟩ := pcs_mem f 0 (Int.le_refl _) c hc
    refine ⟨?_, by omega, by omega⟩
    rw [h3, parts_iff hbo.1 hbo.2]
    refine ⟨⟨a, ha, ?_, ?_⟩, b, hb, ?_, ?_⟩
    · rw [bit_both (by omega) (by omega) (by omega)]; simp
    · rw [plcT_bit, farF_diag hn ha]; simp; omega
    · rw [bit_both (by omega) (by omega) (by omega)]; simp
    · rw [plcT_bit]; simp; omega
  · obtain ⟨a0, a1, b0, b1, hne, c0, c9⟩ := hn.at_ hx
    obtain ⟨p, hp⟩ : ∃ p : Nat, x.a = p := ⟨x.a.toNat, by omega⟩
    obtain ⟨q, hq⟩ : ∃ q : Nat, x.b = q := ⟨x.b.toNat, by omega⟩
    obtain ⟨⟨w1, w2⟩, w3, w4⟩ := farF_way hn hx
    rw [hp, hq, Int.toNat_natCast, Int.toNat_natCast] at w1 w2 w3 w4
    have t1 : 0 ≤ farF ws m a p → 0 ≤ farF ws m a q ∧ farF ws m a q ≤ farF ws m a p + farF ws m p q := fun h => ht.tri a q p ha (by omega) (by omega) h w1
    have t2 : 0 ≤ farF ws m a q → 0 ≤ farF ws m a p ∧ farF ws m a p ≤ farF ws m a q + farF ws m q p := fun h => ht.tri a p q ha (by omega) (by omega) h w3
    have hl := pcs_load (d := farF ws m a) (m := m) (D := farF ws m a b) hx hp hq (by omega) (by omega) ⟨fun h => (t1 h).1, fun h => (t2 h).1⟩ f 0 (Int.le_refl _)
    refine Int.le_trans hl ?_
    generalize farF ws m a p = P at *
    generalize farF ws m a q = Q at *
    split
    · by_cases hP : 0 ≤ P
      · have h9 := t1 hP
        have h8 := t2 h9.1
        omega
      · have : ¬ 0 ≤ Q := fun h => hP (t2 h).1
        omega
    · omega
end Go.Proofs.YtgnjjiljipgbnaaDoor
