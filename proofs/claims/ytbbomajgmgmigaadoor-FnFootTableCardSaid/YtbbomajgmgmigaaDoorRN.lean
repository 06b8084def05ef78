/- Roots: least sets that join ends, and sets that have nothing needless, are trees whose leaves are ends. Plain mathematics. -/
import Derived.Test.YtbbomajgmgmigaaDoorRB
import Derived.Test.YtbbomajgmgmigaaDoorPrM
import Derived.Test.YtbbomajgmgmigaaDoorPaN
set_option linter.unusedSimpArgs false
set_option linter.unusedVariables false
namespace Go.Proofs.YtbbomajgmgmigaaDoor
open Go.RowKit

theorem joins_mono {n : Int} {ws : List Wy} (hn : NetIs n ws) {s t e : Int} (e0 : 0 ≤ e) (e1 : e < 2 ^ n.toNat) (hs : ∀ q, 0 ≤ q → bit s q = true → bit t q = true) (h : joins ws s e = true) : joins ws t e = true := by
  have hl := (joins_iff hn e0 e1).1 h
  refine (joins_iff hn e0 e1).2 fun p q hp hq hbp hbq => ?_
  have hpn : p < n := by have := set_sub e0 e1 hbp; have := hn.lo; omega
  exact re_mono hn hp hpn hq hs (hl p q hp hq hbp hbq)
theorem joins_less_ends {n : Int} {ws : List Wy} (hn : NetIs n ws) {s e f : Int} (e0 : 0 ≤ e) (e1 : e < 2 ^ n.toNat) (f0 : 0 ≤ f) (f1 : f < 2 ^ n.toNat) (hs : ∀ q, 0 ≤ q → bit f q = true → bit e q = true) (h : joins ws s e = true) : joins ws s f = true := by
  have hl := (joins_iff hn e0 e1).1 h
  exact (joins_iff hn f0 f1).2 fun p q hp hq hbp hbq => hl p q hp hq (hs p hp hbp) (hs q hq hbq)
/-- a set that is within another one, but has not its way k, is within the other one without k -/
theorem sub_less {u s : Int} {k : Nat} (s0 : 0 ≤ s) (s1 : s < 512) (hk : k < 9) (hb : bit s k = true) (hs : ∀ q, 0 ≤ q → bit u q = true → bit s q = true) (hu : bit u k = false) : ∀ q, 0 ≤ q → bit u q = true → bit (s - 2 ^ k) q = true := by
  intro q hq hbq
  obtain ⟨j, rfl⟩ := Int.eq_ofNat_of_zero_le hq
  have hj := set_sub (n := 9) s0 s1 (hs j hq hbq)
  have hl := (lessb s0 s1 hk (show j < 9 by omega) hb).1
  rw [hl, hs j hq hbq]
  have : j ≠ k := fun e => by subst e; rw [hu] at hbq; cases hbq
  simpa using this
/-- nothing of it is needless -/
def Lean_ (ws : List Wy) (s e : Int) : Prop := ∀ k : Nat, k < ws.length → bit s k = true → joins ws (s - 2 ^ k) e = false
theorem bit_in {ws : List Wy} {s : Int} (s0 : 0 ≤ s) (s1 : s ≤ full ws.length) {q : Int} (hb : bit s q = true) : q < (ws.length : Int) := set_sub s0 ((full_lt ws.length s).1 s1) hb
theorem set_some {s : Int} {m : Nat} (s0 : 0 ≤ s) (s1 : s < 2 ^ m) (h : s ≠ 0) : ∃ k : Nat, k < m ∧ bit s k = true := by
  apply Classical.byContradiction
  intro hno
  apply h
  refine set_none (n := m) s0 s1 fun j hj0 hj1 => ?_
  cases hb : bit s j
  · rfl
  · exact absurd ⟨j.toNat, by omega, by rw [Int.toNat_of_nonneg hj0]; exact hb⟩ hno
theorem min_tree {n : Int} {ws : List Wy} (hn : NetIs n ws) {s e : Int} (s0 : 0 ≤ s) (s1 : s ≤ full ws.length) (e0 : 0 ≤ e) (e1 : e < 2 ^ n.toNat) (hj : joins ws s e = true) (hm : Lean_ ws s e) : tree ws s = true := by
  have h6 := hn.hi
  have hl9 := hn.len
  have hfb := full_bd ws.length hl9
  have hslt := (full_lt ws.length s).1 s1
  by_cases hs : s = 0
  · subst hs; rfl
  · obtain ⟨k, hk, hbk⟩ := set_some s0 hslt hs
    have hez : e ≠ 0 := fun h => by
      have := hm k hk hbk
      rw [h, joins_none] at this; cases this
    have he62 : e < 9223372036854775808 := by have := pow_bd n 6 (by omega); omega
    have hlow := low_spec (e := e) (by omega) he62
    obtain ⟨p, hp⟩ : ∃ p, low e = p := ⟨_, rfl⟩
    rw [hp] at hlow
    obtain ⟨p0, _, hpb, _⟩ := hlow
    have hpn : p < n := by have := set_sub e0 e1 hpb; have := hn.lo; omega
    have hst : GrownBy ws s p (2 ^ p.toNat) 0 := by
      refine ⟨OnWay.start hn p0 hpn, OnWay.start hn p0 hpn, Int.le_refl _, by omega, fun q _ h => ?_, fun k x _ h => ?_, ?_⟩
      · rw [bit_zero_] at h; cases h
      · rw [bit_zero_] at h; cases h
      · have := pop_place (r := 0) (j := p) (Int.le_refl _) (by omega) p0 (by omega) (bit_zero_ p)
        have e : ior 0 (2 ^ p.toNat) = 2 ^ p.toNat := by
          unfold ior
          have := pow_bd p p.toNat (Nat.le_refl _)
          simp; omega
        rw [e] at this
        exact this
    obtain ⟨r, u, hg, hc⟩ := grown_ex hn 64 _ 0 (by have := pow_bd p 5 (by omega); omega) hst
    have hr : r = reach ws s p := IsReach.eq { hg.on with closed := hc }
    have hJ := (joins_iff hn e0 e1).1 hj
    have Ru := reach_is (s := u) hn p0 hpn
    have hru : ∀ q, 0 ≤ q → bit r q = true → bit (reach ws u p) q = true := fun q hq h => hg.onu.least _ Ru.has (fun k x hx hb => Ru.closed k x hx hb) q hq h
    have hju : joins ws u e = true := by
      refine (joins_iff hn e0 e1).2 fun a b ha hb hba hbb => ?_
      have h1 := hru a ha (by rw [hr]; exact hJ p a p0 ha hpb hba)
      have h2 := hru b hb (by rw [hr]; exact hJ p b p0 hb hpb hbb)
      rw [reach_back hn p0 hpn ha h1]
      exact h2
    have hsu : ∀ j : Nat, bit s j = true → bit u j = true := fun j hb => by
      cases hu : bit u j
      · exfalso
        have hjl := bit_in s0 s1 hb
        have h1 := joins_mono hn e0 e1 (sub_less s0 (by omega) (show j < 9 by omega) hb hg.sub hu) hju
        rw [hm j (by omega) hb] at h1; cases h1
      · rfl
    have hpop : pop r = pop s + 1 := by
      have h1 := pop_sub hg.sub
      have h2 := pop_sub (u := s) (s := u) (fun q hq hb => by
        obtain ⟨j, rfl⟩ := Int.eq_ofNat_of_zero_le hq
        exact hsu j hb)
      have := hg.cnt
      omega
    have hends : ∀ (k : Nat) (x : Wy), ws[k]? = some x → bit s k = true → bit r x.a = true ∧ bit r x.b = true := fun k x hx hb => hg.ends k x hx (hsu k hb)
    obtain ⟨d0, d1, d2⟩ := nds_bd hn s
    obtain ⟨x, hx⟩ : ∃ x, ws[k]? = some x := ⟨_, List.getElem?_eq_getElem hk⟩
    have hxa := hn.at_ hx
    have Rs := reach_is (s := s) hn p0 hpn
    have hmem : ∀ (k : Nat) (x : Wy), ws[k]? = some x → bit s k = true → bit (nds ws s) x.a = true ∧ bit (nds ws s) x.b = true := fun k x hx hb => by
      obtain ⟨a0, _, b0, _⟩ := hn.at_ hx
      exact ⟨(nds_iff hn s x.a a0).2 ⟨k, x, hx, hb, .inl rfl⟩, (nds_iff hn s x.b b0).2 ⟨k, x, hx, hb, .inr rfl⟩⟩
    have hpd : bit (nds ws s) p = true := by
      cases hpd : bit (nds ws s) p
      · exfalso
        have h1 := Rs.least (fun q => decide (q = p)) (by simp) (fun j y hy hb => by
          obtain ⟨m1, m2⟩ := hmem j y hy hb
          have n1 : y.a ≠ p := fun e => by rw [e, hpd] at m1; cases m1
          have n2 : y.b ≠ p := fun e => by rw [e, hpd] at m2; cases m2
          simp [n1, n2]) x.a hxa.1 (by rw [← hr]; exact (hends k x hx hbk).1)
        have h2 : x.a = p := by simpa using h1
        have h3 := (hmem k x hx hbk).1
        rw [h2, hpd] at h3; cases h3
      · rfl
    have hrn : r = nds ws s := by
      refine set_ext hg.on.lo d0 fun q hq => ?_
      rw [Bool.eq_iff_iff]
      constructor
      · intro h
        rw [hr] at h
        exact Rs.least (bit (nds ws s)) hpd (fun j y hy hb => by
          obtain ⟨m1, m2⟩ := hmem j y hy hb
          rw [m1, m2]) q hq h
      · intro h
        obtain ⟨j, y, hy, hb, hqy⟩ := (nds_iff hn s q hq).1 h
        obtain ⟨m1, m2⟩ := hends j y hy hb
        rcases hqy with h | h
        · rw [h]; exact m1
        · rw [h]; exact m2
    unfold tree
    rw [Bool.or_eq_true, Bool.and_eq_true]
    refine .inr ⟨?_, (joins_iff hn d0 d2).2 fun a b ha hb hba hbb => ?_⟩
    · rw [← hrn, hpop]; (simp) <;> omega
    · rw [← hrn] at hba hbb
      rw [hr] at hba hbb
      rw [reach_back hn p0 hpn ha hba]
      exact hbb
/-- pruned of all that is no end it stays -/
theorem min_pruned {n : Int} {ws : List Wy} (hn : NetIs n ws) {s e : Int} (s0 : 0 ≤ s) (s1 : s ≤ full ws.length) (e0 : 0 ≤ e) (e1 : e < 2 ^ n.toNat) (hj : joins ws s e = true) (hm : Lean_ ws s e) : pr ws e s = s := by
  have hl9 := hn.len
  have hfb := full_bd ws.length hl9
  have ht := min_tree hn s0 s1 e0 e1 hj hm
  by_cases h : needl ws e s = 0
  · exact pr_done s0 h
  · exfalso
    have hal := all_less hn s0 s1 e0 e1 ht ws.length
    have hnb := atTo_bd ws s (idiff (lvs ws s) e) ws.length
    obtain ⟨k, hk, hbk⟩ := set_some (m := ws.length) hnb.1 hnb.2 h
    have hsk := atTo_sub ws s (idiff (lvs ws s) e) ws.length k (by omega) hbk
    have hd := idiff_bd s (needl ws e s) s0
    have h1 : joins ws (s - 2 ^ k) e = true := by
      refine joins_mono hn e0 e1 (sub_less s0 (by omega) (show k < 9 by omega) hsk (u := idiff s (needl ws e s)) (fun q hq hb => ?_) ?_) (hal.2.trans hj)
      · rw [bit_idiff] at hb
        simp only [Bool.and_eq_true] at hb
        exact hb.1
      · rw [bit_idiff]
        have : bit (needl ws e s) k = true := hbk
        rw [this]; simp
    rw [hm k hk hsk] at h1; cases h1
theorem best_lean {n : Int} {ws : List Wy} (hn : NetIs n ws) {e : Int} (h : 0 ≤ best ws e) : Lean_ ws (best ws e) e := fun k hk hb => best_needs hn h hk hb
theorem best_full (ws : List Wy) (e : Int) : best ws e ≤ full ws.length := (full_lt ws.length _).2 (best_bd ws e).2

/-! ### what is left -/
theorem thS_sub {ws : List Wy} {e s : Int} (j : Nat) : ∀ d, ∀ q, 0 ≤ q → bit (thS ws e s (j + d)) q = true → bit (thS ws e s j) q = true
  | 0, q, _, h => h
  | d + 1, q, hq, h => by
    refine thS_sub j d q hq ?_
    rw [show j + (d + 1) = (j + d) + 1 from rfl, thS] at h
    split at h
    · rw [bit_idiff] at h
      simp only [Bool.and_eq_true] at h
      exact h.1
    · exact h
theorem thS_lean {n : Int} {ws : List Wy} (hn : NetIs n ws) {s e : Int} (s0 : 0 ≤ s) (s1 : s ≤ full ws.length) (e0 : 0 ≤ e) (e1 : e < 2 ^ n.toNat) : Lean_ ws (thS ws e s ws.length) e := fun k hk hb => by
  have hl9 := hn.len
  have hfb := full_bd ws.length hl9
  obtain ⟨j, hj⟩ : ∃ j, k + j + 1 = ws.length := ⟨ws.length - 1 - k, by omega⟩
  have hbd := thS_bd (ws := ws) (e := e) s0 ws.length
  have hbj := thS_bd (ws := ws) (e := e) s0 j
  have hb1 : bit (thS ws e s (j + 1)) k = true := thS_sub (j + 1) k k (by omega) (by rw [show j + 1 + k = ws.length by omega]; exact hb)
  have hb0 : bit (thS ws e s j) k = true := thS_sub j 1 k (by omega) hb1
  cases hd : joins ws (idiff (thS ws e s j) (2 ^ k)) e
  · cases hc : joins ws (thS ws e s ws.length - 2 ^ k) e
    · rfl
    · exfalso
      have hone := idiff_one hbj.1 (by omega) (show k < 9 by omega) hb0
      rw [← (idiff_one hbd.1 (by omega) (show k < 9 by omega) hb).1] at hc
      have h1 := joins_mono hn e0 e1 (t := idiff (thS ws e s j) (2 ^ k)) (fun q hq hbq => by
        rw [bit_less _ _ q hq] at hbq ⊢
        rw [Bool.and_eq_true] at hbq ⊢
        exact ⟨thS_sub j (k + 1) q hq (by rw [show j + (k + 1) = ws.length by omega]; exact hbq.1), hbq.2⟩) hc
      rw [hd] at h1; cases h1
  · exfalso
    rw [thS_yes hj hd, bit_less _ _ k (by omega)] at hb1
    simp at hb1
/-- what nothing of is needless is left as it is -/
theorem thS_keep {ws : List Wy} {e s : Int} (hl9 : ws.length ≤ 9) (s0 : 0 ≤ s) (s1 : s ≤ full ws.length) (hm : Lean_ ws s e) : ∀ j, j ≤ ws.length → thS ws e s j = s
  | 0, _ => rfl
  | j + 1, hj => by
    have ih := thS_keep hl9 s0 s1 hm j (by omega)
    have hfb := full_bd ws.length hl9
    obtain ⟨k, hk⟩ : ∃ k, k + j + 1 = ws.length := ⟨ws.length - 1 - j, by omega⟩
    cases hb : bit s k
    · rw [thS_same s0 hk (by rw [ih]; exact hb), ih]
    · have h1 := hm k (by omega) hb
      rw [thS_no hk, ih]
      rw [ih, (idiff_one s0 (by omega) (show k < 9 by omega) hb).1]
      exact h1
theorem thS_iff {n : Int} {ws : List Wy} (hn : NetIs n ws) {s e : Int} (s0 : 0 ≤ s) (s1 : s ≤ full ws.length) (e0 : 0 ≤ e) (e1 : e < 2 ^ n.toNat) : thS ws e s ws.length = s ↔ Lean_ ws s e :=
  ⟨fun h => by have := thS_lean hn s0 s1 e0 e1; rwa [h] at this, fun h => thS_keep hn.len s0 s1 h ws.length (Nat.le_refl _)⟩
/-- costs of sets that join are at least the root's -/
theorem best_cost_le {n : Int} {ws : List Wy} (hn : NetIs n ws) {s e : Int} (s0 : 0 ≤ s) (s1 : s ≤ full ws.length) (hj : joins ws s e = true) : 0 ≤ best ws e ∧ cost ws (best ws e) ≤ cost ws s := by
  have e2 : ((2 : Int) ^ ws.length) = ((2 ^ ws.length : Nat) : Int) := by simp
  have hs := (full_lt ws.length s).1 s1
  have h := (bestTo_least ws e (2 ^ ws.length)).2 s.toNat (by omega) (by rw [Int.toNat_of_nonneg s0]; exact hj)
  rw [Int.toNat_of_nonneg s0, chp_false] at h
  have h0 : 0 ≤ best ws e := h.1
  have h1 : cost ws (best ws e) < cost ws s ∨ _ := h.2
  refine ⟨h0, ?_⟩
  rcases h1 with h1 | h1
  · omega
  · have := h1.1
    unfold best
    omega
end Go.Proofs.YtbbomajgmgmigaaDoor
