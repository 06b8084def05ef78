/- Roots: least sets that join ends, and sets that have nothing needless, are trees whose leaves are ends. Plain mathematics. Roots together: a root for all ends of two sets with an end in common costs at most both. Plain mathematics. The table of least costs: the same both ways, 0 for each place itself, told just for places that all ways join. Plain mathematics. The least cost of a set of ways that joins some places: what tables over sets of ends keep to, and that they come to it. Plain mathematics. AllRoots: the list, told by plain functions. -/
import Derived.Test.YthadehgpeafniaaMG
import Derived.Test.YthadehgpeafniaaMF
import Derived.Test.YthadehgpeafniaaMI
import Derived.Test.YthadehgpeafniaaMH
set_option linter.unusedSimpArgs false
set_option linter.unusedVariables false
namespace Go.Proofs.Ythadehgpeafniaa
open Go.RowKit

theorem joins_mono {n : Int} {ws : List Wy} (hn : NetIs n ws) {s t e : Int} (e0 : 0 ≤ e) (e1 : e < 2 ^ n.toNat) (hs : ∀ q, 0 ≤ q → bit s q = true → bit t q = true) (h : joins ws s e = true) : joins ws t e = true := by
  have hl := (joins_iff hn e0 e1).1 h
  refine (joins_iff hn e0 e1).2 fun p q hp hq hbp hbq => ?_
  have hpn : p < n := by have := set_sub e0 e1 hbp; have := hn.lo; omega
  exact re_mono hn hp hpn hq hs (hl p q hp hq hbp hbq)
theorem joins_less_ends {n : Int} {ws : List Wy} (hn : NetIs n ws) {s e f : Int} (e0 : 0 ≤ e) (e1 : e < 2 ^ n.toNat) (f0 : 0 ≤ f) (f1 : f < 2 ^ n.toNat) (hs : ∀ q, 0 ≤ q → bit f q = true → bit e q = true) (h : joins ws s e = true) : joins ws s f = true := by
  have hl := (joins_iff hn e0 e1).1 h
  exact (joins_iff hn f0 f1).2 fun p q hp hq hbp hbq => hl p q hp hq (hs p hp hbp) (hs q hq hbq)
/-- a set that is within another one, but has not its way k, is within the other one without k -/
theorem sub_less {u s : Int} {k : Nat} (s0 : 0 ≤ s) (s1 : s < 512) (hk : k < 9) (hb : bit s k = true) (hs : ∀ q, 0 ≤ q → bit u q = true → bit s q = true) (hu : bit u k = false) : ∀ q, 0 ≤ q → bit u q = true → bit (s - 2 ^ k) q = true := by
  intro q hq hbq
  obtain ⟨j, rfl⟩ := Int.eq_ofNat_of_zero_le hq
  have hj := set_sub (n := 9) s0 s1 (hs j hq hbq)
  have hl := (lessb s0 s1 hk (show j < 9 by omega) hb).1
  rw [hl, hs j hq hbq]
  have : j ≠ k := fun e => by subst e; rw [hu] at hbq; cases hbq
  simpa using this
/-- nothing of it is needless -/
def Lean_ (ws : List Wy) (s e : Int) : Prop := ∀ k : Nat, k < ws.length → bit s k = true → joins ws (s - 2 ^ k) e = false
theorem bit_in {ws : List Wy} {s : Int} (s0 : 0 ≤ s) (s1 : s ≤ full ws.length) {q : Int} (hb : bit s q = true) : q < (ws.length : Int) := set_sub s0 ((full_lt ws.length s).1 s1) hb
theorem set_some {s : Int} {m : Nat} (s0 : 0 ≤ s) (s1 : s < 2 ^ m) (h : s ≠ 0) : ∃ k : Nat, k < m ∧ bit s k = true := by
  apply Classical.byContradiction
  intro hno
  apply h
  refine set_none (n := m) s0 s1 fun j hj0 hj1 => ?_
  cases hb : bit s j
  · rfl
  · exact absurd ⟨j.toNat, by omega, by rw [Int.toNat_of_nonneg hj0]; exact hb⟩ hno
theorem min_tree {n : Int} {ws : List Wy} (hn : NetIs n ws) {s e : Int} (s0 : 0 ≤ s) (s1 : s ≤ full ws.length) (e0 : 0 ≤ e) (e1 : e < 2 ^ n.toNat) (hj : joins ws s e = true) (hm : Lean_ ws s e) : tree ws s = true := by
  have h6 := hn.hi
  have hl9 := hn.len
  have hfb := full_bd ws.length hl9
  have hslt := (full_lt ws.length s).1 s1
  by_cases hs : s = 0
  · subst hs; rfl
  · obtain ⟨k, hk, hbk⟩ := set_some s0 hslt hs
    have hez : e ≠ 0 := fun h => by
      have := hm k hk hbk
      rw [h, joins_none] at this; cases this
    have he62 : e < 9223372036854775808 := by have := pow_bd n 6 (by omega); omega
    have hlow := low_spec (e := e) (by omega) he62
    obtain ⟨p, hp⟩ : ∃ p, low e = p := ⟨_, rfl⟩
    rw [hp] at hlow
    obtain ⟨p0, _, hpb, _⟩ := hlow
    have hpn : p < n := by have := set_sub e0 e1 hpb; have := hn.lo; omega
    have hst : GrownBy ws s p (2 ^ p.toNat) 0 := by
      refine ⟨OnWay.start hn p0 hpn, OnWay.start hn p0 hpn, Int.le_refl _, by omega, fun q _ h => ?_, fun k x _ h => ?_, ?_⟩
      · rw [bit_zero_] at h; cases h
      · rw [bit_zero_] at h; cases h
      · have := pop_place (r := 0) (j := p) (Int.le_refl _) (by omega) p0 (by omega) (bit_zero_ p)
        have e : ior 0 (2 ^ p.toNat) = 2 ^ p.toNat := by
          unfold ior
          have := pow_bd p p.toNat (Nat.le_refl _)
          simp; omega
        rw [e] at this
        exact this
    obtain ⟨r, u, hg, hc⟩ := grown_ex hn 64 _ 0 (by have := pow_bd p 5 (by omega); omega) hst
    have hr : r = reach ws s p := IsReach.eq { hg.on with closed := hc }
    have hJ := (joins_iff hn e0 e1).1 hj
    have Ru := reach_is (s := u) hn p0 hpn
    have hru : ∀ q, 0 ≤ q → bit r q = true → bit (reach ws u p) q = true := fun q hq h => hg.onu.least _ Ru.has (fun k x hx hb => Ru.closed k x hx hb) q hq h
    have hju : joins ws u e = true := by
      refine (joins_iff hn e0 e1).2 fun a b ha hb hba hbb => ?_
      have h1 := hru a ha (by rw [hr]; exact hJ p a p0 ha hpb hba)
      have h2 := hru b hb (by rw [hr]; exact hJ p b p0 hb hpb hbb)
      rw [reach_back hn p0 hpn ha h1]
      exact h2
    have hsu : ∀ j : Nat, bit s j = true → bit u j = true := fun j hb => by
      cases hu : bit u j
      · exfalso
        have hjl := bit_in s0 s1 hb
        have h1 := joins_mono hn e0 e1 (sub_less s0 (by omega) (show j < 9 by omega) hb hg.sub hu) hju
        rw [hm j (by omega) hb] at h1; cases h1
      · rfl
    have hpop : pop r = pop s + 1 := by
      have h1 := pop_sub hg.sub
      have h2 := pop_sub (u := s) (s := u) (fun q hq hb => by
        obtain ⟨j, rfl⟩ := Int.eq_ofNat_of_zero_le hq
        exact hsu j hb)
      have := hg.cnt
      omega
    have hends : ∀ (k : Nat) (x : Wy), ws[k]? = some x → bit s k = true → bit r x.a = true ∧ bit r x.b = true := fun k x hx hb => hg.ends k x hx (hsu k hb)
    obtain ⟨d0, d1, d2⟩ := nds_bd hn s
    obtain ⟨x, hx⟩ : ∃ x, ws[k]? = some x := ⟨_, List.getElem?_eq_getElem hk⟩
    have hxa := hn.at_ hx
    have Rs := reach_is (s := s) hn p0 hpn
    have hmem : ∀ (k : Nat) (x : Wy), ws[k]? = some x → bit s k = true → bit (nds ws s) x.a = true ∧ bit (nds ws s) x.b = true := fun k x hx hb => by
      obtain ⟨a0, _, b0, _⟩ := hn.at_ hx
      exact ⟨(nds_iff hn s x.a a0).2 ⟨k, x, hx, hb, .inl rfl⟩, (nds_iff hn s x.b b0).2 ⟨k, x, hx, hb, .inr rfl⟩⟩
    have hpd : bit (nds ws s) p = true := by
      cases hpd : bit (nds ws s) p
      · exfalso
        have h1 := Rs.least (fun q => decide (q = p)) (by simp) (fun j y hy hb => by
          obtain ⟨m1, m2⟩ := hmem j y hy hb
          have n1 : y.a ≠ p := fun e => by rw [e, hpd] at m1; cases m1
          have n2 : y.b ≠ p := fun e => by rw [e, hpd] at m2; cases m2
          simp [n1, n2]) x.a hxa.1 (by rw [← hr]; exact (hends k x hx hbk).1)
        have h2 : x.a = p := by simpa using h1
        have h3 := (hmem k x hx hbk).1
        rw [h2, hpd] at h3; cases h3
      · rfl
    have hrn : r = nds ws s := by
      refine set_ext hg.on.lo d0 fun q hq => ?_
      rw [Bool.eq_iff_iff]
      constructor
      · intro h
        rw [hr] at h
        exact Rs.least (bit (nds ws s)) hpd (fun j y hy hb => by
          obtain ⟨m1, m2⟩ := hmem j y hy hb
          rw [m1, m2]) q hq h
      · intro h
        obtain ⟨j, y, hy, hb, hqy⟩ := (nds_iff hn s q hq).1 h
        obtain ⟨m1, m2⟩ := hends j y hy hb
        rcases hqy with h | h
        · rw [h]; exact m1
        · rw [h]; exact m2
    unfold tree
    rw [Bool.or_eq_true, Bool.and_eq_true]
    refine .inr ⟨?_, (joins_iff hn d0 d2).2 fun a b ha hb hba hbb => ?_⟩
    · rw [← hrn, hpop]; (simp) <;> omega
    · rw [← hrn] at hba hbb
      rw [hr] at hba hbb
      rw [reach_back hn p0 hpn ha hba]
      exact hbb
/-- pruned of all that is no end it stays -/
theorem min_pruned {n : Int} {ws : List Wy} (hn : NetIs n ws) {s e : Int} (s0 : 0 ≤ s) (s1 : s ≤ full ws.length) (e0 : 0 ≤ e) (e1 : e < 2 ^ n.toNat) (hj : joins ws s e = true) (hm : Lean_ ws s e) : pr ws e s = s := by
  have hl9 := hn.len
  have hfb := full_bd ws.length hl9
  have ht := min_tree hn s0 s1 e0 e1 hj hm
  by_cases h : needl ws e s = 0
  · exact pr_done s0 h
  · exfalso
    have hal := all_less hn s0 s1 e0 e1 ht ws.length
    have hnb := atTo_bd ws s (idiff (lvs ws s) e) ws.length
    obtain ⟨k, hk, hbk⟩ := set_some (m := ws.length) hnb.1 hnb.2 h
    have hsk := atTo_sub ws s (idiff (lvs ws s) e) ws.length k (by omega) hbk
    have hd := idiff_bd s (needl ws e s) s0
    have h1 : joins ws (s - 2 ^ k) e = true := by
      refine joins_mono hn e0 e1 (sub_less s0 (by omega) (show k < 9 by omega) hsk (u := idiff s (needl ws e s)) (fun q hq hb => ?_) ?_) (hal.2.trans hj)
      · rw [bit_idiff] at hb
        simp only [Bool.and_eq_true] at hb
        exact hb.1
      · rw [bit_idiff]
        have : bit (needl ws e s) k = true := hbk
        rw [this]; simp
    rw [hm k hk hsk] at h1; cases h1
theorem best_lean {n : Int} {ws : List Wy} (hn : NetIs n ws) {e : Int} (h : 0 ≤ best ws e) : Lean_ ws (best ws e) e := fun k hk hb => best_needs hn h hk hb
theorem best_full (ws : List Wy) (e : Int) : best ws e ≤ full ws.length := (full_lt ws.length _).2 (best_bd ws e).2

/-! ### what is left -/
theorem thS_sub {ws : List Wy} {e s : Int} (j : Nat) : ∀ d, ∀ q, 0 ≤ q → bit (thS ws e s (j + d)) q = true → bit (thS ws e s j) q = true
  | 0, q, _, h => h
  | d + 1, q, hq, h => by
    refine thS_sub j d q hq ?_
    rw [show j + (d + 1) = (j + d) + 1 from rfl, thS] at h
    split at h
    · rw [bit_idiff] at h
      simp only [Bool.and_eq_true] at h
      exact h.1
    · exact h
theorem thS_lean {n : Int} {ws : List Wy} (hn : NetIs n ws) {s e : Int} (s0 : 0 ≤ s) (s1 : s ≤ full ws.length) (e0 : 0 ≤ e) (e1 : e < 2 ^ n.toNat) : Lean_ ws (thS ws e s ws.length) e := fun k hk hb => by
  have hl9 := hn.len
  have hfb := full_bd ws.length hl9
  obtain ⟨j, hj⟩ : ∃ j, k + j + 1 = ws.length := ⟨ws.length - 1 - k, by omega⟩
  have hbd := thS_bd (ws := ws) (e := e) s0 ws.length
  have hbj := thS_bd (ws := ws) (e := e) s0 j
  have hb1 : bit (thS ws e s (j + 1)) k = true := thS_sub (j + 1) k k (by omega) (by rw [show j + 1 + k = ws.length by omega]; exact hb)
  have hb0 : bit (thS ws e s j) k = true := thS_sub j 1 k (by omega) hb1
  cases hd : joins ws (idiff (thS ws e s j) (2 ^ k)) e
  · cases hc : joins ws (thS ws e s ws.length - 2 ^ k) e
    · rfl
    · exfalso
      have hone := idiff_one hbj.1 (by omega) (show k < 9 by omega) hb0
      rw [← (idiff_one hbd.1 (by omega) (show k < 9 by omega) hb).1] at hc
      have h1 := joins_mono hn e0 e1 (t := idiff (thS ws e s j) (2 ^ k)) (fun q hq hbq => by
        rw [bit_less _ _ q hq] at hbq ⊢
        rw [Bool.and_eq_true] at hbq ⊢
        exact ⟨thS_sub j (k + 1) q hq (by rw [show j + (k + 1) = ws.length by omega]; exact hbq.1), hbq.2⟩) hc
      rw [hd] at h1; cases h1
  · exfalso
    rw [thS_yes hj hd, bit_less _ _ k (by omega)] at hb1
    simp at hb1
/-- what nothing of is needless is left as it is -/
theorem thS_keep {ws : List Wy} {e s : Int} (hl9 : ws.length ≤ 9) (s0 : 0 ≤ s) (s1 : s ≤ full ws.length) (hm : Lean_ ws s e) : ∀ j, j ≤ ws.length → thS ws e s j = s
  | 0, _ => rfl
  | j + 1, hj => by
    have ih := thS_keep hl9 s0 s1 hm j (by omega)
    have hfb := full_bd ws.length hl9
    obtain ⟨k, hk⟩ : ∃ k, k + j + 1 = ws.length := ⟨ws.length - 1 - j, by omega⟩
    cases hb : bit s k
    · rw [thS_same s0 hk (by rw [ih]; exact hb), ih]
    · have h1 := hm k (by omega) hb
      rw [thS_no hk, ih]
      rw [ih, (idiff_one s0 (by omega) (show k < 9 by omega) hb).1]
      exact h1
theorem thS_iff {n : Int} {ws : List Wy} (hn : NetIs n ws) {s e : Int} (s0 : 0 ≤ s) (s1 : s ≤ full ws.length) (e0 : 0 ≤ e) (e1 : e < 2 ^ n.toNat) : thS ws e s ws.length = s ↔ Lean_ ws s e :=
  ⟨fun h => by have := thS_lean hn s0 s1 e0 e1; rwa [h] at this, fun h => thS_keep hn.len s0 s1 h ws.length (Nat.le_refl _)⟩
/-- costs of sets that join are at least the root's -/
theorem best_cost_le {n : Int} {ws : List Wy} (hn : NetIs n ws) {s e : Int} (s0 : 0 ≤ s) (s1 : s ≤ full ws.length) (hj : joins ws s e = true) : 0 ≤ best ws e ∧ cost ws (best ws e) ≤ cost ws s := by
  have e2 : ((2 : Int) ^ ws.length) = ((2 ^ ws.length : Nat) : Int) := by simp
  have hs := (full_lt ws.length s).1 s1
  have h := (bestTo_least ws e (2 ^ ws.length)).2 s.toNat (by omega) (by rw [Int.toNat_of_nonneg s0]; exact hj)
  rw [Int.toNat_of_nonneg s0, chp_false] at h
  have h0 : 0 ≤ best ws e := h.1
  have h1 : cost ws (best ws e) < cost ws s ∨ _ := h.2
  refine ⟨h0, ?_⟩
  rcases h1 with h1 | h1
  · omega
  · have := h1.1
    unfold best
    omega
end Go.Proofs.Ythadehgpeafniaa
namespace Go.Proofs.Ythadehgpeafniaa
open Go.RowKit

theorem low_bit_all : ∀ e : Fin 64, e.val ≠ 0 → ∃ j : Fin 6, bits .and .i64 (e.val : Int) (-(e.val : Int)) = 2 ^ j.val ∧ e.val.testBit j.val = true := by decide +kernel
theorem low_bit {e : Int} (h0 : 0 < e) (h1 : e < 64) : ∃ j : Nat, j < 6 ∧ bits .and .i64 e (-e) = 2 ^ j ∧ bit e j = true := by
  obtain ⟨j, h2, h3⟩ := low_bit_all ⟨e.toNat, by omega⟩ (by simp only; omega)
  simp only [Int.toNat_of_nonneg (show 0 ≤ e by omega)] at h2
  refine ⟨j.val, j.isLt, h2, ?_⟩
  unfold bit
  rw [Int.toNat_natCast]
  exact h3
/-- sets that join e and f, which have an end in common, join together all of both -/
theorem joins_union {n : Int} {ws : List Wy} (hn : NetIs n ws) {s t e f p : Int} (e0 : 0 ≤ e) (e1 : e < 2 ^ n.toNat) (f0 : 0 ≤ f) (f1 : f < 2 ^ n.toNat) (hp : 0 ≤ p) (hpe : bit e p = true) (hpf : bit f p = true) (hs : joins ws s e = true) (ht : joins ws t f = true) :
    joins ws (ior s t) (ior e f) = true := by
  have hpn : p < n := by have := set_sub e0 e1 hpe; have := hn.lo; omega
  have hS := (joins_iff hn e0 e1).1 hs
  have hT := (joins_iff hn f0 f1).1 ht
  have hb := ior_bd e f n.toNat e1 f1
  have key : ∀ q, 0 ≤ q → bit (ior e f) q = true → bit (reach ws (ior s t) p) q = true := fun q hq h => by
    rw [bit_ior, Bool.or_eq_true] at h
    rcases h with h | h
    · exact re_mono hn hp hpn hq (fun k _ hb => by rw [bit_ior, hb]; rfl) (hS p q hp hq hpe h)
    · exact re_mono hn hp hpn hq (fun k _ hb => by rw [bit_ior, hb]; simp) (hT p q hp hq hpf h)
  refine (joins_iff hn hb.1 hb.2).2 fun a b ha hb hba hbb => ?_
  have h1 := key a ha hba
  rw [reach_back hn hp hpn ha h1]
  exact key b hb hbb
theorem root_join {n : Int} {ws : List Wy} (hn : NetIs n ws) {e f p : Int} (e0 : 0 ≤ e) (e1 : e < 2 ^ n.toNat) (f0 : 0 ≤ f) (f1 : f < 2 ^ n.toNat) (hp : 0 ≤ p) (hpe : bit e p = true) (hpf : bit f p = true) (he : 0 ≤ best ws e) :
    (best ws f < 0 ∧ best ws (ior e f) < 0) ∨ (0 ≤ best ws f ∧ 0 ≤ best ws (ior e f) ∧ cost ws (best ws (ior e f)) ≤ cost ws (best ws e) + cost ws (best ws f)) := by
  have hb := ior_bd e f n.toNat e1 f1
  by_cases hf : best ws f < 0
  · refine .inl ⟨hf, ?_⟩
    apply Classical.byContradiction
    intro h
    have hj := best_joins (ws := ws) (e := ior e f) (by omega)
    have hj2 := joins_less_ends hn hb.1 hb.2 f0 f1 (fun q _ h => by rw [bit_ior, h]; simp) hj
    have := (best_cost_le hn (by omega) (best_full ws (ior e f)) hj2).1
    omega
  · have hj := joins_union hn e0 e1 f0 f1 hp hpe hpf (best_joins he) (best_joins (ws := ws) (e := f) (by omega))
    have hi := ior_full he (best_full ws e) (show 0 ≤ best ws f by omega) (best_full ws f)
    have h := best_cost_le hn hi.1 hi.2 hj
    have hc := cost_union hn (best ws e) (best ws f)
    exact .inr ⟨by omega, h.1, by omega⟩
theorem rootCost_val {n : Int} {ws : List Wy} {e : Int} (hn : netOk n ws = true) (he : plOk n e = true) : rootCost n ws e = if best ws e < 0 then -1 else cost ws (best ws e) := rootCost_is (by rw [hn, he]; rfl)
theorem plOk_mk {n e : Int} (h0 : 0 ≤ e) (h1 : e < 2 ^ n.toNat) : plOk n e = true := by unfold plOk; simp; omega
end Go.Proofs.Ythadehgpeafniaa
namespace Go.Proofs.Ythadehgpeafniaa
open Go.RowKit

def GeM (f : Nat → Nat → Int) : Prop := ∀ i j, -1 ≤ f i j
theorem lowF_ge {f : Nat → Nat → Int} {a b : Nat} {c : Int} (h : GeM f) (hc : -1 ≤ c) : GeM (lowF f a b c) := fun i j => by
  unfold lowF
  split
  · exact hc
  · exact h i j
theorem shF_ge {f : Nat → Nat → Int} {a o b : Nat} (h : GeM f) : GeM (shF f a o b) := by
  unfold shF
  split
  · rename_i hc; exact lowF_ge h (by omega)
  · exact h
theorem fwB_ge {f : Nat → Nat → Int} {o a : Nat} (h : GeM f) : ∀ b, GeM (fwB f o a b)
  | 0 => h
  | b + 1 => shF_ge (fwB_ge h b)
theorem fwA_ge {f : Nat → Nat → Int} {o m : Nat} (h : GeM f) : ∀ a, GeM (fwA f o m a)
  | 0 => h
  | a + 1 => fwB_ge (fwA_ge h a) m
theorem fwO_ge {f : Nat → Nat → Int} {m : Nat} (h : GeM f) : ∀ o, GeM (fwO f m o)
  | 0 => h
  | o + 1 => fwA_ge (fwO_ge h o) m
theorem nxTo_ge {n : Int} {ws : List Wy} (hn : NetIs n ws) : ∀ k, GeM (nxTo ws k)
  | 0 => fun i j => by simp only [nxTo, nF0]; split <;> omega
  | k + 1 => by
    have ih := nxTo_ge hn k
    cases hx : ws[k]? with
    | none => rw [nxTo, hx]; exact ih
    | some x =>
      have hxa := hn.at_ hx
      rw [nxTo_step hx]
      exact lowF_ge (lowF_ge ih (by omega)) (by omega)
theorem farF_ge {n : Int} {ws : List Wy} (hn : NetIs n ws) (m : Nat) : GeM (farF ws m) := fwO_ge (nxTo_ge hn ws.length) m
theorem full_all (len : Nat) (k : Nat) (h : k < len) : bit (full len) k = true := by
  unfold bit full
  have e : ((2 : Int) ^ len - 1).toNat = 2 ^ len - 1 := by
    have e1 : ((2 : Int) ^ len) = ((2 ^ len : Nat) : Int) := by simp
    have : 1 ≤ 2 ^ len := Nat.one_le_two_pow
    omega
  rw [e, Int.toNat_natCast, Nat.testBit_two_pow_sub_one]
  simpa using h
theorem farF_join {m : Nat} {ws : List Wy} (hn : NetIs (m : Int) ws) {a b : Nat} (ha : a < m) (hb : b < m) : 0 ≤ farF ws m a b ↔ bit (reach ws (full ws.length) a) b = true := by
  have h6 := hn.hi
  constructor
  · intro h
    obtain ⟨s, s0, s1, s2, s3⟩ := rep_fw hn a b ha hb h
    refine re_mono hn (by omega) (by omega) (by omega) (fun k hk hb => ?_) s2
    obtain ⟨j, rfl⟩ := Int.eq_ofNat_of_zero_le hk
    have := set_sub s0 ((full_lt ws.length s).1 s1) hb
    exact full_all _ _ (by omega)
  · intro h
    exact (far_le hn ha (farF_tri hn (by omega)) (fun k x hx => farF_way hn hx) h).1
theorem farF_sym {m : Nat} {ws : List Wy} (hn : NetIs (m : Int) ws) {a b : Nat} (ha : a < m) (hb : b < m) : farF ws m a b = farF ws m b a := by
  have h6 := hn.hi
  have key : ∀ a b : Nat, a < m → b < m → 0 ≤ farF ws m a b → 0 ≤ farF ws m b a ∧ farF ws m b a ≤ farF ws m a b := fun a b ha hb h => by
    obtain ⟨s, s0, s1, s2, s3⟩ := rep_fw hn a b ha hb h
    have h2 := far_le hn hb (farF_tri hn (by omega)) (fun k x hx => farF_way hn hx) (re_sym hn (by omega) (by omega) (by omega) s2)
    omega
  have g1 := farF_ge hn m a b
  have g2 := farF_ge hn m b a
  by_cases h : 0 ≤ farF ws m a b
  · have k1 := key a b ha hb h
    have k2 := key b a hb ha k1.1
    omega
  · by_cases h' : 0 ≤ farF ws m b a
    · have k2 := key b a hb ha h'
      omega
    · omega
theorem farF_diag {m : Nat} {ws : List Wy} (hn : NetIs (m : Int) ws) {a : Nat} (ha : a < m) : farF ws m a a = 0 := by
  have h6 := hn.hi
  exact (fw_small hn (m := m) (o := m) (by omega) (Nat.le_refl _)).diag a ha
theorem farF_bd {m : Nat} {ws : List Wy} (hn : NetIs (m : Int) ws) {a b : Nat} (ha : a < m) (hb : b < m) : farF ws m a b ≤ 1000 := by
  have h6 := hn.hi
  exact (fw_small hn (m := m) (o := m) (by omega) (Nat.le_refl _)).bd a b ha hb
end Go.Proofs.Ythadehgpeafniaa
namespace Go.Proofs.Ythadehgpeafniaa
open Go.RowKit

theorem ior_nn (a b : Int) : 0 ≤ ior a b := by unfold ior; omega
noncomputable def rc (ws : List Wy) (e : Int) : Int := if best ws e < 0 then -1 else cost ws (best ws e)
theorem rc_ge {n : Int} {ws : List Wy} (hn : NetIs n ws) (e : Int) : -1 ≤ rc ws e ∧ rc ws e ≤ 81 := by
  have := cost_bds hn (best ws e)
  unfold rc; split <;> omega
theorem rc_le {n : Int} {ws : List Wy} (hn : NetIs n ws) {s e : Int} (s0 : 0 ≤ s) (s1 : s ≤ full ws.length) (hj : joins ws s e = true) : 0 ≤ rc ws e ∧ rc ws e ≤ cost ws s := by
  have h := best_cost_le hn s0 s1 hj
  have := cost_bds hn (best ws e)
  unfold rc; rw [if_neg (by omega)]; omega
theorem rc_set {n : Int} {ws : List Wy} (hn : NetIs n ws) {e : Int} (h : 0 ≤ rc ws e) : ∃ s, 0 ≤ s ∧ s ≤ full ws.length ∧ joins ws s e = true ∧ cost ws s = rc ws e := by
  unfold rc at h ⊢
  by_cases hb : best ws e < 0
  · rw [if_pos hb] at h; omega
  · rw [if_neg hb]
    exact ⟨best ws e, by omega, best_full ws e, best_joins (by omega), rfl⟩
theorem rootCost_rc {n : Int} {ws : List Wy} {e : Int} (hn : netOk n ws = true) (he : plOk n e = true) : rootCost n ws e = rc ws e := rootCost_val hn he
theorem rc_told {n : Int} {ws : List Wy} (hn : NetIs n ws) {e : Int} (e0 : 0 ≤ e) (e1 : e < 2 ^ n.toNat) : 0 ≤ rc ws e ↔ joins ws (full ws.length) e = true := by
  have hfb := full_bd ws.length hn.len
  constructor
  · intro h
    obtain ⟨s, s0, s1, hj, -⟩ := rc_set hn h
    refine joins_mono hn e0 e1 (fun q hq hb => ?_) hj
    have hlt := bit_in s0 s1 hb
    obtain ⟨j, rfl⟩ := Int.eq_ofNat_of_zero_le hq
    exact full_all _ _ (by omega)
  · intro h
    exact (rc_le hn hfb.1 (Int.le_refl _) h).1
theorem rc_mono {n : Int} {ws : List Wy} (hn : NetIs n ws) {e f : Int} (e0 : 0 ≤ e) (e1 : e < 2 ^ n.toNat) (f0 : 0 ≤ f) (f1 : f < 2 ^ n.toNat) (hs : ∀ q, 0 ≤ q → bit e q = true → bit f q = true) (h : 0 ≤ rc ws f) : 0 ≤ rc ws e ∧ rc ws e ≤ rc ws f := by
  obtain ⟨s, s0, s1, hj, hc⟩ := rc_set hn h
  have := rc_le hn s0 s1 (joins_less_ends hn f0 f1 e0 e1 hs hj)
  omega
theorem rc_both {m : Nat} {ws : List Wy} (hn : NetIs (m : Int) ws) {a b : Nat} (ha : a < m) (hb : b < m) : rc ws (both a b) = farF ws m a b := by
  have hbb := both_bd (n := (m : Int)) (a := (a : Int)) (b := (b : Int)) (by omega) (by omega) (by omega) (by omega)
  have ht := rc_told hn hbb.1 hbb.2
  rw [joins_both hn (by omega) (by omega) (by omega) (by omega), ← farF_join hn ha hb] at ht
  have h1 := rc_ge hn (both a b)
  have h2 := farF_ge hn m a b
  unfold rc at ht h1 ⊢
  by_cases hx : best ws (both a b) < 0
  · rw [if_pos hx] at ht h1 ⊢
    have : ¬ 0 ≤ farF ws m a b := fun h => by have := ht.2 h; omega
    omega
  · rw [if_neg hx]; exact best_cost hn ha hb (by omega)
theorem rc_join {n : Int} {ws : List Wy} (hn : NetIs n ws) {e f p : Int} (e0 : 0 ≤ e) (e1 : e < 2 ^ n.toNat) (f0 : 0 ≤ f) (f1 : f < 2 ^ n.toNat) (hp : 0 ≤ p) (hpe : bit e p = true) (hpf : bit f p = true) (he : 0 ≤ rc ws e) (hf : 0 ≤ rc ws f) : 0 ≤ rc ws (ior e f) ∧ rc ws (ior e f) ≤ rc ws e + rc ws f := by
  obtain ⟨s, s0, s1, hs, hcs⟩ := rc_set hn he
  obtain ⟨t, t0, t1, ht, hct⟩ := rc_set hn hf
  have hi := ior_full s0 s1 t0 t1
  have h := rc_le hn hi.1 hi.2 (joins_union hn e0 e1 f0 f1 hp hpe hpf hs ht)
  have := cost_union hn s t
  omega
/-- a place more -/
def withp (e : Int) (v : Nat) : Int := ior e (2 ^ v)
theorem withp_bit (e : Int) (v : Nat) {q : Int} (hq : 0 ≤ q) : bit (withp e v) q = (bit e q || decide (q = v)) := by
  unfold withp; rw [bit_ior, bit_pow v q hq]
theorem pow_lt {m v : Nat} (hv : v < m) : 0 < (2 : Int) ^ v ∧ (2 : Int) ^ v < 2 ^ ((m : Int)).toNat := by
  rw [Int.toNat_natCast]
  have h := Nat.pow_lt_pow_right (a := 2) (by omega) hv
  have e1 : ((2 : Int) ^ v) = ((2 ^ v : Nat) : Int) := by simp
  have e2 : ((2 : Int) ^ m) = ((2 ^ m : Nat) : Int) := by simp
  have := Nat.one_le_two_pow (n := v)
  omega
theorem withp_bd {m : Nat} {e : Int} {v : Nat} (e0 : 0 ≤ e) (e1 : e < 2 ^ ((m : Int)).toNat) (hv : v < m) : 0 ≤ withp e v ∧ withp e v < 2 ^ ((m : Int)).toNat := ior_bd _ _ _ e1 (pow_lt hv).2
theorem withp_has {e : Int} {v : Nat} (e0 : 0 ≤ e) (h : bit e v = true) : withp e v = e := by
  refine set_ext (ior_nn _ _) e0 fun q hq => ?_
  rw [withp_bit e v hq]
  by_cases hqv : q = v
  · subst hqv; rw [h]; rfl
  · simp [hqv]
theorem withp_both {e : Int} {u v : Nat} (h : bit e u = true) : ior e (both u v) = withp e v := by
  refine set_ext (ior_nn _ _) (ior_nn _ _) fun q hq => ?_
  rw [withp_bit e v hq, bit_ior, bit_both (by omega) (by omega) hq]
  by_cases hqu : q = u
  · subst hqu; rw [h]; rfl
  · simp [hqu]
theorem rc_grow {m : Nat} {ws : List Wy} (hn : NetIs (m : Int) ws) {e : Int} (e0 : 0 ≤ e) (e1 : e < 2 ^ ((m : Int)).toNat) {u v : Nat} (hu : u < m) (hv : v < m) (h : 0 ≤ rc ws (withp e u)) (hf : 0 ≤ farF ws m u v) :
    0 ≤ rc ws (withp e v) ∧ rc ws (withp e v) ≤ rc ws (withp e u) + farF ws m u v := by
  have hbb := both_bd (n := (m : Int)) (a := (u : Int)) (b := (v : Int)) (by omega) (by omega) (by omega) (by omega)
  have hw := withp_bd e0 e1 hu
  have hv' := withp_bd e0 e1 hv
  have hi := ior_bd (withp e u) (both u v) _ hw.2 hbb.2
  have hr := rc_both hn hu hv
  have hj := rc_join hn hw.1 hw.2 hbb.1 hbb.2 (p := (u : Int)) (by omega) (by rw [withp_bit e u (by omega)]; simp) (by rw [bit_both (by omega) (by omega) (by omega)]; simp) h (by omega)
  have hm := rc_mono hn hv'.1 hv'.2 hi.1 hi.2 (fun q hq hb => by
    rw [withp_bit e v hq] at hb
    rw [bit_ior, withp_bit e u hq, bit_both (by omega) (by omega) hq]
    simp only [Bool.or_eq_true, decide_eq_true_eq] at hb ⊢
    rcases hb with hb | hb
    · exact .inl (.inl hb)
    · exact .inr (.inr hb)) hj.1
  omega

/-! ### a root falls in two -/
theorem set_of : ∀ (len : Nat) (p : Nat → Bool), ∃ t : Int, 0 ≤ t ∧ t < 2 ^ len ∧ ∀ j : Nat, j < len → bit t j = p j
  | 0, p => ⟨0, by omega, by simp, fun j h => absurd h (by omega)⟩
  | len + 1, p => by
    obtain ⟨t, t0, t1, ht⟩ := set_of len p
    have e : (2 : Int) ^ (len + 1) = 2 ^ len * 2 := Int.pow_succ 2 len
    cases hp : p len
    · refine ⟨t, t0, by omega, fun j hj => ?_⟩
      by_cases h : j = len
      · subst h; rw [bit_big t0 t1 (by omega), hp]
      · exact ht j (by omega)
    · have hb := ior_bd t (2 ^ len) (len + 1) (by omega) (by have := (pow_bd (len : Int) len (by omega)).1; rw [Int.toNat_natCast] at this; omega)
      refine ⟨ior t (2 ^ len), hb.1, hb.2, fun j hj => ?_⟩
      rw [bit_ior, bit_pow len j (by omega)]
      by_cases h : j = len
      · subst h; rw [hp]; simp
      · rw [ht j (by omega)]
        have : decide ((j : Int) = len) = false := by simp; omega
        rw [this, Bool.or_false]
theorem cost_parts {ws : List Wy} {s a b : Int} (h : ∀ j : Nat, j < ws.length → bit s j = (bit a j || bit b j) ∧ (bit a j && bit b j) = false) : ∀ k, k ≤ ws.length → cost (ws.take k) s = cost (ws.take k) a + cost (ws.take k) b
  | 0, _ => by simp [cost, costFrom]
  | k + 1, hk => by
    obtain ⟨x, hx⟩ : ∃ x, ws[k]? = some x := ⟨_, List.getElem?_eq_getElem (by omega)⟩
    have ih := cost_parts h k (by omega)
    obtain ⟨h1, h2⟩ := h k (by omega)
    rw [cost_take ws _ k x hx, cost_take ws _ k x hx, cost_take ws _ k x hx, h1, ih]
    cases ha : bit a k <;> cases hb : bit b k
    · simp
    · simp; omega
    · simp; omega
    · rw [ha, hb] at h2; cases h2
theorem cost_two {ws : List Wy} {s a b : Int} (h : ∀ j : Nat, j < ws.length → bit s j = (bit a j || bit b j) ∧ (bit a j && bit b j) = false) : cost ws s = cost ws a + cost ws b := by
  have := cost_parts h ws.length (Nat.le_refl _)
  rwa [List.take_length] at this
/-- all ways of s that lie where y comes to, in t: t comes from y as far as s -/
theorem reach_in {n : Int} {ws : List Wy} (hn : NetIs n ws) {s t y q : Int} (hy : 0 ≤ y) (hy' : y < n) (hq : 0 ≤ q) (hs : ∀ (j : Nat) (z : Wy), ws[j]? = some z → bit s j = true → bit (reach ws s y) z.a = true → bit t j = true) (h : bit (reach ws s y) q = true) : bit (reach ws t y) q = true := by
  have R := reach_is (s := s) hn hy hy'
  have R' := reach_is (s := t) hn hy hy'
  have := R.least (fun q => bit (reach ws t y) q && bit (reach ws s y) q) (by rw [R.has, R'.has]; rfl) (fun j z hz hb => by
    have h1 := R.closed j z hz hb
    show (bit (reach ws t y) z.a && bit (reach ws s y) z.a) = (bit (reach ws t y) z.b && bit (reach ws s y) z.b)
    cases h2 : bit (reach ws s y) z.a
    · rw [← h1, h2]; simp
    · rw [← h1, h2, R'.closed j z hz (hs j z hz hb h2)]) q hq h
  simp only [Bool.and_eq_true] at this
  exact this.1
theorem joins_from {m : Nat} {ws : List Wy} (hn : NetIs (m : Int) ws) {s e : Int} {v : Nat} (e0 : 0 ≤ e) (e1 : e < 2 ^ ((m : Int)).toNat) (hv : v < m) : joins ws s (withp e v) = true ↔ ∀ q, 0 ≤ q → bit e q = true → bit (reach ws s v) q = true := by
  have hb := withp_bd e0 e1 hv
  rw [joins_iff hn hb.1 hb.2]
  constructor
  · intro h q hq hbq
    exact h v q (by omega) hq (by rw [withp_bit e v (by omega)]; simp) (by rw [withp_bit e v hq, hbq]; rfl)
  · intro h
    have key : ∀ q, 0 ≤ q → bit (withp e v) q = true → bit (reach ws s v) q = true := fun q hq hbq => by
      rw [withp_bit e v hq, Bool.or_eq_true, decide_eq_true_eq] at hbq
      rcases hbq with hbq | rfl
      · exact h q hq hbq
      · exact (reach_is hn hq (by omega)).has
    intro p q hp hq hbp hbq
    rw [reach_back hn (show (0 : Int) ≤ (v : Int) by omega) (by omega) hp (key p hp hbp)]
    exact key q hq hbq
theorem rc_none {n : Int} {ws : List Wy} (hn : NetIs n ws) : rc ws 0 = 0 := by
  have h := rc_le hn (s := 0) (e := 0) (Int.le_refl _) (full_bd ws.length hn.len).1 (joins_none ws 0)
  rw [cost_zero] at h
  omega
theorem rc_one {m : Nat} {ws : List Wy} (hn : NetIs (m : Int) ws) {v : Nat} (hv : v < m) : rc ws (withp 0 v) = 0 := by
  have h := rc_le hn (s := 0) (e := withp 0 v) (Int.le_refl _) (full_bd ws.length hn.len).1 ((joins_from hn (Int.le_refl _) (by have := pow_lt hv; omega) hv).2 fun q _ h => by rw [bit_zero_] at h; cases h)
  rw [cost_zero] at h
  omega
/-- e falls in two at some place, or is one end -/
def Falls (m : Nat) (ws : List Wy) (e : Int) (v : Nat) (c : Int) : Prop := ∃ u, u < m ∧ 0 ≤ farF ws m u v ∧
  (((∀ q, 0 ≤ q → bit e q = true → q = u) ∧ farF ws m u v ≤ c) ∨
   ∃ P, 0 < P ∧ P < 2 ^ ((m : Int)).toNat ∧ P ≠ e ∧ (∀ q, 0 ≤ q → bit P q = true → bit e q = true) ∧ 0 ≤ rc ws (withp P u) ∧ 0 ≤ rc ws (withp (idiff e P) u) ∧ rc ws (withp P u) + rc ws (withp (idiff e P) u) + farF ws m u v ≤ c)
theorem Falls.le {m : Nat} {ws : List Wy} {e : Int} {v : Nat} {c c' : Int} (h : Falls m ws e v c) (hc : c ≤ c') : Falls m ws e v c' := by
  obtain ⟨u, h1, h2, h3⟩ := h
  refine ⟨u, h1, h2, ?_⟩
  rcases h3 with ⟨h3, h4⟩ | ⟨P, p0, p1, p2, p3, p4, p5, p6⟩
  · exact .inl ⟨h3, by omega⟩
  · exact .inr ⟨P, p0, p1, p2, p3, p4, p5, by omega⟩
theorem Falls.over {m : Nat} {ws : List Wy} (hn : NetIs (m : Int) ws) {e : Int} {v y : Nat} {c d : Int} (hv : v < m) (hy : y < m) (h : Falls m ws e y c) (hd0 : 0 ≤ farF ws m y v) (hd : farF ws m y v ≤ d) : Falls m ws e v (c + d) := by
  have h6 := hn.hi
  obtain ⟨u, h1, h2, h3⟩ := h
  have ht := (farF_tri hn (show m ≤ 6 by omega)).tri u v y h1 hv hy h2 hd0
  refine ⟨u, h1, ht.1, ?_⟩
  rcases h3 with ⟨h3, h4⟩ | ⟨P, p0, p1, p2, p3, p4, p5, p6⟩
  · exact .inl ⟨h3, by omega⟩
  · exact .inr ⟨P, p0, p1, p2, p3, p4, p5, by omega⟩
theorem falls {m : Nat} {ws : List Wy} (hn : NetIs (m : Int) ws) {e : Int} (e0 : 0 ≤ e) (e1 : e < 2 ^ ((m : Int)).toNat) (he : e ≠ 0) : ∀ (d : Nat) (s : Int) (v : Nat), s.toNat < d → 0 ≤ s → s ≤ full ws.length → v < m → joins ws s (withp e v) = true → Falls m ws e v (cost ws s)
  | 0, _, _, h, _, _, _, _ => absurd h (by omega)
  | d + 1, s, v, hd, s0, s1, hv, hj => by
    have h6 := hn.hi
    have hl9 := hn.len
    have hfb := full_bd ws.length hl9
    have hcs := cost_bds hn s
    have hvv := farF_diag hn hv
    have hpv := pow_lt hv
    have hm6 := pow_bd (m : Int) 6 (by omega)
    rw [joins_from hn e0 e1 hv] at hj
    cases hbv : bit e v
    · -- v is no end: some way of s leads from it
      obtain ⟨k0, hk0, hbk0⟩ := set_some e0 e1 he
      have hex : ∃ (k : Nat) (x : Wy), ws[k]? = some x ∧ bit s k = true ∧ (x.a = v ∨ x.b = v) := by
        apply Classical.byContradiction
        intro hno
        have R := reach_is (s := s) hn (show (0 : Int) ≤ (v : Int) by omega) (by omega)
        have := R.least (fun q => decide (q = v)) (by simp) (fun k x hx hb => by
          have h1 : x.a ≠ v := fun e => hno ⟨k, x, hx, hb, .inl e⟩
          have h2 : x.b ≠ v := fun e => hno ⟨k, x, hx, hb, .inr e⟩
          simp [h1, h2]) k0 (by omega) (hj k0 (by omega) hbk0)
        have e : (k0 : Int) = v := by simpa using this
        rw [e, hbv] at hbk0; cases hbk0
      obtain ⟨k, x, hx, hbk, hends⟩ := hex
      have hxa := hn.at_ hx
      have hkl : k < ws.length := (List.getElem?_eq_some_iff.1 hx).1
      have hwl := farF_way hn hx
      -- its other place
      obtain ⟨y, hy, hends⟩ : ∃ y : Nat, y < m ∧ ((x.a = v ∧ x.b = y) ∨ (x.a = y ∧ x.b = v)) := by
        rcases hends with h | h
        · exact ⟨x.b.toNat, by omega, .inl ⟨h, by omega⟩⟩
        · exact ⟨x.a.toNat, by omega, .inr ⟨by omega, h⟩⟩
      have hyv : 0 ≤ farF ws m y v ∧ farF ws m y v ≤ x.c := by
        rcases hends with ⟨h1, h2⟩ | ⟨h1, h2⟩
        · have := hwl.2; rw [h1, h2, Int.toNat_natCast, Int.toNat_natCast] at this; exact this
        · have := hwl.1; rw [h1, h2, Int.toNat_natCast, Int.toNat_natCast] at this; exact this
      -- without it
      have hlb := fun j hj => lessb (u := s) (k := k) (j := j) s0 (by omega) (by omega) hj hbk
      have h2k := (hlb 0 (by omega)).2
      have hpk := (pow_bd (k : Int) 9 (by omega)).1
      rw [Int.toNat_natCast] at hpk
      obtain ⟨t, ht⟩ : ∃ t, s - 2 ^ k = t := ⟨_, rfl⟩
      have t0 : 0 ≤ t := by omega
      have t1 : t ≤ full ws.length := by omega
      have htd : t.toNat < d := by omega
      have htb : ∀ j : Nat, bit t j = (bit s j && !(j == k)) := fun j => by
        by_cases h9 : j < 9
        · rw [← ht]; exact (hlb j h9).1
        · have hs9 : s < 2 ^ 9 := by omega
          have ht9 : t < 2 ^ 9 := by omega
          rw [bit_big t0 ht9 (by omega), bit_big s0 hs9 (by omega)]; rfl
      have htk : bit t k = false := by rw [htb]; simp
      have hts : ior t (2 ^ k) = s := set_ext (ior_nn _ _) s0 fun q hq => by
        obtain ⟨j, rfl⟩ := Int.eq_ofNat_of_zero_le hq
        rw [bit_ior, bit_pow k j (by omega), htb]
        by_cases h : j = k
        · subst h; rw [hbk]; simp
        · have : decide ((j : Int) = k) = false := by simp; omega
          rw [this, Bool.or_false, show (j == k) = false from by simpa using h]; simp
      have hct : cost ws s = cost ws t + x.c := by
        have := cost_add hx htk
        rwa [hts] at this
      have hor : ∀ q, 0 ≤ q → bit (reach ws s v) q = true → bit (reach ws t v) q = true ∨ bit (reach ws t y) q = true := fun q hq h => by
        have h := re_add (t := t) (p := (v : Int)) hn hx (by omega) (by omega) hq (by rw [hts]; exact h)
        rcases hends with ⟨h1, h2⟩ | ⟨h1, h2⟩
        · rw [h1, h2] at h
          rcases h with h | ⟨_, h⟩ | ⟨_, h⟩
          · exact .inl h
          · exact .inr h
          · exact .inl h
        · rw [h1, h2] at h
          rcases h with h | ⟨_, h⟩ | ⟨_, h⟩
          · exact .inl h
          · exact .inl h
          · exact .inr h
      by_cases hP1 : ∀ q, 0 ≤ q → bit e q = true → bit (reach ws t y) q = true
      · have ih := falls hn e0 e1 he d t y htd t0 t1 hy ((joins_from hn e0 e1 hy).2 hP1)
        have := ih.over hn hv hy hyv.1 hyv.2
        rwa [← hct] at this
      · by_cases hP0 : ∀ q, 0 ≤ q → bit e q = true → bit (reach ws t y) q = false
        · have ih := falls hn e0 e1 he d t v htd t0 t1 hv ((joins_from hn e0 e1 hv).2 fun q hq hb => by
            rcases hor q hq (hj q hq hb) with h | h
            · exact h
            · rw [hP0 q hq hb] at h; cases h)
          exact ih.le (by omega)
        · -- both places have ends
          obtain ⟨q1, hq1, hb1, hn1⟩ : ∃ q, 0 ≤ q ∧ bit e q = true ∧ bit (reach ws t y) q = false := by
            apply Classical.byContradiction
            intro hno
            exact hP1 fun q hq hb => by
              cases h : bit (reach ws t y) q
              · exact absurd ⟨q, hq, hb, h⟩ hno
              · rfl
          obtain ⟨q2, hq2, hb2, hn2⟩ : ∃ q, 0 ≤ q ∧ bit e q = true ∧ bit (reach ws t y) q = true := by
            apply Classical.byContradiction
            intro hno
            exact hP0 fun q hq hb => by
              cases h : bit (reach ws t y) q
              · rfl
              · exact absurd ⟨q, hq, hb, h⟩ hno
          have hv1 : bit (reach ws t v) q1 = true := by
            rcases hor q1 hq1 (hj q1 hq1 hb1) with h | h
            · exact h
            · rw [hn1] at h; cases h
          have hsep : ∀ q, 0 ≤ q → bit (reach ws t v) q = true → bit (reach ws t y) q = false := fun q hq h => by
            cases hyq : bit (reach ws t y) q
            · rfl
            · have h1 := reach_back hn (show (0 : Int) ≤ (v : Int) by omega) (by omega) hq h
              have h2 := reach_back hn (show (0 : Int) ≤ (y : Int) by omega) (by omega) hq hyq
              rw [← h1, h2, hn1] at hv1; cases hv1
          obtain ⟨P, hP⟩ : ∃ P, iand e (reach ws t y) = P := ⟨_, rfl⟩
          have hPb : ∀ q, bit P q = (bit e q && bit (reach ws t y) q) := fun q => by rw [← hP, bit_iand]
          have hPd : 0 ≤ P ∧ P ≤ e := by
            have := iand_bd2 (reach ws t y) e e0
            rw [← hP]
            have hc : iand e (reach ws t y) = iand (reach ws t y) e := by unfold iand; rw [Nat.and_comm]
            rw [hc]; exact this
          have hP0 : P ≠ 0 := fun h => by
            have := hPb q2
            rw [h, bit_zero_, hb2, hn2] at this; cases this
          have hPe : P ≠ e := fun h => by
            have := hPb q1
            rw [h, hb1, hn1] at this; cases this
          have hQd := idiff_bd e P e0
          have hQb : ∀ q, bit (idiff e P) q = (bit e q && !bit (reach ws t y) q) := fun q => by
            rw [bit_idiff, hPb]
            cases bit e q <;> simp
          -- the ways on both sides
          obtain ⟨sx, x0, x1, hxb⟩ := set_of ws.length fun j => bit t j && (match ws[j]? with | some z => bit (reach ws t y) z.a | none => false)
          obtain ⟨sv, v0, v1, hvb⟩ := set_of ws.length fun j => bit t j && (match ws[j]? with | some z => !bit (reach ws t y) z.a | none => false)
          have hsum : cost ws t = cost ws sx + cost ws sv := cost_two fun j hj => by
            obtain ⟨z, hz⟩ : ∃ z, ws[j]? = some z := ⟨_, List.getElem?_eq_getElem hj⟩
            rw [hxb j hj, hvb j hj, hz]
            cases bit t j <;> cases bit (reach ws t y) z.a <;> simp
          have hxk : bit sx k = false := by rw [hxb k hkl, htk]; rfl
          have hpf : (2 : Int) ^ k ≤ full ws.length := by omega
          have hi := ior_full (len := ws.length) (s := sx) (t := 2 ^ k) x0 ((full_lt _ _).2 x1) (by omega) hpf
          have hcx := cost_add hx hxk
          have hyk : bit (reach ws (ior sx (2 ^ k)) v) y = true := by
            have hbk' : bit (ior sx (2 ^ k)) k = true := by rw [bit_ior, bit_pow k k (by omega)]; simp
            have h := re_way hn hx hbk'
            rcases hends with ⟨h1, h2⟩ | ⟨h1, h2⟩
            · rw [h1, h2] at h; exact h
            · rw [h1, h2] at h; exact re_sym hn (by omega) (by omega) (by omega) h
          have j1 : joins ws (ior sx (2 ^ k)) (withp P v) = true := (joins_from hn hPd.1 (by omega) hv).2 fun q hq hb => by
            rw [hPb, Bool.and_eq_true] at hb
            refine re_trans hn (show (0 : Int) ≤ (v : Int) by omega) (by omega) (show (0 : Int) ≤ (y : Int) by omega) hyk ?_
            refine re_mono hn (show (0 : Int) ≤ (y : Int) by omega) (by omega) hq (fun j hj hb => by rw [bit_ior, hb]; rfl) ?_
            refine reach_in hn (s := t) (by omega) (by omega) hq (fun j z hz hbt hza => ?_) hb.2
            rw [hxb j (List.getElem?_eq_some_iff.1 hz).1, hz]
            simp only [hbt, hza, Bool.and_self]
          have j2 : joins ws sv (withp (idiff e P) v) = true := (joins_from hn hQd.1 (by omega) hv).2 fun q hq hb => by
            rw [hQb, Bool.and_eq_true] at hb
            have hqv : bit (reach ws t v) q = true := by
              rcases hor q hq (hj q hq hb.1) with h | h
              · exact h
              · rw [h] at hb; cases hb.2
            refine reach_in hn (s := t) (by omega) (by omega) hq (fun j z hz hbt hza => ?_) hqv
            rw [hvb j (List.getElem?_eq_some_iff.1 hz).1, hz]
            simp only [hbt, hsep z.a (hn.at_ hz).1 hza, Bool.not_false, Bool.and_self]
          have r1 := rc_le hn hi.1 hi.2 j1
          have r2 := rc_le hn v0 ((full_lt _ _).2 v1) j2
          exact ⟨v, hv, by omega, .inr ⟨P, by omega, by omega, hPe, fun q _ h => by rw [hPb, Bool.and_eq_true] at h; exact h.1, r1.1, r2.1, by omega⟩⟩
    · -- v is an end
      by_cases hone : ∀ q, 0 ≤ q → bit e q = true → q = v
      · exact ⟨v, hv, by omega, .inl ⟨hone, by omega⟩⟩
      · obtain ⟨q1, hq1, hb1, hn1⟩ : ∃ q, 0 ≤ q ∧ bit e q = true ∧ q ≠ v := by
          apply Classical.byContradiction
          intro hno
          exact hone fun q hq hb => Classical.byContradiction fun h => hno ⟨q, hq, hb, h⟩
        have hne : (2 : Int) ^ v ≠ e := fun h => by
          have := bit_pow v q1 hq1
          rw [h, hb1] at this
          have : q1 = v := by simpa using this.symm
          exact hn1 this
        have hP1 : withp ((2 : Int) ^ v) v = withp 0 v := set_ext (ior_nn _ _) (ior_nn _ _) fun q hq => by
          rw [withp_bit _ v hq, withp_bit _ v hq, bit_pow v q hq, bit_zero_]; simp
        have hQ1 : withp (idiff e (2 ^ v)) v = e := set_ext (ior_nn _ _) e0 fun q hq => by
          rw [withp_bit _ v hq, bit_idiff, bit_pow v q hq]
          by_cases h : q = v
          · subst h; rw [hbv]; simp
          · simp [h]
        have hE : joins ws s e = true := by
          have := (joins_from hn e0 e1 hv).2 hj
          rwa [withp_has e0 hbv] at this
        have r2 := rc_le hn s0 s1 hE
        have r1 := rc_one hn hv
        refine ⟨v, hv, by omega, .inr ⟨2 ^ v, hpv.1, hpv.2, hne, fun q hq h => ?_, by rw [hP1]; omega, by rw [hQ1]; omega, by rw [hP1, hQ1]; omega⟩⟩
        rw [bit_pow v q hq] at h
        have : q = v := by simpa using h
        subst this; exact hbv
/-- what is told falls in two, or has at most one end -/
theorem rc_falls {m : Nat} {ws : List Wy} (hn : NetIs (m : Int) ws) {e : Int} (e0 : 0 ≤ e) (e1 : e < 2 ^ ((m : Int)).toNat) {v : Nat} (hv : v < m) (h : 0 ≤ rc ws (withp e v)) : Falls m ws e v (rc ws (withp e v)) := by
  by_cases he : e = 0
  · subst he
    have h1 := rc_one hn hv
    have h2 := farF_diag hn hv
    exact ⟨v, hv, by omega, .inl ⟨fun q _ h => (by rw [bit_zero_] at h; cases h), by omega⟩⟩
  · obtain ⟨s, s0, s1, hj, hc⟩ := rc_set hn h
    rw [← hc]
    exact falls hn e0 e1 he (s.toNat + 1) s v (by omega) s0 s1 hv hj
end Go.Proofs.Ythadehgpeafniaa
namespace Go.Proofs.Ythadehgpeafniaa
open Go.ChangeShapes Go.WideShapes Go.ChangeAt Go.RowKit

/-- none of the first k ways of s is needless -/
noncomputable def lnTo (ws : List Wy) (e s : Int) : Nat → Bool
  | 0 => true
  | k + 1 => lnTo ws e s k && (!bit s k || !joins ws (s - 2 ^ k) e)
theorem lnTo_iff (ws : List Wy) (e s : Int) : ∀ k, lnTo ws e s k = true ↔ ∀ j : Nat, j < k → bit s j = true → joins ws (s - 2 ^ j) e = false
  | 0 => by simp [lnTo]
  | k + 1 => by
    rw [lnTo, Bool.and_eq_true, lnTo_iff ws e s k, Bool.or_eq_true, Bool.not_eq_true', Bool.not_eq_true']
    constructor
    · rintro ⟨h1, h2⟩ j hj hb
      by_cases e : j = k
      · subst e
        rcases h2 with h2 | h2
        · rw [h2] at hb; cases hb
        · exact h2
      · exact h1 j (by omega) hb
    · intro h
      refine ⟨fun j hj hb => h j (by omega) hb, ?_⟩
      cases hb : bit s k
      · exact .inl rfl
      · exact .inr (h k (by omega) hb)
theorem lnTo_lean (ws : List Wy) (e s : Int) : lnTo ws e s ws.length = true ↔ Lean_ ws s e := lnTo_iff ws e s ws.length
/-- a root: it costs c, joins, and has nothing needless -/
noncomputable def rt (ws : List Wy) (e c s : Int) : Bool := (cost ws s == c) && (joins ws s e && lnTo ws e s ws.length)
theorem rt_iff (ws : List Wy) (e c s : Int) : rt ws e c s = true ↔ cost ws s = c ∧ joins ws s e = true ∧ Lean_ ws s e := by
  unfold rt
  rw [Bool.and_eq_true, Bool.and_eq_true, beq_iff_eq, lnTo_lean]
noncomputable def rtTo (ws : List Wy) (e c : Int) : Nat → List Int
  | 0 => []
  | k + 1 => if rt ws e c k = true then rtTo ws e c k ++ [(k : Int)] else rtTo ws e c k
theorem rtTo_len (ws : List Wy) (e c : Int) : ∀ k, (rtTo ws e c k).length ≤ k
  | 0 => by simp [rtTo]
  | k + 1 => by
    have ih := rtTo_len ws e c k
    rw [rtTo]
    split
    · simp; omega
    · omega
theorem rtTo_yes {ws : List Wy} {e c : Int} {k : Nat} (h : rt ws e c k = true) : rtTo ws e c (k + 1) = rtTo ws e c k ++ [(k : Int)] := by rw [rtTo, if_pos h]
theorem rtTo_no {ws : List Wy} {e c : Int} {k : Nat} (h : rt ws e c k = false) : rtTo ws e c (k + 1) = rtTo ws e c k := by rw [rtTo, if_neg (by rw [h]; simp)]
noncomputable def rootsOf (n : Int) (ws : List Wy) (e : Int) : List Int := if rootCost n ws e < 0 then [] else rtTo ws e (rootCost n ws e) (2 ^ ws.length)
theorem rootCost_told {n : Int} {ws : List Wy} {e : Int} (h : ¬ rootCost n ws e < 0) : netOk n ws = true ∧ plOk n e = true ∧ 0 ≤ best ws e ∧ rootCost n ws e = cost ws (best ws e) ∧ rootOf n ws e = best ws e := by
  cases hk : netOk n ws && plOk n e
  · rw [rootCost_not hk] at h; omega
  · have h1 := rootCost_is hk
    have h2 := hk
    rw [Bool.and_eq_true] at h2
    by_cases hb : best ws e < 0
    · rw [if_pos hb] at h1; omega
    · rw [if_neg hb] at h1
      refine ⟨h2.1, h2.2, by omega, h1, ?_⟩
      unfold rootOf
      rw [if_pos hk]
theorem rootsOf_len {n : Int} {ws : List Wy} {e : Int} : (rootsOf n ws e).length ≤ 512 := by
  unfold rootsOf
  split
  · simp
  · rename_i h
    have hn := netOk_t (rootCost_told h).1
    have hl := hn.len
    have h1 := rtTo_len ws e (rootCost n ws e) (2 ^ ws.length)
    have h2 : 2 ^ ws.length ≤ 2 ^ 9 := Nat.pow_le_pow_right (by omega) hl
    omega
/-- a new row of numbers -/
def NewInts (L : List Int) (w : World) (e : Ending) (w' : World) : Prop :=
  ∃ A1 c1, e = .returned (.slice A1 L.length c1) ∧ RowF w' w.heap.size w'.heap.size A1 L.length (fun j => L.getD j 0) ∧ Below w.heap.size w w'
theorem newInts_nil {w w' : World} {e : Ending} {A1 : Option Addr} {c1 : Nat} (he : e = .returned (.slice A1 0 c1)) (hb : Below w.heap.size w w') : NewInts [] w e w' :=
  ⟨A1, c1, he, RowF.none _ _ _ _ _ (Nat.le_refl _), hb⟩
def rlCells (L : List Int) : List Value := L.map (fun x => .int .i64 x)
theorem rlCells_at {L : List Int} {j : Nat} (h : j < L.length) : (rlCells L)[j]? = some (.int .i64 (L.getD j 0)) := by
  unfold rlCells
  rw [List.getElem?_map, List.getElem?_eq_getElem h, List.getD_eq_getElem?_getD, List.getElem?_eq_getElem h]
  rfl
theorem rlCells_snoc (L : List Int) (x : Int) : rlCells (L ++ [x]) = rlCells L ++ [.int .i64 x] := by unfold rlCells; rw [List.map_append]; rfl
theorem rlCells_len (L : List Int) : (rlCells L).length = L.length := by unfold rlCells; simp
theorem rt_th {n : Int} {ws : List Wy} (hn : NetIs n ws) {e c s : Int} (s0 : 0 ≤ s) (s1 : s ≤ full ws.length) (e0 : 0 ≤ e) (e1 : e < 2 ^ n.toNat) : rt ws e c s = ((cost ws s == c) && (joins ws s e && (thS ws e s ws.length == s))) := by
  unfold rt
  have : lnTo ws e s ws.length = (thS ws e s ws.length == s) := by
    rw [Bool.eq_iff_iff, lnTo_lean, beq_iff_eq]
    exact (thS_iff hn s0 s1 e0 e1).symm
  rw [this]
theorem rootsOf_is {n : Int} {ws : List Wy} {e C : Int} {N : Nat} (hC : rootCost n ws e = C) (h : ¬ C < 0) (hN : 2 ^ ws.length = N) : rootsOf n ws e = rtTo ws e C N := by
  unfold rootsOf
  rw [hC, if_neg h, hN]
theorem rootsOf_no {n : Int} {ws : List Wy} {e C : Int} (hC : rootCost n ws e = C) (h : C < 0) : rootsOf n ws e = [] := by
  unfold rootsOf
  rw [hC, if_pos h]
end Go.Proofs.Ythadehgpeafniaa
