/- Pairs of places to join: sets of ways that join each pair, the best of them, and what they cost. Plain mathematics. -/
import Derived.Test.YtimccjmphdkbjaaDoorMJ
set_option linter.unusedVariables false
set_option linter.unusedSimpArgs false
namespace Go.Proofs.YtimccjmphdkbjaaDoor
open Go.RowKit

def prIn (n : Int) (p : Int × Int) : Bool := hasPl n p.1 && hasPl n p.2
def pairsOk (n : Int) (ws : List Wy) (ps : List (Int × Int)) : Bool := netOk n ws && (decide (ps.length ≤ 4) && ps.all (prIn n))
noncomputable def prB (ws : List Wy) (s : Int) (p : Int × Int) : Bool := bit (reach ws s p.1) p.2
/-- s joins each pair -/
noncomputable def jp (ws : List Wy) (ps : List (Int × Int)) (s : Int) : Bool := ps.all (prB ws s)
noncomputable def joinsPairs (n : Int) (ws : List Wy) (ps : List (Int × Int)) (s : Int) : Bool := pairsOk n ws ps && (setOk n ws s && jp ws ps s)
/-- the best set below k that joins the pairs -/
noncomputable def bpTo (ws : List Wy) (ps : List (Int × Int)) : Nat → Int
  | 0 => -1
  | k + 1 => if (decide (bpTo ws ps k < 0) || chp ws k (bpTo ws ps k)) && jp ws ps k then k else bpTo ws ps k
noncomputable def bp (ws : List Wy) (ps : List (Int × Int)) : Int := bpTo ws ps (2 ^ ws.length)
noncomputable def pairsOf (n : Int) (ws : List Wy) (ps : List (Int × Int)) : Int := if pairsOk n ws ps = true then bp ws ps else -1
/-- what the best set costs -/
noncomputable def pc (ws : List Wy) (ps : List (Int × Int)) : Int := if bp ws ps < 0 then -1 else cost ws (bp ws ps)
noncomputable def pairsCost (n : Int) (ws : List Wy) (ps : List (Int × Int)) : Int := if pairsOk n ws ps = true then pc ws ps else -1

theorem prIn_t {n : Int} {p : Int × Int} (h : prIn n p = true) : 0 ≤ p.1 ∧ p.1 < n ∧ 0 ≤ p.2 ∧ p.2 < n := by
  unfold prIn hasPl at h; simp at h; omega
theorem prIn_mk {n : Int} {p : Int × Int} (h : 0 ≤ p.1 ∧ p.1 < n ∧ 0 ≤ p.2 ∧ p.2 < n) : prIn n p = true := by
  unfold prIn hasPl; simp; omega
theorem pairsOk_t {n : Int} {ws : List Wy} {ps : List (Int × Int)} (h : pairsOk n ws ps = true) : netOk n ws = true ∧ ps.length ≤ 4 ∧ ∀ p, p ∈ ps → 0 ≤ p.1 ∧ p.1 < n ∧ 0 ≤ p.2 ∧ p.2 < n := by
  unfold pairsOk at h
  simp only [Bool.and_eq_true, decide_eq_true_eq, List.all_eq_true] at h
  exact ⟨h.1, h.2.1, fun p hp => prIn_t (h.2.2 p hp)⟩
theorem pairsOk_mk {n : Int} {ws : List Wy} {ps : List (Int × Int)} (h1 : netOk n ws = true) (h2 : ps.length ≤ 4) (h3 : ∀ p, p ∈ ps → 0 ≤ p.1 ∧ p.1 < n ∧ 0 ≤ p.2 ∧ p.2 < n) : pairsOk n ws ps = true := by
  unfold pairsOk
  simp only [Bool.and_eq_true, decide_eq_true_eq, List.all_eq_true]
  exact ⟨h1, h2, fun p hp => prIn_mk (h3 p hp)⟩
theorem jp_iff {ws : List Wy} {ps : List (Int × Int)} {s : Int} : jp ws ps s = true ↔ ∀ p, p ∈ ps → bit (reach ws s p.1) p.2 = true := by
  unfold jp; rw [List.all_eq_true]; rfl
theorem jp_take {ws : List Wy} {ps : List (Int × Int)} {s : Int} {k : Nat} {p : Int × Int} (h : ps[k]? = some p) : jp ws (ps.take (k + 1)) s = (jp ws (ps.take k) s && prB ws s p) := by
  unfold jp; rw [List.take_add_one, h, List.all_append]; simp
theorem jp_false {ws : List Wy} {ps : List (Int × Int)} {s : Int} {k : Nat} {p : Int × Int} (h : ps[k]? = some p) (hf : prB ws s p = false) : jp ws ps s = false := by
  unfold jp; rw [List.all_eq_false]
  exact ⟨p, List.mem_of_getElem? h, by rw [hf]; simp⟩
theorem prIn_take {n : Int} {ps : List (Int × Int)} {k : Nat} {p : Int × Int} (h : ps[k]? = some p) : (ps.take (k + 1)).all (prIn n) = ((ps.take k).all (prIn n) && prIn n p) := by
  rw [List.take_add_one, h, List.all_append]; simp
theorem prIn_false {n : Int} {ps : List (Int × Int)} {k : Nat} {p : Int × Int} (h : ps[k]? = some p) (hf : prIn n p = false) : ps.all (prIn n) = false := by
  rw [List.all_eq_false]
  exact ⟨p, List.mem_of_getElem? h, by rw [hf]; simp⟩
/-- the pairs are places of the net -/
def PrIn (n : Int) (ps : List (Int × Int)) : Prop := ∀ p, p ∈ ps → 0 ≤ p.1 ∧ p.1 < n ∧ 0 ≤ p.2 ∧ p.2 < n
theorem jp_mono {n : Int} {ws : List Wy} {ps : List (Int × Int)} (hn : NetIs n ws) (hp : PrIn n ps) {s t : Int} (hs : ∀ k, 0 ≤ k → bit s k = true → bit t k = true) (h : jp ws ps s = true) : jp ws ps t = true :=
  jp_iff.2 fun p hm => re_mono hn (hp p hm).1 (hp p hm).2.1 (hp p hm).2.2.1 hs (jp_iff.1 h p hm)

/-! ### the best set -/
theorem bpTo_bd (ws : List Wy) (ps : List (Int × Int)) : ∀ k, -1 ≤ bpTo ws ps k ∧ bpTo ws ps k < k
  | 0 => by simp [bpTo]
  | k + 1 => by
    have ih := bpTo_bd ws ps k
    rw [bpTo]
    split <;> omega
theorem bpTo_yes {ws : List Wy} {ps : List (Int × Int)} {k : Nat} (h : bpTo ws ps k < 0 ∨ chp ws k (bpTo ws ps k) = true) (hj : jp ws ps k = true) : bpTo ws ps (k + 1) = k := by
  rw [bpTo, if_pos]
  rw [hj, Bool.and_true, Bool.or_eq_true]
  rcases h with h | h
  · left; simpa using h
  · right; exact h
theorem bpTo_no {ws : List Wy} {ps : List (Int × Int)} {k : Nat} (h : jp ws ps k = false ∨ (¬ bpTo ws ps k < 0 ∧ chp ws k (bpTo ws ps k) = false)) : bpTo ws ps (k + 1) = bpTo ws ps k := by
  rw [bpTo, if_neg]
  rcases h with h | ⟨h1, h2⟩
  · rw [h]; simp
  · rw [h2]; simp only [Bool.or_false, Bool.and_eq_true, decide_eq_true_eq]; omega
theorem bpTo_least (ws : List Wy) (ps : List (Int × Int)) : ∀ k, (0 ≤ bpTo ws ps k → jp ws ps (bpTo ws ps k) = true) ∧ ∀ s : Nat, s < k → jp ws ps s = true → 0 ≤ bpTo ws ps k ∧ chp ws s (bpTo ws ps k) = false
  | 0 => ⟨fun h => by simp [bpTo] at h, fun s hs => by omega⟩
  | k + 1 => by
    obtain ⟨ih1, ih2⟩ := bpTo_least ws ps k
    by_cases hj : jp ws ps k = true
    · by_cases hc : bpTo ws ps k < 0 ∨ chp ws k (bpTo ws ps k) = true
      · rw [bpTo_yes hc hj]
        refine ⟨fun _ => hj, fun s hs hjs => ⟨by omega, ?_⟩⟩
        by_cases e2 : s = k
        · subst e2; rw [chp_false]; omega
        · obtain ⟨i0, i1⟩ := ih2 s (by omega) hjs
          rcases hc with hc | hc
          · omega
          · rw [chp_false] at i1 ⊢
            rw [chp_true] at hc
            omega
      · have h1 : ¬ bpTo ws ps k < 0 := fun h => hc (.inl h)
        have h2 : chp ws k (bpTo ws ps k) = false := by
          cases h : chp ws k (bpTo ws ps k)
          · rfl
          · exact absurd (.inr h) hc
        rw [bpTo_no (.inr ⟨h1, h2⟩)]
        refine ⟨ih1, fun s hs hjs => ?_⟩
        by_cases e2 : s = k
        · subst e2; exact ⟨by omega, h2⟩
        · exact ih2 s (by omega) hjs
    · have hj' : jp ws ps k = false := by cases h : jp ws ps k; rfl; exact absurd h hj
      rw [bpTo_no (.inl hj')]
      refine ⟨ih1, fun s hs hjs => ?_⟩
      by_cases e2 : s = k
      · subst e2; exact absurd hjs hj
      · exact ih2 s (by omega) hjs
theorem bp_bd (ws : List Wy) (ps : List (Int × Int)) : -1 ≤ bp ws ps ∧ bp ws ps < 2 ^ ws.length := by
  have h := bpTo_bd ws ps (2 ^ ws.length)
  have e2 : ((2 : Int) ^ ws.length) = ((2 ^ ws.length : Nat) : Int) := by simp
  unfold bp
  omega
theorem bp_joins {ws : List Wy} {ps : List (Int × Int)} (h : 0 ≤ bp ws ps) : jp ws ps (bp ws ps) = true := (bpTo_least ws ps _).1 h
theorem bp_least {ws : List Wy} {ps : List (Int × Int)} {s : Int} (s0 : 0 ≤ s) (s1 : s < 2 ^ ws.length) (hj : jp ws ps s = true) : 0 ≤ bp ws ps ∧ chp ws s (bp ws ps) = false := by
  have e2 : ((2 : Int) ^ ws.length) = ((2 ^ ws.length : Nat) : Int) := by simp
  have h := (bpTo_least ws ps (2 ^ ws.length)).2 s.toNat (by omega) (by rw [Int.toNat_of_nonneg s0]; exact hj)
  rw [Int.toNat_of_nonneg s0] at h
  exact h
theorem bp_full (ws : List Wy) (ps : List (Int × Int)) : bp ws ps ≤ full ws.length := (full_lt ws.length _).2 (bp_bd ws ps).2
/-- no way of it is needless -/
theorem bp_needs {n : Int} {ws : List Wy} (hn : NetIs n ws) {ps : List (Int × Int)} (h : 0 ≤ bp ws ps) {k : Nat} (hk : k < ws.length) (hb : bit (bp ws ps) k = true) : jp ws ps (bp ws ps - 2 ^ k) = false := by
  have hl := hn.len
  have hbb := bp_bd ws ps
  have hpl := pow_bd (ws.length : Int) 9 (by omega)
  rw [Int.toNat_natCast] at hpl
  have lb := fun j (hj : j < 9) => lessb (j := j) h (by omega) (show k < 9 by omega) hj hb
  have l2 := (lb 0 (by omega)).2
  cases hj : jp ws ps (bp ws ps - 2 ^ k)
  · rfl
  · exfalso
    have hp := pop_less h (by omega) (show k < 9 by omega) hb
    have h1 : (1 : Int) ≤ 2 ^ k := by have e2 : ((2 : Int) ^ k) = ((2 ^ k : Nat) : Int) := by simp
                                      have := Nat.one_le_two_pow (n := k)
                                      omega
    have hc := (bp_least (s := bp ws ps - 2 ^ k) (by omega) (by omega) hj).2
    have hm : cost ws (bp ws ps - 2 ^ k) ≤ cost ws (bp ws ps) := cost_mono hn (fun q hq hbq => by
      have hq9 := set_sub (n := 9) (show 0 ≤ bp ws ps - 2 ^ k by omega) (by omega) hbq
      have := (lb q.toNat (by omega)).1
      rw [Int.toNat_of_nonneg hq] at this
      rw [this, Bool.and_eq_true] at hbq
      exact hbq.1)
    rw [chp_false] at hc
    omega

/-! ### what it costs -/
theorem pc_ge {n : Int} {ws : List Wy} (hn : NetIs n ws) (ps : List (Int × Int)) : -1 ≤ pc ws ps ∧ pc ws ps ≤ 81 := by
  unfold pc
  have := cost_bds hn (bp ws ps)
  split <;> omega
theorem pc_le {n : Int} {ws : List Wy} (hn : NetIs n ws) {ps : List (Int × Int)} {s : Int} (s0 : 0 ≤ s) (s1 : s ≤ full ws.length) (hj : jp ws ps s = true) : 0 ≤ pc ws ps ∧ pc ws ps ≤ cost ws s := by
  obtain ⟨h0, h1⟩ := bp_least s0 ((full_lt ws.length s).1 s1) hj
  have := cost_bds hn (bp ws ps)
  unfold pc
  rw [if_neg (by omega)]
  rw [chp_false] at h1
  omega
theorem pc_set {n : Int} {ws : List Wy} (hn : NetIs n ws) {ps : List (Int × Int)} (h : 0 ≤ pc ws ps) : ∃ s, 0 ≤ s ∧ s ≤ full ws.length ∧ jp ws ps s = true ∧ cost ws s = pc ws ps := by
  unfold pc at *
  by_cases hb : bp ws ps < 0
  · rw [if_pos hb] at h; omega
  · rw [if_neg hb] at h ⊢
    exact ⟨bp ws ps, by omega, bp_full ws ps, bp_joins (by omega), rfl⟩
theorem pc_neg {n : Int} {ws : List Wy} (hn : NetIs n ws) (ps : List (Int × Int)) : pc ws ps < 0 ↔ bp ws ps < 0 := by
  unfold pc
  have := cost_bds hn (bp ws ps)
  split <;> omega
theorem pairsCost_neg {n : Int} {ws : List Wy} {ps : List (Int × Int)} (h : pairsOf n ws ps < 0) : pairsOf n ws ps = -1 ∧ pairsCost n ws ps = -1 := by
  unfold pairsOf pairsCost at *
  by_cases hp : pairsOk n ws ps = true
  · rw [if_pos hp] at h ⊢
    rw [if_pos hp]
    unfold pc
    rw [if_pos h]
    have := bp_bd ws ps
    exact ⟨by omega, rfl⟩
  · rw [if_neg hp, if_neg hp]; exact ⟨rfl, rfl⟩
theorem pairsOf_told {n : Int} {ws : List Wy} {ps : List (Int × Int)} (h : 0 ≤ pairsOf n ws ps) : pairsOk n ws ps = true ∧ pairsOf n ws ps = bp ws ps ∧ 0 ≤ bp ws ps ∧ pairsCost n ws ps = cost ws (bp ws ps) := by
  unfold pairsOf pairsCost at *
  by_cases hp : pairsOk n ws ps = true
  · rw [if_pos hp] at h ⊢
    rw [if_pos hp]
    unfold pc
    rw [if_neg (by omega)]
    exact ⟨hp, rfl, h, rfl⟩
  · rw [if_neg hp] at h; omega
theorem pairsCost_told {n : Int} {ws : List Wy} {ps : List (Int × Int)} (h : 0 ≤ pairsCost n ws ps) : pairsOk n ws ps = true ∧ pairsCost n ws ps = pc ws ps := by
  unfold pairsCost at *
  by_cases hp : pairsOk n ws ps = true
  · rw [if_pos hp]; exact ⟨hp, rfl⟩
  · rw [if_neg hp] at h; omega
theorem pairsCost_ge (n : Int) (ws : List Wy) (ps : List (Int × Int)) : -1 ≤ pairsCost n ws ps ∧ pairsCost n ws ps ≤ 81 := by
  unfold pairsCost
  by_cases hp : pairsOk n ws ps = true
  · rw [if_pos hp]; exact pc_ge (netOk_t (pairsOk_t hp).1) ps
  · rw [if_neg hp]; omega

/-! ### the laws' words -/
/-- all ways join them too -/
theorem jp_full {n : Int} {ws : List Wy} {ps : List (Int × Int)} (hn : NetIs n ws) (hp : PrIn n ps) {s : Int} (s0 : 0 ≤ s) (s1 : s ≤ full ws.length) (h : jp ws ps s = true) : jp ws ps (full ws.length) = true :=
  jp_mono hn hp (fun k hk hb => by
    have h9 := set_sub s0 ((full_lt ws.length s).1 s1) hb
    have h8 := full_bit ws.length k.toNat (by omega)
    rwa [Int.toNat_of_nonneg hk] at h8) h
/-- a pair is no farther than all cost -/
theorem pc_far {m : Nat} {ws : List Wy} {ps : List (Int × Int)} (hn : NetIs (m : Int) ws) (h : 0 ≤ pc ws ps) {a b : Nat} (ha : a < m) (hb : b < m) (hm : ((a : Int), (b : Int)) ∈ ps) : 0 ≤ farF ws m a b ∧ farF ws m a b ≤ pc ws ps := by
  obtain ⟨s, s0, s1, hs, hc⟩ := pc_set hn h
  have hj := jp_iff.1 hs _ hm
  simp only at hj
  have h2 := rc_le hn s0 s1 ((joins_both hn (by omega) (by omega) (by omega) (by omega)).2 hj)
  rw [rc_both hn ha hb] at h2
  omega
/-- the least paths of all pairs together -/
def sumF (ws : List Wy) (m : Nat) : List (Int × Int) → Int
  | [] => 0
  | p :: ps => farF ws m p.1.toNat p.2.toNat + sumF ws m ps
theorem sumF_append (ws : List Wy) (m : Nat) (ps qs : List (Int × Int)) : sumF ws m (ps ++ qs) = sumF ws m ps + sumF ws m qs := by
  induction ps with
  | nil => simp [sumF]
  | cons p ps ih => simp only [List.cons_append, sumF, ih]; omega
theorem sumF_take {ws : List Wy} {m : Nat} {ps : List (Int × Int)} {k : Nat} {p : Int × Int} (h : ps[k]? = some p) : sumF ws m (ps.take (k + 1)) = sumF ws m (ps.take k) + farF ws m p.1.toNat p.2.toNat := by
  rw [List.take_add_one, h, sumF_append]; simp [sumF]
/-- one pair more: at most its least path more -/
theorem pc_snoc {m : Nat} {ws : List Wy} {ps : List (Int × Int)} (hn : NetIs (m : Int) ws) (hp : PrIn (m : Int) ps) (h : 0 ≤ pc ws ps) {a b : Nat} (ha : a < m) (hb : b < m) (hf : 0 ≤ farF ws m a b) :
    0 ≤ pc ws (ps ++ [((a : Int), (b : Int))]) ∧ pc ws (ps ++ [((a : Int), (b : Int))]) ≤ pc ws ps + farF ws m a b := by
  obtain ⟨s, s0, s1, hs, hc⟩ := pc_set hn h
  obtain ⟨t, t0, t1, ht, hct⟩ := rc_set hn (e := both a b) (by rw [rc_both hn ha hb]; exact hf)
  rw [rc_both hn ha hb] at hct
  have hbt := (joins_both hn (by omega) (by omega) (by omega) (by omega)).1 ht
  have hi := ior_full s0 s1 t0 t1
  have hu := cost_union hn s t
  have := pc_le (ps := ps ++ [((a : Int), (b : Int))]) hn hi.1 hi.2 (jp_iff.2 fun p hm => by
    rcases List.mem_append.1 hm with hm | hm
    · exact re_mono hn (hp p hm).1 (hp p hm).2.1 (hp p hm).2.2.1 (fun k _ hk => by rw [bit_ior, hk]; rfl) (jp_iff.1 hs p hm)
    · simp at hm
      subst hm
      exact re_mono hn (by omega) (by omega) (by omega) (fun k _ hk => by rw [bit_ior, hk]; simp) hbt)
  omega
/-- fewer pairs cost no more -/
theorem pc_fewer {n : Int} {ws : List Wy} {ps qs : List (Int × Int)} (hn : NetIs n ws) (hs : ∀ p, p ∈ qs → p ∈ ps) (h : 0 ≤ pc ws ps) : 0 ≤ pc ws qs ∧ pc ws qs ≤ pc ws ps := by
  obtain ⟨s, s0, s1, hj, hc⟩ := pc_set hn h
  have := pc_le (ps := qs) hn s0 s1 (jp_iff.2 fun p hm => jp_iff.1 hj p (hs p hm))
  omega
theorem pc_nil {n : Int} {ws : List Wy} (hn : NetIs n ws) : pc ws [] = 0 := by
  have hf := full_bd ws.length hn.len
  have h := pc_le (ps := []) (s := 0) hn (by omega) (by omega) (jp_iff.2 fun p hm => by cases hm)
  rw [cost_zero] at h
  omega
/-- all pairs together cost no more than each alone -/
theorem pc_sum {m : Nat} {ws : List Wy} (hn : NetIs (m : Int) ws) {ps : List (Int × Int)} (hp : PrIn (m : Int) ps) (h : 0 ≤ pc ws ps) : ∀ k, k ≤ ps.length → 0 ≤ pc ws (ps.take k) ∧ pc ws (ps.take k) ≤ sumF ws m (ps.take k)
  | 0, _ => by rw [List.take_zero, pc_nil hn]; simp [sumF]
  | k + 1, hk => by
    obtain ⟨i0, i1⟩ := pc_sum hn hp h k (by omega)
    obtain ⟨p, hpk⟩ : ∃ p, ps[k]? = some p := ⟨_, List.getElem?_eq_getElem (by omega)⟩
    have hm := List.mem_of_getElem? hpk
    have hb := hp p hm
    obtain ⟨a, ha⟩ : ∃ a : Nat, p.1 = a := ⟨p.1.toNat, by omega⟩
    obtain ⟨b, hb'⟩ : ∃ b : Nat, p.2 = b := ⟨p.2.toNat, by omega⟩
    obtain ⟨p1, p2⟩ := p
    simp only at ha hb' hb
    subst ha hb'
    have hfar := pc_far hn h (a := a) (b := b) (by omega) (by omega) hm
    have h3 := pc_snoc hn (ps := ps.take k) (fun q hq => hp q (List.mem_of_mem_take hq)) i0 (a := a) (b := b) (by omega) (by omega) hfar.1
    rw [sumF_take hpk, List.take_add_one, hpk]
    simp only [Option.toList_some, Int.toNat_natCast]
    omega
theorem sumF_bd {m : Nat} {ws : List Wy} {ps : List (Int × Int)} (hp : PrIn (m : Int) ps) (h0 : ∀ a b : Nat, a < m → b < m → ((a : Int), (b : Int)) ∈ ps → 0 ≤ farF ws m a b) (h1 : ∀ a b : Nat, a < m → b < m → ((a : Int), (b : Int)) ∈ ps → farF ws m a b ≤ 81) : ∀ k : Nat, k ≤ ps.length → 0 ≤ sumF ws m (ps.take k) ∧ sumF ws m (ps.take k) ≤ 81 * k
  | 0, _ => by simp [sumF]
  | k + 1, hk => by
    have ih := sumF_bd hp h0 h1 k (by omega)
    obtain ⟨⟨p1, p2⟩, h2⟩ : ∃ x, ps[k]? = some x := ⟨_, List.getElem?_eq_getElem (by omega)⟩
    have h3 := List.mem_of_getElem? h2
    have h4 := hp (p1, p2) h3
    simp only at h4
    obtain ⟨j1, rfl⟩ : ∃ i : Nat, p1 = i := ⟨p1.toNat, by omega⟩
    obtain ⟨j2, rfl⟩ : ∃ i : Nat, p2 = i := ⟨p2.toNat, by omega⟩
    have h5 := h0 j1 j2 (by omega) (by omega) h3
    have h6 := h1 j1 j2 (by omega) (by omega) h3
    rw [sumF_take h2]
    simp only [Int.toNat_natCast]
    omega
/-- all places of pairs -/
def endsP : List (Int × Int) → Int
  | [] => 0
  | p :: ps => ior (both p.1 p.2) (endsP ps)
theorem endsP_nn (ps : List (Int × Int)) : 0 ≤ endsP ps := by
  cases ps with
  | nil => simp [endsP]
  | cons p ps => unfold endsP ior; omega
theorem endsP_bit {n : Int} : ∀ {ps : List (Int × Int)}, PrIn n ps → ∀ {q : Int}, 0 ≤ q → (bit (endsP ps) q = true ↔ ∃ p, p ∈ ps ∧ (q = p.1 ∨ q = p.2))
  | [], _, q, hq => by simp [endsP, bit_zero_]
  | p :: ps, h, q, hq => by
    have hb := h p (List.mem_cons_self ..)
    rw [endsP, bit_ior, bit_both hb.1 hb.2.2.1 hq, Bool.or_eq_true, endsP_bit (fun r hr => h r (List.mem_cons_of_mem _ hr)) hq]
    simp only [Bool.or_eq_true, decide_eq_true_eq, List.mem_cons]
    constructor
    · rintro (h1 | ⟨r, hr, h1⟩)
      · exact ⟨p, .inl rfl, h1⟩
      · exact ⟨r, .inr hr, h1⟩
    · rintro ⟨r, rfl | hr, h1⟩
      · exact .inl h1
      · exact .inr ⟨r, hr, h1⟩
theorem endsP_lt {n : Int} : ∀ {ps : List (Int × Int)}, PrIn n ps → 0 ≤ n → endsP ps < 2 ^ n.toNat
  | [], _, hn => by have := pow_bd n n.toNat (Nat.le_refl _); simp only [endsP]; omega
  | p :: ps, h, hn => by
    have hb := h p (List.mem_cons_self ..)
    have h1 := both_bd hb.1 hb.2.1 hb.2.2.1 hb.2.2.2
    exact (ior_bd _ _ _ h1.2 (endsP_lt (fun r hr => h r (List.mem_cons_of_mem _ hr)) hn)).2
theorem ior_assoc_ (a b c : Int) (ha : 0 ≤ a) (hb : 0 ≤ b) (hc : 0 ≤ c) : ior (ior a b) c = ior a (ior b c) :=
  set_ext (ior_nn _ _) (ior_nn _ _) fun q hq => by simp only [bit_ior, Bool.or_assoc]
theorem both_nn (a b : Int) : 0 ≤ both a b := ior_nn _ _
theorem endsP_append : ∀ (ps qs : List (Int × Int)), endsP (ps ++ qs) = ior (endsP ps) (endsP qs)
  | [], qs => by
    have h := endsP_nn qs
    exact set_ext h (ior_nn _ _) fun q hq => by simp [endsP, bit_ior, bit_zero_]
  | p :: ps, qs => by rw [List.cons_append, endsP, endsP_append ps qs, endsP, ior_assoc_ _ _ _ (both_nn _ _) (endsP_nn _) (endsP_nn _)]
theorem endsP_take {ps : List (Int × Int)} {k : Nat} {p : Int × Int} (h : ps[k]? = some p) : endsP (ps.take (k + 1)) = ior (endsP (ps.take k)) (both p.1 p.2) := by
  rw [List.take_add_one, h, endsP_append]
  simp only [Option.toList_some, endsP]
  congr 1
  exact set_ext (ior_nn _ _) (both_nn _ _) fun q hq => by simp [bit_ior, bit_zero_]
/-- a root of all places joins the pairs -/
theorem pc_root {n : Int} {ws : List Wy} (hn : NetIs n ws) {ps : List (Int × Int)} (hp : PrIn n ps) (h : 0 ≤ rc ws (endsP ps)) : 0 ≤ pc ws ps ∧ pc ws ps ≤ rc ws (endsP ps) := by
  obtain ⟨s, s0, s1, hs, hc⟩ := rc_set hn h
  have hn0 := hn.lo
  have h2 := (joins_iff hn (endsP_nn ps) (endsP_lt hp (by omega))).1 hs
  rw [← hc]
  exact pc_le hn s0 s1 (jp_iff.2 fun p hm => h2 p.1 p.2 (hp p hm).1 (hp p hm).2.2.1 ((endsP_bit hp (hp p hm).1).2 ⟨p, hm, .inl rfl⟩) ((endsP_bit hp (hp p hm).2.2.1).2 ⟨p, hm, .inr rfl⟩))
/-- pairs that all have the place c are joined just by what joins all their places -/
theorem pc_star {n : Int} {ws : List Wy} (hn : NetIs n ws) {ps : List (Int × Int)} (hp : PrIn n ps) {c : Int} (c0 : 0 ≤ c) (c1 : c < n) (hs : ∀ p, p ∈ ps → p.1 = c ∨ p.2 = c) (h : 0 ≤ pc ws ps) : rc ws (endsP ps) = pc ws ps := by
  obtain ⟨s, s0, s1, hj, hc⟩ := pc_set hn h
  have hn0 := hn.lo
  have hcome : ∀ q, 0 ≤ q → bit (endsP ps) q = true → bit (reach ws s c) q = true := fun q hq hb => by
    obtain ⟨p, hm, h1⟩ := (endsP_bit hp hq).1 hb
    have hpb := hp p hm
    have h2 := jp_iff.1 hj p hm
    rcases hs p hm with e | e
    · rcases h1 with h1 | h1
      · rw [h1, e]; exact (reach_is hn c0 c1).has
      · rw [h1, ← e]; exact h2
    · rcases h1 with h1 | h1
      · rw [h1, ← e]; exact re_sym hn hpb.1 hpb.2.1 hpb.2.2.1 h2
      · rw [h1, e]; exact (reach_is hn c0 c1).has
  have h3 := rc_le hn s0 s1 ((joins_iff hn (endsP_nn ps) (endsP_lt hp (by omega))).2 fun p q hp0 hq0 h1 h2 => by
    have g1 := re_sym hn c0 c1 hp0 (hcome p hp0 h1)
    have hpn : p < n := by
      obtain ⟨r, hm, e⟩ := (endsP_bit hp hp0).1 h1
      have := hp r hm
      rcases e with e | e <;> omega
    exact re_trans hn hp0 hpn c0 g1 (hcome q hq0 h2))
  have h4 := (pc_root hn hp h3.1).2
  omega
def starP (ps : List (Int × Int)) (c : Int) : Bool := ps.all (fun p => (p.1 == c) || (p.2 == c))
theorem starP_take {ps : List (Int × Int)} {c : Int} {k : Nat} {p : Int × Int} (h : ps[k]? = some p) : starP (ps.take (k + 1)) c = (starP (ps.take k) c && ((p.1 == c) || (p.2 == c))) := by
  unfold starP; rw [List.take_add_one, h, List.all_append]; simp
end Go.Proofs.YtimccjmphdkbjaaDoor
