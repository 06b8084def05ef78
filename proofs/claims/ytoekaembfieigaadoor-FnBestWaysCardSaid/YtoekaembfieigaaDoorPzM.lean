/- Prizes: gains of sets of ways, the most of them, and ends with their roots. Plain mathematics. -/
import Derived.Test.YtoekaembfieigaaDoorMJ
set_option linter.unusedSimpArgs false
set_option linter.unusedVariables false
namespace Go.Proofs.YtoekaembfieigaaDoor
open Go.RowKit

/-- the prizes of the places of a set, among the first k -/
def prTo (pz : List Int) (P : Int) : Nat → Int
  | 0 => 0
  | k + 1 => prTo pz P k + if bit P k = true then pz.getD k 0 else 0
def prizeIn (x : Int) : Bool := inB x 0 20
noncomputable def prizesOk (n : Int) (ws : List Wy) (pz : List Int) : Bool := netOk n ws && (decide ((pz.length : Int) = n) && pz.all prizeIn)
noncomputable def gain (ws : List Wy) (pz : List Int) (s : Int) : Int := prTo pz (reach ws s 0) pz.length - cost ws s
noncomputable def bgTo (ws : List Wy) (pz : List Int) : Nat → Int
  | 0 => 0
  | k + 1 => max (bgTo ws pz k) (gain ws pz k)
/-- set a gains more than set b, or as much with fewer ways -/
noncomputable def gbet (ws : List Wy) (pz : List Int) (a b : Int) : Bool := decide (gain ws pz b < gain ws pz a) || (decide (gain ws pz a = gain ws pz b) && decide (pop a < pop b))
noncomputable def bwTo (ws : List Wy) (pz : List Int) : Nat → Int
  | 0 => 0
  | k + 1 => if gbet ws pz k (bwTo ws pz k) = true then (k : Int) else bwTo ws pz k
noncomputable def bestGain (n : Int) (ws : List Wy) (pz : List Int) : Int := if prizesOk n ws pz = true then bgTo ws pz (2 ^ ws.length) else -1
noncomputable def bestWays (n : Int) (ws : List Wy) (pz : List Int) : Int := if prizesOk n ws pz = true then bwTo ws pz (2 ^ ws.length) else -1
noncomputable def gainOf (n : Int) (ws : List Wy) (pz : List Int) (s : Int) : Option Int := if (prizesOk n ws pz && inB s 0 (full ws.length)) = true then some (gain ws pz s) else none
noncomputable def eGain (ws : List Wy) (pz : List Int) (e : Int) : Int := prTo pz (ior e 1) pz.length - rc ws (ior e 1)
noncomputable def endsGain (n : Int) (ws : List Wy) (pz : List Int) (e : Int) : Option Int := if (prizesOk n ws pz && (plOk n e && decide (0 ≤ rc ws (ior e 1)))) = true then some (eGain ws pz e) else none

structure PzIs (n : Int) (ws : List Wy) (pz : List Int) : Prop where
  ok : netOk n ws = true
  len : (pz.length : Int) = n
  ins : pz.all prizeIn = true
theorem prizesOk_iff {n : Int} {ws : List Wy} {pz : List Int} : prizesOk n ws pz = true ↔ PzIs n ws pz := by
  unfold prizesOk
  rw [Bool.and_eq_true, Bool.and_eq_true, decide_eq_true_eq]
  exact ⟨fun ⟨a, b, c⟩ => ⟨a, b, c⟩, fun h => ⟨h.ok, h.len, h.ins⟩⟩
theorem pz_in {pz : List Int} (h : pz.all prizeIn = true) (j : Nat) : 0 ≤ pz.getD j 0 ∧ pz.getD j 0 ≤ 20 := by
  by_cases hj : j < pz.length
  · have hx : pz[j]? = some pz[j] := List.getElem?_eq_getElem hj
    rw [List.getD_eq_getElem?_getD, hx]
    have := List.all_eq_true.1 h pz[j] (List.getElem_mem hj)
    unfold prizeIn inB at this
    simpa using this
  · rw [List.getD_eq_getElem?_getD, List.getElem?_eq_none (by omega)]; simp
theorem prTo_bd {pz : List Int} (h : pz.all prizeIn = true) (P : Int) : ∀ k : Nat, 0 ≤ prTo pz P k ∧ prTo pz P k ≤ 20 * k
  | 0 => by simp [prTo]
  | k + 1 => by
    have ih := prTo_bd h P k
    have := pz_in h k
    rw [prTo]
    split <;> omega
theorem prTo_mono {pz : List Int} (h : pz.all prizeIn = true) {P Q : Int} (hs : ∀ j : Nat, bit P j = true → bit Q j = true) : ∀ k : Nat, prTo pz P k ≤ prTo pz Q k
  | 0 => Int.le_refl _
  | k + 1 => by
    have ih := prTo_mono h hs k
    have hk := pz_in h k
    rw [prTo, prTo]
    by_cases hb : bit P k = true
    · rw [if_pos hb, if_pos (hs k hb)]; omega
    · rw [if_neg hb]; split <;> omega
theorem bit1_ (q : Int) (hq : 0 ≤ q) : bit 1 q = decide (q = 0) := bit_shl 0 q (Int.le_refl 0) hq
theorem prTo_one (pz : List Int) : ∀ k : Nat, 0 < k → prTo pz 1 k = pz.getD 0 0
  | 1, _ => by rw [prTo, prTo, bit1_ _ (by omega)]; simp
  | k + 2, _ => by
    rw [prTo, prTo_one pz (k + 1) (by omega)]
    have : bit 1 ((k + 1 : Nat) : Int) = false := by rw [bit1_ _ (by omega)]; simp; omega
    rw [if_neg (by rw [this]; simp), Int.add_zero]
theorem prTo_zeros {pz : List Int} (h : ∀ j : Nat, pz.getD j 0 = 0) (P : Int) : ∀ k : Nat, prTo pz P k = 0
  | 0 => rfl
  | k + 1 => by rw [prTo, prTo_zeros h P k, h k]; simp
/-- all prizes -/
theorem prTo_all {pz : List Int} (h : pz.all prizeIn = true) {n : Int} (hn : 0 ≤ n) (P : Int) : ∀ k : Nat, (k : Int) ≤ n → n ≤ 6 → prTo pz P k ≤ prTo pz (allPl n) k
  | 0, _, _ => Int.le_refl _
  | k + 1, hk, h6 => by
    have ih := prTo_all h hn P k (by omega) h6
    have hz := pz_in h k
    rw [prTo, prTo]
    have : bit (allPl n) (k : Int) = true := by rw [allPl_bit (by omega) (by omega)]; simp; omega
    rw [if_pos this]
    split <;> omega
theorem less_sub {u : Int} {k : Nat} (u0 : 0 ≤ u) (u1 : u < 512) (hk : k < 9) (h : bit u k = true) : ∀ q : Int, 0 ≤ q → bit (u - 2 ^ k) q = true → bit u q = true := fun q hq hb => by
  obtain ⟨j, rfl⟩ := Int.eq_ofNat_of_zero_le hq
  have hb2 := (lessb u0 u1 hk hk h).2
  have hp : (0 : Int) < 2 ^ k := by
    have e9 : ((2 : Int) ^ k) = ((2 ^ k : Nat) : Int) := by simp
    have := Nat.two_pow_pos k
    omega
  have hj : (j : Int) < (9 : Nat) := set_sub (n := 9) (by omega) (by simp; omega) hb
  have := (lessb u0 u1 hk (j := j) (by omega) h).1
  rw [this] at hb
  simp at hb
  exact hb.1
theorem small_all : ∀ (r : Fin 64) (m : Fin 7), (∀ j : Fin 6, r.val.testBit j.val = true → j.val < m.val) → r.val < 2 ^ m.val := by decide +kernel
section
variable {n : Int} {ws : List Wy} {pz : List Int}
theorem reach_none (hn : NetIs n ws) : reach ws 0 0 = 1 := by
  have h0 : (0 : Int) < n := by have := hn.lo; omega
  have hr := reach_is (s := 0) hn (Int.le_refl 0) h0
  refine set_ext hr.lo (by omega) fun q hq => ?_
  have h1 : bit 1 q = decide (q = 0) := bit_shl 0 q (Int.le_refl 0) hq
  rw [h1, Bool.eq_iff_iff, decide_eq_true_eq]
  constructor
  · intro h
    have := hr.least (fun q => decide (q = 0)) (by simp) (fun k x hx hk => by rw [bit_zero_] at hk; cases hk) q hq h
    simpa using this
  · rintro rfl; exact hr.has
theorem gain_none (h : PzIs n ws pz) : gain ws pz 0 = pz.getD 0 0 := by
  have hn := netOk_t h.ok
  unfold gain
  rw [reach_none hn, cost_zero, prTo_one pz _ (by have := h.len; have := hn.lo; omega), Int.sub_zero]
theorem gain_all (h : PzIs n ws pz) (s : Int) : gain ws pz s ≤ prTo pz (allPl n) pz.length := by
  have hn := netOk_t h.ok
  have h1 := prTo_all h.ins (n := n) (by have := hn.lo; omega) (reach ws s 0) pz.length (by have := h.len; omega) hn.hi
  have h2 := (cost_bds hn s).1
  unfold gain
  omega
theorem bgTo_ge (ws : List Wy) (pz : List Int) : ∀ N j : Nat, j < N → gain ws pz j ≤ bgTo ws pz N
  | N + 1, j, h => by
    rw [bgTo]
    by_cases e : j = N
    · subst e; omega
    · have := bgTo_ge ws pz N j (by omega); omega
theorem bgTo_ex (ws : List Wy) (pz : List Int) : ∀ N : Nat, bgTo ws pz N = 0 ∨ ∃ j, j < N ∧ bgTo ws pz N = gain ws pz j
  | 0 => .inl rfl
  | N + 1 => by
    rw [bgTo]
    rcases Int.le_total (bgTo ws pz N) (gain ws pz N) with h | h
    · exact .inr ⟨N, by omega, by omega⟩
    · rcases bgTo_ex ws pz N with h1 | ⟨j, hj, h1⟩
      · exact .inl (by omega)
      · exact .inr ⟨j, by omega, by omega⟩
theorem bgTo_bd (h : PzIs n ws pz) : ∀ N : Nat, 0 ≤ bgTo ws pz N ∧ bgTo ws pz N ≤ 120
  | 0 => by simp [bgTo]
  | N + 1 => by
    have ih := bgTo_bd h N
    have hn := netOk_t h.ok
    have h1 := gain_all h (N : Int)
    have h2 := prTo_bd h.ins (allPl n) pz.length
    have h3 := h.len
    have h4 := hn.hi
    rw [bgTo]
    omega
/-- some set gains the most -/
theorem bg_some (h : PzIs n ws pz) : ∃ j : Nat, j < 2 ^ ws.length ∧ bgTo ws pz (2 ^ ws.length) = gain ws pz j := by
  rcases bgTo_ex ws pz (2 ^ ws.length) with h1 | h1
  · have hp := Nat.two_pow_pos ws.length
    have h2 := bgTo_ge ws pz (2 ^ ws.length) 0 hp
    have h3 := gain_none h
    have h4 := pz_in h.ins 0
    refine ⟨0, hp, ?_⟩
    rw [show ((0 : Nat) : Int) = 0 from rfl] at h2 ⊢
    omega
  · exact h1
theorem gain_bg {s : Int} (s0 : 0 ≤ s) (s1 : s ≤ full ws.length) : gain ws pz s ≤ bgTo ws pz (2 ^ ws.length) := by
  obtain ⟨j, rfl⟩ := Int.eq_ofNat_of_zero_le s0
  have hj := (full_lt ws.length _).1 s1
  have e2 : ((2 : Int) ^ ws.length) = ((2 ^ ws.length : Nat) : Int) := by simp
  exact bgTo_ge ws pz _ j (by omega)
theorem gbet_iff {a b : Int} : gbet ws pz a b = true ↔ gain ws pz b < gain ws pz a ∨ (gain ws pz a = gain ws pz b ∧ pop a < pop b) := by
  unfold gbet; simp
/-- the best set so far gains most, with the fewest ways -/
theorem bwTo_ok (ws : List Wy) (pz : List Int) : ∀ N : Nat, 0 < N → (∃ j : Nat, j < N ∧ bwTo ws pz N = j) ∧ ∀ j : Nat, j < N → gain ws pz j ≤ gain ws pz (bwTo ws pz N) ∧ (gain ws pz j = gain ws pz (bwTo ws pz N) → pop (bwTo ws pz N) ≤ pop j)
  | 1, _ => by
    have h0 : bwTo ws pz 1 = 0 := by rw [bwTo]; split <;> rfl
    rw [h0]
    refine ⟨⟨0, by omega, rfl⟩, fun j hj => ?_⟩
    obtain rfl : j = 0 := by omega
    exact ⟨Int.le_refl _, fun _ => Int.le_refl _⟩
  | N + 2, _ => by
    obtain ⟨⟨j0, hj0, e0⟩, ih⟩ := bwTo_ok ws pz (N + 1) (by omega)
    rw [bwTo]
    by_cases hb : gbet ws pz ((N + 1 : Nat) : Int) (bwTo ws pz (N + 1)) = true
    · rw [if_pos hb]
      rw [gbet_iff] at hb
      refine ⟨⟨N + 1, by omega, rfl⟩, fun j hj => ?_⟩
      by_cases e : j = N + 1
      · subst e; exact ⟨Int.le_refl _, fun _ => Int.le_refl _⟩
      · have := ih j (by omega)
        rcases hb with hb | ⟨hb, hc⟩
        · exact ⟨by omega, fun h => by omega⟩
        · exact ⟨by omega, fun h => by have := this.2 (by omega); omega⟩
    · rw [if_neg hb]
      rw [gbet_iff] at hb
      refine ⟨⟨j0, by omega, e0⟩, fun j hj => ?_⟩
      by_cases e : j = N + 1
      · subst e
        exact ⟨by omega, fun h => by
          by_cases hc : pop ((N + 1 : Nat) : Int) < pop (bwTo ws pz (N + 1))
          · exact absurd (.inr ⟨h, hc⟩) hb
          · omega⟩
      · exact ih j (by omega)
theorem src_in {e : Int} (e0 : 0 ≤ e) (e1 : e < 2 ^ n.toNat) (hn : NetIs n ws) : 0 ≤ ior e 1 ∧ ior e 1 < 2 ^ n.toNat ∧ bit (ior e 1) 0 = true := by
  have h1 : (1 : Int) < 2 ^ n.toNat := by
    have h9 := Nat.pow_le_pow_right (n := 2) (by omega) (show 1 ≤ n.toNat by have := hn.lo; omega)
    have e9 : ((2 : Int) ^ n.toNat) = ((2 ^ n.toNat : Nat) : Int) := by simp
    omega
  have h2 := ior_bd e 1 _ e1 h1
  refine ⟨h2.1, h2.2, ?_⟩
  rw [bit_ior]
  have : bit 1 0 = true := by have := bit_shl 0 0 (Int.le_refl 0) (Int.le_refl 0); simpa using this
  rw [this, Bool.or_true]
/-- ends gain no more than the best set -/
theorem ends_le (h : PzIs n ws pz) {e : Int} (e0 : 0 ≤ e) (e1 : e < 2 ^ n.toNat) (hr : 0 ≤ rc ws (ior e 1)) : eGain ws pz e ≤ bgTo ws pz (2 ^ ws.length) := by
  have hn := netOk_t h.ok
  obtain ⟨i0, i1, ib⟩ := src_in e0 e1 hn
  obtain ⟨s, s0, s1, hj, hc⟩ := rc_set hn hr
  have hg := gain_bg (pz := pz) s0 s1
  have hm := prTo_mono h.ins (P := ior e 1) (Q := reach ws s 0) (fun j hb => (joins_iff hn i0 i1).1 hj 0 j (Int.le_refl 0) (by omega) ib hb) pz.length
  unfold eGain
  unfold gain at hg
  omega
/-- what a set joins gains as much by its root, or more -/
theorem ends_ge (h : PzIs n ws pz) {s : Int} (s0 : 0 ≤ s) (s1 : s ≤ full ws.length) : 0 ≤ reach ws s 0 ∧ reach ws s 0 < 2 ^ n.toNat ∧ ior (reach ws s 0) 1 = reach ws s 0 ∧ joins ws s (reach ws s 0) = true ∧ 0 ≤ rc ws (reach ws s 0) ∧ rc ws (reach ws s 0) ≤ cost ws s := by
  have hn := netOk_t h.ok
  have h0 : (0 : Int) < n := by have := hn.lo; omega
  have hr := reach_is (s := s) hn (Int.le_refl 0) h0
  have hin : ∀ q : Int, 0 ≤ q → bit (reach ws s 0) q = true → q < n := fun q hq hb => by
    have := hr.least (fun q => decide (q < n)) (by simpa using h0) (fun k x hx _ => by
      have := hn.at_ hx
      show decide (x.a < n) = decide (x.b < n)
      rw [decide_eq_true (by omega), decide_eq_true (by omega)]) q hq hb
    simpa using this
  have hlt : reach ws s 0 < 2 ^ n.toNat := by
    have h6 := hn.hi
    obtain ⟨m, hm⟩ := Int.eq_ofNat_of_zero_le (show 0 ≤ n by omega)
    obtain ⟨r, hrr⟩ := Int.eq_ofNat_of_zero_le hr.lo
    have h64 := hr.hi
    rw [hrr] at h64 hin ⊢
    have := small_all ⟨r, by omega⟩ ⟨m, by omega⟩ (fun j hjb => by
      have h9 := hin (j.val : Int) (by omega) (by unfold bit; rw [Int.toNat_natCast, Int.toNat_natCast]; exact hjb)
      show j.val < m
      omega)
    have e9 : ((2 : Int) ^ n.toNat) = ((2 ^ n.toNat : Nat) : Int) := by simp
    rw [e9, hm, Int.toNat_natCast]
    exact_mod_cast this
  have hj : joins ws s (reach ws s 0) = true := (joins_iff hn hr.lo hlt).2 fun p q hp hq hbp hbq => by
    have hpn := hin p hp hbp
    exact re_trans hn hp hpn (Int.le_refl 0) (re_sym hn (Int.le_refl 0) h0 hp hbp) hbq
  have hio : ior (reach ws s 0) 1 = reach ws s 0 := by
    refine set_ext (ior_nn _ _) hr.lo fun q hq => ?_
    rw [bit_ior]
    have h1 : bit 1 q = decide (q = 0) := bit_shl 0 q (Int.le_refl 0) hq
    rw [h1]
    by_cases e : q = 0
    · subst e; rw [hr.has]; rfl
    · rw [decide_eq_false e, Bool.or_false]
  have := rc_le hn s0 s1 hj
  exact ⟨hr.lo, hlt, hio, hj, this.1, this.2⟩
/-- the greatest gain of ends, of the first k sets of ends; -1 for none -/
noncomputable def egTo (n : Int) (ws : List Wy) (pz : List Int) : Nat → Int
  | 0 => -1
  | k + 1 => match endsGain n ws pz k with
    | some x => max (egTo n ws pz k) x
    | none => egTo n ws pz k
theorem endsGain_is (h : PzIs n ws pz) {e : Int} (he : plOk n e = true) (hr : 0 ≤ rc ws (ior e 1)) : endsGain n ws pz e = some (eGain ws pz e) := by
  unfold endsGain; rw [prizesOk_iff.2 h, he, decide_eq_true hr]; rfl
theorem endsGain_no {e : Int} (h : (prizesOk n ws pz && (plOk n e && decide (0 ≤ rc ws (ior e 1)))) = false) : endsGain n ws pz e = none := by
  unfold endsGain; rw [h, if_neg (by simp)]
theorem endsGain_t {e x : Int} (h : endsGain n ws pz e = some x) : PzIs n ws pz ∧ plOk n e = true ∧ 0 ≤ rc ws (ior e 1) ∧ x = eGain ws pz e := by
  unfold endsGain at h
  split at h
  · rename_i hc
    rw [Bool.and_eq_true, Bool.and_eq_true, decide_eq_true_eq] at hc
    injection h with h
    exact ⟨prizesOk_iff.1 hc.1, hc.2.1, hc.2.2, h.symm⟩
  · cases h
theorem ends_most {e x : Int} (h : endsGain n ws pz e = some x) : x ≤ bgTo ws pz (2 ^ ws.length) := by
  obtain ⟨h1, h2, h3, rfl⟩ := endsGain_t h
  obtain ⟨e0, e1⟩ := plOk_t h2
  exact ends_le h1 e0 e1 h3
theorem egTo_le (h : PzIs n ws pz) : ∀ N : Nat, egTo n ws pz N ≤ bgTo ws pz (2 ^ ws.length)
  | 0 => by have := (bgTo_bd h (2 ^ ws.length)).1; rw [egTo]; omega
  | N + 1 => by
    have ih := egTo_le h N
    rw [egTo]
    split
    · rename_i x hx; have := ends_most hx; omega
    · exact ih
theorem egTo_ge (n : Int) (ws : List Wy) (pz : List Int) : ∀ (N j : Nat) (x : Int), j < N → endsGain n ws pz j = some x → x ≤ egTo n ws pz N
  | N + 1, j, x, h, hx => by
    rw [egTo]
    by_cases e : j = N
    · subst e; rw [hx]; simp only; omega
    · have := egTo_ge n ws pz N j x (by omega) hx
      split <;> omega
/-- the most is gained by roots -/
theorem egTo_is (h : PzIs n ws pz) : egTo n ws pz (2 ^ n.toNat) = bgTo ws pz (2 ^ ws.length) := by
  obtain ⟨j, hj, he⟩ := bg_some h
  have e2 : ((2 : Int) ^ ws.length) = ((2 ^ ws.length : Nat) : Int) := by simp
  obtain ⟨r0, r1, hio, hjo, hr0, hr1⟩ := ends_ge h (s := (j : Int)) (by omega) ((full_lt ws.length _).2 (by omega))
  obtain ⟨r, hr⟩ := Int.eq_ofNat_of_zero_le r0
  have e3 : ((2 : Int) ^ n.toNat) = ((2 ^ n.toNat : Nat) : Int) := by simp
  have hx := endsGain_is h (e := reach ws j 0) (plOk_mk r0 r1) (by rw [hio]; exact hr0)
  have hle := egTo_le h (2 ^ n.toNat)
  have hge := egTo_ge n ws pz (2 ^ n.toNat) r _ (by omega) (by rw [← hr]; exact hx)
  unfold eGain at hge
  rw [hio] at hge
  unfold gain at he
  omega
/-- best sets are roots of what they join -/
theorem bw_root (h : PzIs n ws pz) : ∃ s : Int, bestWays n ws pz = s ∧ 0 ≤ s ∧ s ≤ full ws.length ∧ gain ws pz s = bgTo ws pz (2 ^ ws.length) ∧ tree ws s = true ∧ cost ws s = rc ws (reach ws s 0) := by
  have hn := netOk_t h.ok
  have e2 : ((2 : Int) ^ ws.length) = ((2 ^ ws.length : Nat) : Int) := by simp
  obtain ⟨⟨j, hj, hje⟩, hb⟩ := bwTo_ok ws pz (2 ^ ws.length) (Nat.two_pow_pos _)
  have hs1 : (j : Int) ≤ full ws.length := (full_lt ws.length _).2 (by omega)
  have hl9 := hn.len
  have h512 : (j : Int) < 512 := by
    have h9 := Nat.pow_le_pow_right (n := 2) (by omega) hl9
    omega
  have hall : ∀ t : Int, 0 ≤ t → t ≤ full ws.length → gain ws pz t ≤ gain ws pz j ∧ (gain ws pz t = gain ws pz j → pop j ≤ pop t) := fun t t0 t1 => by
    obtain ⟨u, rfl⟩ := Int.eq_ofNat_of_zero_le t0
    have := hb u (by have := (full_lt ws.length _).1 t1; omega)
    rw [hje] at this
    exact this
  obtain ⟨r0, r1, hio, hjo, hr0, hr1⟩ := ends_ge h (s := (j : Int)) (by omega) hs1
  have hgj : gain ws pz j = bgTo ws pz (2 ^ ws.length) := by
    obtain ⟨i, hi, hie⟩ := bg_some h
    have h1 := (hall i (by omega) ((full_lt ws.length _).2 (by omega))).1
    have h2 := gain_bg (pz := pz) (s := (j : Int)) (by omega) hs1
    omega
  have more : ∀ t : Int, joins ws t (reach ws j 0) = true → prTo pz (reach ws j 0) pz.length ≤ prTo pz (reach ws t 0) pz.length := fun t ht =>
    prTo_mono h.ins (fun q hq => (joins_iff hn r0 r1).1 ht 0 q (Int.le_refl 0) (by omega) (reach_is (s := (j : Int)) hn (Int.le_refl 0) (by have := hn.lo; omega)).has hq) _
  refine ⟨j, ?_, by omega, hs1, hgj, ?_, ?_⟩
  · unfold bestWays; rw [prizesOk_iff.2 h, if_pos rfl, hje]
  · refine min_tree hn (by omega) hs1 r0 r1 hjo fun k hk hbk => ?_
    cases hjk : joins ws ((j : Int) - 2 ^ k) (reach ws j 0)
    · rfl
    · exfalso
      have hsub := less_sub (u := (j : Int)) (by omega) h512 (k := k) (by omega) hbk
      have hlb := (lessb (u := (j : Int)) (by omega) h512 (k := k) (by omega) (j := 0) (by omega) hbk).2
      have hpk : (0 : Int) < 2 ^ k := by
        have e9 : ((2 : Int) ^ k) = ((2 ^ k : Nat) : Int) := by simp
        have := Nat.two_pow_pos k
        omega
      have h1 := hall ((j : Int) - 2 ^ k) (by omega) (by omega)
      have h2 := more _ hjk
      have h3 := cost_mono hn hsub
      have h4 := pop_less (u := (j : Int)) (by omega) h512 (k := k) (by omega) hbk
      unfold gain at h1
      have h5 := h1.2 (by omega)
      omega
  · rcases Int.lt_or_le (rc ws (reach ws j 0)) (cost ws j) with hlt | hle
    · exfalso
      obtain ⟨t, t0, t1, htj, htc⟩ := rc_set hn hr0
      have h1 := (hall t t0 t1).1
      have h2 := more _ htj
      unfold gain at h1
      omega
    · omega
/-! ### a greater prize -/
theorem prTo_more {pz pz' : List Int} {l : Nat} (hs : ∀ j : Nat, pz'.getD j 0 = pz.getD j 0 + if j = l then 1 else 0) (P : Int) : ∀ k : Nat, prTo pz P k ≤ prTo pz' P k ∧ prTo pz' P k ≤ prTo pz P k + (if l < k then 1 else 0)
  | 0 => by simp [prTo]
  | k + 1 => by
    have ih := prTo_more hs P k
    have hk := hs k
    have c0 : (if l < k + 1 then (1 : Int) else 0) = (if l < k then 1 else 0) + (if k = l then 1 else 0) := by
      by_cases h1 : l < k
      · rw [if_pos h1, if_pos (by omega), if_neg (by omega)]; rfl
      · by_cases h2 : k = l
        · rw [if_neg h1, if_pos (by omega), if_pos h2]; rfl
        · rw [if_neg h1, if_neg (by omega), if_neg h2]; rfl
    have hv : 0 ≤ (if k = l then (1 : Int) else 0) := by split <;> omega
    rw [prTo, prTo, c0, hk]
    generalize (if l < k then (1 : Int) else 0) = u at *
    generalize (if k = l then (1 : Int) else 0) = v at *
    split <;> omega
theorem bg_more {pz pz' : List Int} {l : Nat} (hlen : pz'.length = pz.length) (hs : ∀ j : Nat, pz'.getD j 0 = pz.getD j 0 + if j = l then 1 else 0) : ∀ N : Nat, bgTo ws pz N ≤ bgTo ws pz' N ∧ bgTo ws pz' N ≤ bgTo ws pz N + 1
  | 0 => by simp [bgTo]
  | N + 1 => by
    have ih := bg_more hlen hs N
    have hm := prTo_more hs (reach ws N 0) pz.length
    have h1 : (if l < pz.length then (1 : Int) else 0) ≤ 1 := by split <;> omega
    rw [bgTo, bgTo]
    unfold gain
    rw [hlen]
    omega
theorem bg_zeros (hn : NetIs n ws) (h : ∀ j : Nat, pz.getD j 0 = 0) : ∀ N : Nat, bgTo ws pz N = 0
  | 0 => rfl
  | N + 1 => by
    have h1 := (cost_bds hn (N : Int)).1
    rw [bgTo, bg_zeros hn h N]
    unfold gain
    rw [prTo_zeros h]
    omega
end
end Go.Proofs.YtoekaembfieigaaDoor
