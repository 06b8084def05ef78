/- PathOf, of the program and of its model. SpanMany, of the program and of its model. PathOf, of the program and of its model: the end. RootOf and RootCost, of the program and of its model. LeastIn, of the program and of its model: ways are taken away from behind. -/
import Derived.Test.YthadehgpeafniaaMF
import Derived.Deep.RegionWith
set_option linter.unusedSimpArgs false
set_option linter.unusedVariables false
namespace Go.Proofs.Ythadehgpeafniaa
open Go.ChangeShapes Go.WideShapes Go.ChangeAt Go.RowKit

/-- the one set comes before the other one: cheaper, or as cheap with fewer ways -/
def chp (ws : List Wy) (a b : Int) : Bool := if cost ws a = cost ws b then decide (pop a < pop b) else decide (cost ws a < cost ws b)
/-- the best set below k that joins the places e -/
noncomputable def bestTo (ws : List Wy) (e : Int) : Nat → Int
  | 0 => -1
  | k + 1 => if (decide (bestTo ws e k < 0) || chp ws k (bestTo ws e k)) && joins ws k e then k else bestTo ws e k
theorem bestTo_bd (ws : List Wy) (e : Int) : ∀ k, -1 ≤ bestTo ws e k ∧ bestTo ws e k < k
  | 0 => by simp [bestTo]
  | k + 1 => by
    have ih := bestTo_bd ws e k
    rw [bestTo]
    split <;> omega
noncomputable def best (ws : List Wy) (e : Int) : Int := bestTo ws e (2 ^ ws.length)
theorem cost_bds {n : Int} {ws : List Wy} (hn : NetIs n ws) (s : Int) : 0 ≤ cost ws s ∧ cost ws s ≤ 81 := by
  have := cost_bd hn s ws.length
  rwa [List.take_of_length_le (Nat.le_refl _)] at this



theorem bestTo_yes {ws : List Wy} {e : Int} {k : Nat} (h : bestTo ws e k < 0 ∨ chp ws k (bestTo ws e k) = true) (hj : joins ws k e = true) : bestTo ws e (k + 1) = k := by
  rw [bestTo, if_pos]
  rw [hj, Bool.and_true, Bool.or_eq_true]
  rcases h with h | h
  · left; simpa using h
  · right; exact h
theorem bestTo_no {ws : List Wy} {e : Int} {k : Nat} (h : joins ws k e = false ∨ (¬ bestTo ws e k < 0 ∧ chp ws k (bestTo ws e k) = false)) : bestTo ws e (k + 1) = bestTo ws e k := by
  rw [bestTo, if_neg]
  rcases h with h | ⟨h1, h2⟩
  · rw [h]; simp
  · rw [h2]; simp only [Bool.or_false, Bool.and_eq_true, decide_eq_true_eq]; omega

end Go.Proofs.Ythadehgpeafniaa
namespace Go.Proofs.Ythadehgpeafniaa
open Go.ChangeShapes Go.WideShapes Go.ChangeAt Go.RowKit

/-- all places below n -/
def allPl (n : Int) : Int := 2 ^ n.toNat - 1
theorem allPl_bit {n q : Int} (h0 : 0 ≤ q) (hn : 0 ≤ n) : bit (allPl n) q = decide (q < n) := by
  unfold bit allPl
  have e : ((2 : Int) ^ n.toNat - 1).toNat = 2 ^ n.toNat - 1 := by
    have e1 : ((2 : Int) ^ n.toNat) = ((2 ^ n.toNat : Nat) : Int) := by simp
    have : 1 ≤ 2 ^ n.toNat := Nat.one_le_two_pow
    omega
  rw [e, Nat.testBit_two_pow_sub_one, Bool.eq_iff_iff]
  simp only [decide_eq_true_eq]
  omega
theorem allPl_bd {n : Int} {ws : List Wy} (hn : NetIs n ws) : 0 < allPl n ∧ allPl n < 64 ∧ allPl n < 2 ^ n.toNat := by
  have h := pow_bd n 6 (by have := hn.hi; omega)
  have h1 : (2 : Int) ^ 1 ≤ 2 ^ n.toNat := by
    have hh : 2 ^ 1 ≤ 2 ^ n.toNat := Nat.pow_le_pow_right (by omega) (by have := hn.lo; omega)
    have e1 : ((2 : Int) ^ n.toNat) = ((2 ^ n.toNat : Nat) : Int) := by simp
    omega
  unfold allPl; omega
theorem nds_bit (ws : List Wy) (s : Int) {n : Int} (hn : NetIs n ws) : ∀ (k j : Nat) (x : Wy), j < k → ws[j]? = some x → bit s j = true → bit (nodesTo ws s k) x.a = true ∧ bit (nodesTo ws s k) x.b = true
  | 0, j, _, hj, _, _ => by omega
  | k + 1, j, x, hj, hx, hb => by
    obtain ⟨a0, _, b0, _⟩ := hn.at_ hx
    cases hy : ws[k]? with
    | none =>
      have hjk : j ≠ k := fun e => by subst e; rw [hx] at hy; cases hy
      simp only [nodesTo, hy]
      exact nds_bit ws s hn k j x (by omega) hx hb
    | some y =>
      by_cases hjk : j = k
      · subst hjk
        rw [hx] at hy; injection hy with hy; subst hy
        rw [nodesTo_yes hx hb, bit_ior, bit_ior, wayPl_is, bit_ior, bit_ior, bit_shl _ _ a0 a0, bit_shl _ _ b0 b0]
        simp
      · have ih := nds_bit ws s hn k j x (by omega) hx hb
        cases hbk : bit s k
        · rw [nodesTo_no hy hbk]; exact ih
        · rw [nodesTo_yes hy hbk, bit_ior, bit_ior, ih.1, ih.2]
          simp
/-- if all places are joined, all are places of the set -/
theorem joins_nds {n : Int} {ws : List Wy} (hn : NetIs n ws) {s : Int} (h : joins ws s (allPl n) = true) : nds ws s = allPl n := by
  have hb := allPl_bd hn
  have hd := nds_bd hn s
  have hj := (joins_iff hn (by omega) hb.2.2).1 h
  refine set_ext hd.1 (by omega) fun q hq => ?_
  rw [allPl_bit hq (by have := hn.lo; omega)]
  by_cases hqn : q < n
  · rw [decide_eq_true hqn]
    apply Classical.byContradiction
    intro hno
    rw [Bool.not_eq_true] at hno
    -- then one comes from q to q alone
    obtain ⟨o, ho0, hon, hoq⟩ : ∃ o : Int, 0 ≤ o ∧ o < n ∧ o ≠ q := by
      by_cases h0 : q = 0
      · exact ⟨1, by omega, by have := hn.lo; omega, by omega⟩
      · exact ⟨0, by omega, by have := hn.lo; omega, by omega⟩
    have hr := hj q o hq ho0 (by rw [allPl_bit hq (by have := hn.lo; omega)]; simpa using hqn) (by rw [allPl_bit ho0 (by have := hn.lo; omega)]; simpa using hon)
    have hl := (reach_is (s := s) hn hq hqn).least (fun y => decide (y = q)) (by simp) (fun k x hx hbk => by
      have hk := (List.getElem?_eq_some_iff.1 hx).1
      obtain ⟨h1, h2⟩ := nds_bit ws s hn ws.length k x hk hx hbk
      have ha : x.a ≠ q := fun e => by rw [e] at h1; unfold nds at hno; rw [hno] at h1; cases h1
      have hb' : x.b ≠ q := fun e => by rw [e] at h2; unfold nds at hno; rw [hno] at h2; cases h2
      simp [ha, hb']) o ho0 hr
    simp at hl
    exact hoq hl
  · rw [decide_eq_false hqn]
    exact bit_big hd.1 hd.2.2 (by have := hn.lo; omega)
theorem pop_all : ∀ n : Fin 7, pop (2 ^ n.val - 1) = n.val := by decide +kernel
theorem pop_allPl {n : Int} (h0 : 0 ≤ n) (h6 : n ≤ 6) : pop (allPl n) = n := by
  have := pop_all ⟨n.toNat, by omega⟩
  unfold allPl
  simp only at this
  rw [this]; omega
theorem pop_zero_iff : ∀ s : Fin 512, pop (s.val : Int) = 0 → s.val = 0 := by decide +kernel
/-- trees that join all places are the sets that join all places and have one way fewer -/
theorem span_iff {n : Int} {ws : List Wy} (hn : NetIs n ws) {s : Int} : (tree ws s && joins ws s (allPl n)) = (pop s == n - 1 && joins ws s (allPl n)) := by
  cases h : joins ws s (allPl n)
  · simp
  · have hd := joins_nds hn h
    have hp := pop_allPl (n := n) (by have := hn.lo; omega) hn.hi
    have h2 := hn.lo
    unfold tree
    rw [hd, hp, h]
    simp only [Bool.and_true]
    by_cases hs : s = 0
    · -- no ways join no two places
      exfalso
      subst hs
      have hnz : nds ws 0 = 0 := by
        have : ∀ k, nodesTo ws 0 k = 0 := fun k => by
          induction k with
          | zero => rfl
          | succ k ih =>
            cases hx : ws[k]? with
            | none => simp only [nodesTo, hx]; exact ih
            | some x => rw [nodesTo_no hx (bit_zero_ _)]; exact ih
        exact this _
      have := (allPl_bd hn).1
      omega
    · have : (s == 0) = false := by simp [hs]
      rw [this, Bool.false_or]
/-- how many of the sets below k are trees that join all places -/
noncomputable def manyTo (n : Int) (ws : List Wy) : Nat → Int
  | 0 => 0
  | k + 1 => manyTo n ws k + if (pop k == n - 1 && joins ws k (allPl n)) = true then 1 else 0
theorem manyTo_bd (n : Int) (ws : List Wy) : ∀ k, 0 ≤ manyTo n ws k ∧ manyTo n ws k ≤ k
  | 0 => by simp [manyTo]
  | k + 1 => by
    have ih := manyTo_bd n ws k
    rw [manyTo]
    split <;> omega
noncomputable def manyOf (n : Int) (ws : List Wy) : Int := if netOk n ws = true then manyTo n ws (2 ^ ws.length) else -1

theorem allPlaces_any (n : Int) (v : Value) (h0 : 0 ≤ n) (h6 : n ≤ 6) (w : World) :
    Calls Try.prog 51 #[.agg #[.int .i64 n, v]] w fun e w' => e = .returned (.int .i64 (allPl n)) ∧ Below w.heap.size w w' := by
  have hp := pow_bd n 6 (by omega)
  go_enter Try.func51, Try.ntmps51
  go_wp2
  go_ret
  exact ⟨ret_int rfl, by go_grown⟩

end Go.Proofs.Ythadehgpeafniaa
namespace Go.Proofs.Ythadehgpeafniaa
open Go.ChangeShapes Go.WideShapes Go.ChangeAt Go.RowKit


def both (a b : Int) : Int := ior (2 ^ a.toNat) (2 ^ b.toNat)
noncomputable def pathOf (n : Int) (ws : List Wy) (a b : Int) : Int := if (netOk n ws && (hasPl n a && hasPl n b)) = true then best ws (both a b) else -1


end Go.Proofs.Ythadehgpeafniaa
namespace Go.Proofs.Ythadehgpeafniaa
open Go.ChangeShapes Go.WideShapes Go.ChangeAt Go.RowKit

noncomputable def rootOf (n : Int) (ws : List Wy) (e : Int) : Int := if (netOk n ws && plOk n e) = true then best ws e else -1
noncomputable def rootCost (n : Int) (ws : List Wy) (e : Int) : Int := costOf n ws (rootOf n ws e)
theorem best_bd' (ws : List Wy) (e : Int) : -1 ≤ best ws e ∧ best ws e < 2 ^ ws.length := by
  have h := bestTo_bd ws e (2 ^ ws.length)
  have e2 : ((2 : Int) ^ ws.length) = ((2 ^ ws.length : Nat) : Int) := by simp
  unfold best
  omega
theorem rootCost_is {n : Int} {ws : List Wy} {e : Int} (h : (netOk n ws && plOk n e) = true) : rootCost n ws e = if best ws e < 0 then -1 else cost ws (best ws e) := by
  have hb := best_bd' ws e
  have hn : netOk n ws = true := by rw [Bool.and_eq_true] at h; exact h.1
  unfold rootCost rootOf costOf
  rw [if_pos h]
  split
  · rename_i h1
    rw [if_neg]
    have := (setOk_t h1).2.1
    omega
  · rename_i h1
    rw [if_pos]
    cases hq : decide (best ws e < 0)
    · exfalso
      have h0 : ¬ best ws e < 0 := of_decide_eq_false hq
      apply h1
      unfold setOk
      rw [hn]
      unfold full
      simp
      omega
    · exact of_decide_eq_true hq
theorem rootCost_not {n : Int} {ws : List Wy} {e : Int} (h : (netOk n ws && plOk n e) = false) : rootCost n ws e = -1 := by
  unfold rootCost rootOf costOf
  have hx : ¬ (netOk n ws && plOk n e) = true := by rw [h]; simp
  rw [if_neg hx, if_neg]
  intro h1
  have := (setOk_t h1).2.1
  omega
set_option maxHeartbeats 400000 in
theorem endsOk_any (n e : Int) (A : Option Addr) (cap : Nat) (ws : List Wy) (w : World) (hr : RW w w.heap.size A ws) :
    Calls Try.prog 43 #[.agg #[.int .i64 n, .slice A ws.length cap], .int .i64 e] w fun en w' => en = .returned (.bool (netOk n ws && plOk n e)) ∧ Below w.heap.size w w' := by
  have HR := Lib.hid hr
  clear hr
  cases hn : netOk n ws
  · have HN := Lib.hid hn
    rw [Bool.false_and]
    clear hn
    go_enter Try.func43, Try.ntmps43
    go_wp2_with fail
    refine (NetOk_any _ _ _ _ _ (HR.out.later (by go_grown))).mono ?_; rintro e w1 ⟨rfl, hb1⟩
    rw [HN.out]
    obtain ⟨hc1, hf1⟩ := bcell hb1
    have hz1_0 : w.heap.size < w1.heap.size := by have hq := hb1.size; (try simp at hq); omega
    have HK1 := Lib.hid hb1
    have HB1 := Lib.hid (bstep (B := w.heap.size) (W := w) (by (try have hp := HB0.out); go_grown) (by go_size) hb1); clear hb1
    go_wp2_with fail
    go_ret
    exact ⟨rfl, HB1.out⟩
  · have HN := Lib.hid hn
    have hn2 := (netOk_t hn).lo
    have hn6 := (netOk_t hn).hi
    rw [Bool.true_and]
    clear hn
    go_enter Try.func43, Try.ntmps43
    go_wp2_with fail
    refine (NetOk_any _ _ _ _ _ (HR.out.later (by go_grown))).mono ?_; rintro e w1 ⟨rfl, hb1⟩
    rw [HN.out]
    obtain ⟨hc1, hf1⟩ := bcell hb1
    have hz1_0 : w.heap.size < w1.heap.size := by have hq := hb1.size; (try simp at hq); omega
    have HK1 := Lib.hid hb1
    have HB1 := Lib.hid (bstep (B := w.heap.size) (W := w) (by (try have hp := HB0.out); go_grown) (by go_size) hb1); clear hb1
    go_wp2_with fail
    refine (hasPlaces_any _ _ _ (by omega) (by omega) _).mono ?_; rintro e w2 ⟨rfl, hb2⟩
    obtain ⟨hc2, hf2⟩ := bcell hb2
    have hz2_0 : w.heap.size < w2.heap.size := by have hq := hb2.size; (try simp at hq); omega
    have HK2 := Lib.hid hb2
    have HB2 := Lib.hid (bstep (B := w.heap.size) (W := w) (by have hp := HB1.out; go_grown) (by go_size) hb2); clear hb2
    go_wp2_with fail
    go_ret
    exact ⟨rfl, HB2.out⟩
end Go.Proofs.Ythadehgpeafniaa
namespace Go.Proofs.Ythadehgpeafniaa
open Go.ChangeShapes Go.WideShapes Go.ChangeAt Go.RowKit

/-- what is left when the last j ways have been looked at -/
noncomputable def thS (ws : List Wy) (e s : Int) : Nat → Int
  | 0 => s
  | j + 1 => if joins ws (idiff (thS ws e s j) (2 ^ (ws.length - 1 - j))) e = true then idiff (thS ws e s j) (2 ^ (ws.length - 1 - j)) else thS ws e s j
theorem thS_bd {ws : List Wy} {e s : Int} (h0 : 0 ≤ s) : ∀ j, 0 ≤ thS ws e s j ∧ thS ws e s j ≤ s
  | 0 => ⟨h0, Int.le_refl _⟩
  | j + 1 => by
    have ih := thS_bd (ws := ws) (e := e) h0 j
    have hd := idiff_bd (thS ws e s j) (2 ^ (ws.length - 1 - j)) ih.1
    rw [thS]
    split <;> omega
theorem thS_le {ws : List Wy} {e s : Int} (h0 : 0 ≤ s) (j : Nat) : thS ws e s (j + 1) ≤ thS ws e s j := by
  have ih := thS_bd (ws := ws) (e := e) h0 j
  have hd := idiff_bd (thS ws e s j) (2 ^ (ws.length - 1 - j)) ih.1
  rw [thS]
  split <;> omega
theorem thS_le2 {ws : List Wy} {e s : Int} (h0 : 0 ≤ s) (j : Nat) : ∀ d, thS ws e s (j + d) ≤ thS ws e s j
  | 0 => Int.le_refl _
  | d + 1 => Int.le_trans (thS_le h0 (j + d)) (thS_le2 h0 j d)
theorem thS_yes {ws : List Wy} {e s : Int} {j k : Nat} (hk : k + j + 1 = ws.length) (h : joins ws (idiff (thS ws e s j) (2 ^ k)) e = true) : thS ws e s (j + 1) = idiff (thS ws e s j) (2 ^ k) := by
  have e1 : ws.length - 1 - j = k := by omega
  rw [thS, e1, if_pos h]
theorem thS_no {ws : List Wy} {e s : Int} {j k : Nat} (hk : k + j + 1 = ws.length) (h : joins ws (idiff (thS ws e s j) (2 ^ k)) e = false) : thS ws e s (j + 1) = thS ws e s j := by
  have e1 : ws.length - 1 - j = k := by omega
  rw [thS, e1, if_neg (by rw [h]; simp)]
theorem idiff_not {u : Int} {k : Nat} (h0 : 0 ≤ u) (hb : bit u k = false) : idiff u (2 ^ k) = u := by
  have hd := idiff_bd u (2 ^ k) h0
  refine set_ext hd.1 h0 fun q hq => ?_
  have e2 : ((2 : Int) ^ k) = 2 ^ ((k : Int)).toNat := by rw [Int.toNat_natCast]
  rw [bit_idiff, e2, bit_shl (k : Int) q (by omega) hq]
  by_cases h : q = k
  · subst h; rw [hb]; rfl
  · rw [decide_eq_false h]; simp
theorem thS_same {ws : List Wy} {e s : Int} {j k : Nat} (h0 : 0 ≤ s) (hk : k + j + 1 = ws.length) (hb : bit (thS ws e s j) k = false) : thS ws e s (j + 1) = thS ws e s j := by
  have ih := thS_bd (ws := ws) (e := e) h0 j
  cases h : joins ws (idiff (thS ws e s j) (2 ^ k)) e
  · exact thS_no hk h
  · rw [thS_yes hk h, idiff_not ih.1 hb]
theorem thS_joins {ws : List Wy} {e s : Int} (h : joins ws s e = true) : ∀ j, joins ws (thS ws e s j) e = true
  | 0 => h
  | j + 1 => by
    have ih := thS_joins h j
    rw [thS]
    split
    · assumption
    · exact ih
noncomputable def leastIn (n : Int) (ws : List Wy) (s e : Int) : Int := if joinsEnds n ws s e = true then thS ws e s ws.length else -1
theorem joinsEnds_t {n : Int} {ws : List Wy} {s e : Int} (h : joinsEnds n ws s e = true) : setOk n ws s = true ∧ plOk n e = true ∧ joins ws s e = true := by
  unfold joinsEnds at h
  rw [Bool.and_eq_true, Bool.and_eq_true] at h
  exact ⟨h.1.1, h.1.2, h.2⟩

end Go.Proofs.Ythadehgpeafniaa
