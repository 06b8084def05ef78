/- The program's codes of trees: pairs in order, also the same one twice; leaves taken one by one; pairs built one by one and sorted. Plain mathematics. -/
import Derived.Test.YtimccjmphdkbjaaDoorPdA
import Derived.Test.YtimccjmphdkbjaaDoorMI
import Derived.Sort.LotA
set_option linter.unusedVariables false
set_option linter.unusedSimpArgs false
namespace Go.Proofs.YtimccjmphdkbjaaDoor
open Go.RowKit

/-! ### pairs in order -/
theorem gtP_irr (p : Int × Int) : gtP p p = false := by unfold gtP; simp
theorem gtP_asym {p q : Int × Int} (h : gtP p q = false) (h' : gtP q p = false) : p = q := by
  unfold gtP at h h'
  simp only [Bool.or_eq_false_iff, Bool.and_eq_false_iff, decide_eq_false_iff_not] at h h'
  obtain ⟨a, b⟩ := p
  obtain ⟨c, d⟩ := q
  simp only at h h'
  have h1 : a = c := by omega
  have h2 : b = d := by omega
  rw [h1, h2]
theorem lw_net2 {m : Nat} (h2 : 2 ≤ m) (h6 : m ≤ 6) {L : List (Int × Int)} (hl : L.length + 1 = m) (hin : ∀ p ∈ L, InP m p) : NetIs (m : Int) (lw L) := by
  refine ⟨by omega, by omega, by rw [lw_len]; omega, fun x hx => ?_⟩
  obtain ⟨p, hp, rfl⟩ := List.mem_map.1 hx
  obtain ⟨a, b, c⟩ := hin p hp
  simp only; omega
theorem full_allPl (len : Nat) : full len = allPl (len : Int) := by unfold full allPl; rw [Int.toNat_natCast]
theorem lw_at {L : List (Int × Int)} {k : Nat} {p : Int × Int} (h : L[k]? = some p) : (lw L)[k]? = some ⟨p.1, p.2, 0⟩ := by unfold lw; rw [List.getElem?_map, h]; rfl
/-- a pair that stands twice: too few are left to join all places -/
theorem twice_no {m : Nat} (h2 : 2 ≤ m) (h6 : m ≤ 6) {L : List (Int × Int)} (hl : L.length + 1 = m) (hin : ∀ p ∈ L, InP m p) {k : Nat} {p : Int × Int} (hk : L[k]? = some p) (hk1 : L[k + 1]? = some p) : joins (lw L) (full L.length) (allPl m) = false := by
  have hn := lw_net2 h2 h6 hl hin
  have hkl := (List.getElem?_eq_some_iff.1 hk1).1
  have hfb := full_bd L.length (by omega)
  obtain ⟨ab0, ab1, ab2⟩ := allPl_bd hn
  have hbk : ∀ j : Nat, j < L.length → bit (full L.length) j = true := fun j hj => by
    rw [full_allPl, allPl_bit (by omega) (by omega)]; exact decide_eq_true (by omega)
  cases hJ : joins (lw L) (full L.length) (allPl m) with
  | false => rfl
  | true =>
    exfalso
    rw [joins_iff hn (by omega) ab2] at hJ
    have hover : ∀ q, 0 ≤ q → q < (m : Int) → bit (reach (lw L) (full L.length - 2 ^ k) 0) q = true := fun q q0 q1 => by
      refine re_over (s := full L.length) hn (Int.le_refl 0) (by omega) q0 (fun j x hx hb => ?_) (hJ 0 q (Int.le_refl 0) q0 (by rw [allPl_bit (by omega) (by omega)]; exact decide_eq_true (by omega)) (by rw [allPl_bit q0 (by omega)]; exact decide_eq_true q1))
      have hj := (List.getElem?_eq_some_iff.1 hx).1
      rw [lw_len] at hj
      by_cases e : j = k
      · subst e
        rw [lw_at hk] at hx
        injection hx with hx; subst hx
        exact re_way (x := ⟨p.1, p.2, 0⟩) (k := j + 1) hn (lw_at hk1) (by
          rw [(lessb hfb.1 (by omega) (by omega) (by omega) (hbk j (by omega))).1, hbk _ hkl]; simp)
      · exact re_way hn hx (by
          rw [(lessb hfb.1 (by omega) (by omega) (by omega) (hbk k (by omega))).1, hb]; simp [e])
    have hp1 : pop (allPl m) ≤ pop (reach (lw L) (full L.length - 2 ^ k) 0) := pop_sub fun q q0 hq => by
      rw [allPl_bit q0 (by omega), decide_eq_true_eq] at hq
      exact hover q q0 hq
    have hp2 := pop_reach (s := full L.length - 2 ^ k) hn (Int.le_refl 0) (show (0 : Int) < m by omega)
    have hp3 := pop_less hfb.1 (by omega) (show k < 9 by omega) (hbk k (by omega))
    rw [pop_allPl (by omega) (by omega)] at hp1
    have hp4 : pop (full L.length) = L.length := by rw [full_allPl, pop_allPl (by omega) (by omega)]
    omega
/-- the program's test of a list: in order, also twice the same one -/
theorem links_weak {m : Nat} (h2 : 2 ≤ m) (h6 : m ≤ 6) {L : List (Int × Int)} (hl : L.length + 1 = m) (hin : ∀ p ∈ L, InP m p) (hs : ∀ k p q, L[k]? = some p → L[k + 1]? = some q → gtP p q = false) : linksOk m L = joins (lw L) (full L.length) (allPl m) := by
  cases hsh : shapeB m L with
  | true =>
    unfold linksOk
    rw [decide_eq_true (by omega : (2 : Int) ≤ m), decide_eq_true (by omega : (m : Int) ≤ 6), Int.toNat_natCast, hsh]; rfl
  | false =>
    have e0 : linksOk (m : Int) L = false := by unfold linksOk; rw [Int.toNat_natCast, hsh]; simp
    rw [e0]
    unfold shapeB at hsh
    rw [decide_eq_true hl, Bool.true_and, List.all_eq_false] at hsh
    obtain ⟨k, hk, hno⟩ := hsh
    rw [List.mem_range] at hk
    have hkp := List.getElem?_eq_getElem hk
    obtain ⟨i1, i2, i3⟩ := hin _ (List.getElem_mem hk)
    rw [okAt_iff, getD_some hkp] at hno
    cases k with
    | zero => exact absurd ⟨⟨i1, i2, i3⟩, .inl rfl⟩ hno
    | succ k =>
      have hkq := List.getElem?_eq_getElem (show k < L.length by omega)
      have hg : gtP L[k + 1] L[k] = false := by
        cases hg : gtP L[k + 1] L[k] with
        | false => rfl
        | true => exact absurd ⟨⟨i1, i2, i3⟩, .inr (by rw [Nat.add_sub_cancel, getD_some hkq]; exact hg)⟩ hno
      have he := gtP_asym hg (hs k _ _ hkq hkp)
      rw [he] at hkp
      exact (twice_no h2 h6 hl hin hkq hkp).symm
theorem linksOk_len {m : Nat} {L : List (Int × Int)} (h : L.length + 1 ≠ m) : linksOk (m : Int) L = false := by
  unfold linksOk shapeB
  rw [Int.toNat_natCast, decide_eq_false h]; simp
theorem linksOk_out {n : Int} {L : List (Int × Int)} (h : ¬ (2 ≤ n ∧ n ≤ 6)) : linksOk n L = false := by
  unfold linksOk
  by_cases h1 : 2 ≤ n
  · rw [decide_eq_false (by omega : ¬ n ≤ 6)]; simp
  · rw [decide_eq_false h1]; rfl
theorem linksOk_in {n : Int} {L : List (Int × Int)} {k : Nat} {p : Int × Int} (hk : L[k]? = some p) (h : ¬ (0 ≤ p.1 ∧ p.1 < p.2 ∧ p.2 < n)) : linksOk n L = false := by
  cases hL : linksOk n L with
  | false => rfl
  | true =>
    obtain ⟨m, rfl, h2, h6, hs, _⟩ := linksOk_t hL
    exact absurd (shape_in hs (List.mem_of_getElem? hk)) h
theorem linksOk_ord {n : Int} {L : List (Int × Int)} {k : Nat} {p q : Int × Int} (hk : L[k]? = some p) (hk1 : L[k + 1]? = some q) (h : gtP p q = true) : linksOk n L = false := by
  cases hL : linksOk n L with
  | false => rfl
  | true =>
    obtain ⟨m, rfl, h2, h6, hs, _⟩ := linksOk_t hL
    have h1 := (okAt_iff.1 ((shape_at hs).2 (k + 1) (List.getElem?_eq_some_iff.1 hk1).1)).2
    rw [getD_some hk1, Nat.add_sub_cancel, getD_some hk] at h1
    rcases h1 with h1 | h1
    · omega
    · unfold gtP at h h1
      simp only [Bool.or_eq_true, Bool.and_eq_true, decide_eq_true_eq] at h h1
      omega

/-! ### the only pair of a leaf -/
def hasL (l : Int) (p : Int × Int) : Bool := p.1 == l || p.2 == l
theorem degL_cons (p : Int × Int) (L : List (Int × Int)) (v : Int) : degL (p :: L) v = ((if p.1 = v then 1 else 0) + (if p.2 = v then 1 else 0)) + degL L v := by
  unfold degL
  rw [List.foldl_cons, Int.zero_add]
  have := foldl_add (fun p : Int × Int => (if p.1 = v then (1 : Int) else 0) + (if p.2 = v then 1 else 0)) L ((if p.1 = v then 1 else 0) + (if p.2 = v then 1 else 0)) 0
  rw [Int.add_zero] at this
  exact this
theorem degL_zero {l : Int} : ∀ {L : List (Int × Int)}, degL L l = 0 → nextL L l = L ∧ outL L l = [] ∧ ∀ q ∈ L, hasL l q = false
  | [], _ => ⟨rfl, rfl, fun q hq => by cases hq⟩
  | p :: L, h => by
    rw [degL_cons] at h
    have hb := (degL_bd L l).1
    have h1 : p.1 ≠ l := by intro e; rw [if_pos e] at h; split at h <;> omega
    have h2 : p.2 ≠ l := by intro e; rw [if_pos e] at h; split at h <;> omega
    rw [if_neg h1, if_neg h2] at h
    obtain ⟨a, b, c⟩ := degL_zero (L := L) (l := l) (by omega)
    refine ⟨?_, ?_, fun q hq => ?_⟩
    · unfold nextL at a ⊢
      rw [List.filter_cons, if_pos (by simp [h1, h2]), a]
    · unfold outL at b ⊢
      rw [List.filterMap_cons, if_neg h1, if_neg h2]; exact b
    · rcases List.mem_cons.1 hq with rfl | hq
      · simp [hasL, h1, h2]
      · exact c q hq
theorem degL_one {l : Int} : ∀ {L : List (Int × Int)}, (∀ p ∈ L, p.1 ≠ p.2) → degL L l = 1 → ∃ k p, L[k]? = some p ∧ hasL l p = true ∧ (∀ (j : Nat) (q : Int × Int), j < k → L[j]? = some q → hasL l q = false) ∧ nextL L l = L.eraseIdx k ∧ outL L l = [p.1 + p.2 - l]
  | [], _, h => by simp [degL] at h
  | p :: L, hne, h => by
    rw [degL_cons] at h
    have hp := hne p (List.mem_cons_self ..)
    by_cases h1 : p.1 = l
    · have h2 : p.2 ≠ l := fun e => hp (h1.trans e.symm)
      rw [if_pos h1, if_neg h2] at h
      obtain ⟨a, b, c⟩ := degL_zero (L := L) (l := l) (by omega)
      refine ⟨0, p, rfl, by simp [hasL, h1], fun j q hj => by omega, ?_, ?_⟩
      · unfold nextL at a ⊢
        rw [List.filter_cons, if_neg (by simp [h1]), a]; rfl
      · unfold outL at b ⊢
        rw [List.filterMap_cons, if_pos h1]; simp only; rw [b, ← h1, Int.add_comm, Int.add_sub_cancel]
    · by_cases h2 : p.2 = l
      · rw [if_neg h1, if_pos h2] at h
        obtain ⟨a, b, c⟩ := degL_zero (L := L) (l := l) (by omega)
        refine ⟨0, p, rfl, by simp [hasL, h2], fun j q hj => by omega, ?_, ?_⟩
        · unfold nextL at a ⊢
          rw [List.filter_cons, if_neg (by simp [h2]), a]; rfl
        · unfold outL at b ⊢
          rw [List.filterMap_cons, if_neg h1, if_pos h2]; simp only; rw [b, ← h2, Int.add_sub_cancel]
      · rw [if_neg h1, if_neg h2] at h
        obtain ⟨k, q, a, b, c, d, e⟩ := degL_one (L := L) (l := l) (fun q hq => hne q (List.mem_cons_of_mem _ hq)) (by omega)
        refine ⟨k + 1, q, a, b, fun j r hj hr => ?_, ?_, ?_⟩
        · cases j with
          | zero => simp only [List.getElem?_cons_zero, Option.some.injEq] at hr; subst hr; simp [hasL, h1, h2]
          | succ j => exact c j r (by omega) hr
        · unfold nextL at d ⊢
          rw [List.filter_cons, if_pos (by simp [h1, h2]), d]; rfl
        · unfold outL at e ⊢
          rw [List.filterMap_cons, if_neg h1, if_neg h2]; exact e

/-! ### the tree of a code -/
def decF (f : Int → Int) (l x : Int) : Int → Int := fun v => (if v = x then (if v = l then f v - 1 else f v) - 1 else if v = l then f v - 1 else f v)
def prGo (n : Nat) : List Int → (Int → Int) → List (Int × Int) → Option (List (Int × Int))
  | [], _, out => some out
  | x :: c, f, out => if leafOf n f < n then prGo n c (decF f (leafOf n f) x) (out ++ [mkP (leafOf n f) x]) else none
def chkPr (n : Nat) (c : List Int) : Bool := match prGo n (c ++ [(n : Int) - 1]) (cntL c) [] with
  | none => false
  | some ps => treeGo n c (cntL c) [] == some (ps.foldl putL [])
set_option maxRecDepth 1000000 in
theorem pr_all2 : allCode (chkPr 2) 2 0 [] = true := by decide +kernel
set_option maxRecDepth 1000000 in
theorem pr_all3 : allCode (chkPr 3) 3 1 [] = true := by decide +kernel
set_option maxRecDepth 1000000 in
theorem pr_all4 : allCode (chkPr 4) 4 2 [] = true := by decide +kernel
set_option maxRecDepth 1000000 in
theorem pr_all5 : allCode (chkPr 5) 5 3 [] = true := by decide +kernel
set_option maxRecDepth 1000000 in
theorem pr_all6 : allCode (chkPr 6) 6 4 [] = true := by decide +kernel
theorem pr_chk {m : Nat} (h2 : 2 ≤ m) (h6 : m ≤ 6) {c : List Int} (hc : codeB m c = true) : chkPr m c = true := by
  unfold codeB at hc
  rw [Bool.and_eq_true, decide_eq_true_eq, List.all_eq_true] at hc
  obtain ⟨hl, hx⟩ := hc
  have hx' : ∀ x, x ∈ c → 0 ≤ x ∧ x < (m : Int) := fun x h => by
    have := hx x h
    rw [Bool.and_eq_true, decide_eq_true_eq, decide_eq_true_eq] at this
    exact this
  have hm : m = 2 ∨ m = 3 ∨ m = 4 ∨ m = 5 ∨ m = 6 := by omega
  rcases hm with rfl | rfl | rfl | rfl | rfl
  · simpa using allCode_ok 0 [] c pr_all2 (by omega) hx'
  · simpa using allCode_ok 1 [] c pr_all3 (by omega) hx'
  · simpa using allCode_ok 2 [] c pr_all4 (by omega) hx'
  · simpa using allCode_ok 3 [] c pr_all5 (by omega) hx'
  · simpa using allCode_ok 4 [] c pr_all6 (by omega) hx'
theorem putL_perm (L : List (Int × Int)) (p : Int × Int) : (putL L p).Perm (p :: L) := by
  unfold putL
  have h := List.perm_middle (a := p) (l₁ := L.take (putPos L p L.length)) (l₂ := L.drop (putPos L p L.length))
  rw [List.take_append_drop] at h
  exact h
theorem fold_perm : ∀ (ps out : List (Int × Int)), (ps.foldl putL out).Perm (ps ++ out)
  | [], out => List.Perm.refl _
  | p :: ps, out => by
    rw [List.foldl_cons]
    refine (fold_perm ps (putL out p)).trans ?_
    refine (List.Perm.append_left ps (putL_perm out p)).trans ?_
    exact List.perm_middle
/-- what the program's pairs come to, sorted -/
theorem pr_tree {m : Nat} {c : List Int} (h : codeOk (m : Int) c = true) : ∃ ps L, prGo m (c ++ [(m : Int) - 1]) (cntL c) [] = some ps ∧ treeOfCode m c = some L ∧ L.Perm ps ∧ linksOk m L = true := by
  obtain ⟨m', e, h2, h6, hb⟩ := codeOk_t h
  obtain rfl : m = m' := by omega
  obtain ⟨L, t1, t2, t3, _⟩ := tree_of_code h
  have hc := pr_chk h2 h6 hb
  unfold chkPr at hc
  cases hp : prGo m (c ++ [(m : Int) - 1]) (cntL c) [] with
  | none => rw [hp] at hc; cases hc
  | some ps =>
    rw [hp] at hc
    simp only [beq_iff_eq] at hc
    rw [t2] at hc
    injection hc with hc
    refine ⟨ps, L, rfl, t1, ?_, t3⟩
    rw [hc]
    have := fold_perm ps []
    rwa [List.append_nil] at this
/-- sorted pairs are one list -/
theorem sorted_is {m : Nat} {L D : List (Int × Int)} (hL : linksOk (m : Int) L = true) (hp : D.Perm L) (hs : D.Pairwise fun p q => gtP p q = false) : D = L := by
  obtain ⟨m', e, h2, h6, hsh, _⟩ := linksOk_t hL
  obtain rfl : m = m' := by omega
  have hsl := shape_sorted h6 hsh
  have hin : ∀ p, p ∈ L → InP m p := fun p hm => shape_in hsh hm
  have hnd : L.Pairwise fun p q => p ≠ q := hsl.imp fun {p q} hlt e => by subst e; omega
  have hndD : D.Pairwise fun p q => p ≠ q := hp.symm.pairwise hnd (fun {a b} h => h.symm)
  have hkD : D.Pairwise fun p q => keyP p < keyP q := (hs.and hndD).imp_of_mem fun {p q} hpm hqm ⟨a, b⟩ => by
    obtain ⟨p0, p1, p2⟩ := hin p (hp.mem_iff.1 hpm)
    obtain ⟨q0, q1, q2⟩ := hin q (hp.mem_iff.1 hqm)
    have hg : gtP q p = true := by
      cases hg : gtP q p with
      | true => rfl
      | false => exact absurd (gtP_asym a hg) b
    exact (gtP_key h6 q0 q1 q2 p0 p1 p2).1 hg
  exact (sub_sorted L D hsl hkD fun p hm => hp.mem_iff.1 hm).eq_of_length hp.length_eq
theorem prGo_step {n : Nat} {x : Int} {c : List Int} {f : Int → Int} {out ps : List (Int × Int)} (h : prGo n (x :: c) f out = some ps) : leafOf n f < n ∧ prGo n c (decF f (leafOf n f) x) (out ++ [mkP (leafOf n f) x]) = some ps := by
  rw [prGo] at h
  split at h
  · rename_i hl; exact ⟨hl, h⟩
  · cases h
theorem prGo_end {n : Nat} {f : Int → Int} {out ps : List (Int × Int)} (h : prGo n [] f out = some ps) : ps = out := by
  rw [prGo] at h; injection h with h; exact h.symm
end Go.Proofs.YtimccjmphdkbjaaDoor
