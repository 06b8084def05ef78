/- The library's insertion sort by a comparison, and its comparison of numbers, at this program's numbers. The order of the ways by their costs, and of equal costs by their numbers; and the set that is taken in that order. Plain mathematics. -/
import Derived.Shelf.SlSortCmp.Insertion
import Derived.Shelf.SlicesG.Cmp
import Derived.Test.YthadehgpeafniaaProg
import Derived.Test.YthadehgpeafniaaMA
import Derived.Sort.LotA
set_option linter.unusedSimpArgs false
set_option linter.unusedVariables false
namespace Go.Proofs.Ythadehgpeafniaa
open Go.Shelf
end Go.Proofs.Ythadehgpeafniaa
namespace Go.Proofs.Ythadehgpeafniaa
open Go.RowKit

/-! ### the set that is taken -/
/-- way k is looked at: it is taken if its places are wanted, and not joined yet -/
noncomputable def look1 (ws : List Wy) (am : Int) (k : Nat) (s : Int) : Int := match ws[k]? with
  | some x => if bit am x.a = true ∧ bit am x.b = true ∧ bit (reach ws s x.a) x.b = false then ior s (2 ^ k) else s
  | none => s
theorem look1_yes {ws : List Wy} {am s : Int} {k : Nat} {x : Wy} (hx : ws[k]? = some x) (ha : bit am x.a = true) (hb : bit am x.b = true) (hr : bit (reach ws s x.a) x.b = false) : look1 ws am k s = ior s (2 ^ k) := by
  rw [look1, hx]; simp only; rw [if_pos ⟨ha, hb, hr⟩]
theorem look1_no {ws : List Wy} {am s : Int} {k : Nat} {x : Wy} (hx : ws[k]? = some x) (h : ¬ (bit am x.a = true ∧ bit am x.b = true ∧ bit (reach ws s x.a) x.b = false)) : look1 ws am k s = s := by
  rw [look1, hx]; simp only; rw [if_neg h]
/-- the ways of cost c among the first k -/
noncomputable def spRow (ws : List Wy) (am c s : Int) : Nat → Int
  | 0 => s
  | k + 1 => match ws[k]? with
    | some x => if x.c = c then look1 ws am k (spRow ws am c s k) else spRow ws am c s k
    | none => spRow ws am c s k
theorem spRow_yes {ws : List Wy} {am c s : Int} {k : Nat} {x : Wy} (hx : ws[k]? = some x) (hc : x.c = c) : spRow ws am c s (k + 1) = look1 ws am k (spRow ws am c s k) := by
  rw [spRow, hx]; simp only; rw [if_pos hc]
theorem spRow_no {ws : List Wy} {am c s : Int} {k : Nat} {x : Wy} (hx : ws[k]? = some x) (hc : x.c ≠ c) : spRow ws am c s (k + 1) = spRow ws am c s k := by
  rw [spRow, hx]; simp only; rw [if_neg hc]
/-- the ways of costs below c -/
noncomputable def spTo (ws : List Wy) (am : Int) : Nat → Int
  | 0 => 0
  | c + 1 => spRow ws am c (spTo ws am c) ws.length
noncomputable def span (ws : List Wy) (am : Int) : Int := spTo ws am 10

/-- one after the other, in the order of a list -/
noncomputable def lookL (ws : List Wy) (am : Int) : List Nat → Int → Int
  | [], s => s
  | k :: L, s => lookL ws am L (look1 ws am k s)
theorem lookL_append (ws : List Wy) (am : Int) : ∀ (L L' : List Nat) (s : Int), lookL ws am (L ++ L') s = lookL ws am L' (lookL ws am L s)
  | [], _, _ => rfl
  | k :: L, L', s => lookL_append ws am L L' _
def costIs (ws : List Wy) (c : Int) (k : Nat) : Bool := match ws[k]? with
  | some x => decide (x.c = c)
  | none => false
theorem spRow_list (ws : List Wy) (am c s : Int) : ∀ k, spRow ws am c s k = lookL ws am ((List.range k).filter (costIs ws c)) s
  | 0 => rfl
  | k + 1 => by
    rw [List.range_succ, List.filter_append, lookL_append, ← spRow_list ws am c s k]
    cases hx : ws[k]? with
    | none => simp [spRow, hx, costIs, lookL]
    | some x =>
      by_cases hc : x.c = c
      · rw [spRow_yes hx hc]; simp [hx, costIs, lookL, hc]
      · rw [spRow_no hx hc]; simp [hx, costIs, lookL, hc]
def ordL (ws : List Wy) : Nat → List Nat
  | 0 => []
  | c + 1 => ordL ws c ++ (List.range ws.length).filter (costIs ws c)
theorem spTo_list (ws : List Wy) (am : Int) : ∀ c, spTo ws am c = lookL ws am (ordL ws c) 0
  | 0 => rfl
  | c + 1 => by rw [ordL, lookL_append, ← spTo_list ws am c, ← spRow_list]; rfl

/-! ### the order -/
/-- way j comes before way k -/
def Bef (ws : List Wy) (j k : Nat) : Prop := ∃ x y, ws[j]? = some x ∧ ws[k]? = some y ∧ (x.c < y.c ∨ (x.c = y.c ∧ j < k))
theorem Bef.asym {ws : List Wy} {j k : Nat} (h : Bef ws j k) (h' : Bef ws k j) : False := by
  obtain ⟨x, y, hx, hy, h1⟩ := h
  obtain ⟨y', x', hy', hx', h2⟩ := h'
  rw [hx] at hx'; injection hx' with hx'; subst hx'
  rw [hy] at hy'; injection hy' with hy'; subst hy'
  omega
/-- a list of all ways in that order -/
structure IsOrd (ws : List Wy) (L : List Nat) : Prop where
  ord : L.Pairwise (Bef ws)
  all : ∀ k, k ∈ L ↔ k < ws.length
theorem sorted_one {R : Nat → Nat → Prop} (hR : ∀ j k, R j k → R k j → False) : ∀ (L L' : List Nat), L.Pairwise R → L'.Pairwise R → (∀ k, k ∈ L ↔ k ∈ L') → L = L'
  | [], [], _, _, _ => rfl
  | [], b :: _, _, _, h => by have := (h b).2 (List.mem_cons_self ..); cases this
  | a :: _, [], _, _, h => by have := (h a).1 (List.mem_cons_self ..); cases this
  | a :: L, b :: L', h1, h2, h => by
    rw [List.pairwise_cons] at h1 h2
    have hab : a = b := by
      apply Classical.byContradiction
      intro hne
      have ha : a ∈ L' := by
        have := (h a).1 (List.mem_cons_self ..)
        rcases List.mem_cons.1 this with h | h
        · exact absurd h hne
        · exact h
      have hb : b ∈ L := by
        have := (h b).2 (List.mem_cons_self ..)
        rcases List.mem_cons.1 this with h | h
        · exact absurd h.symm hne
        · exact h
      exact hR _ _ (h1.1 b hb) (h2.1 a ha)
    subst hab
    have hn1 : a ∉ L := fun hm => hR _ _ (h1.1 a hm) (h1.1 a hm)
    have hn2 : a ∉ L' := fun hm => hR _ _ (h2.1 a hm) (h2.1 a hm)
    rw [sorted_one hR L L' h1.2 h2.2 fun k => ⟨fun hk => by
      rcases List.mem_cons.1 ((h k).1 (List.mem_cons_of_mem _ hk)) with e | e
      · subst e; exact absurd hk hn1
      · exact e, fun hk => by
      rcases List.mem_cons.1 ((h k).2 (List.mem_cons_of_mem _ hk)) with e | e
      · subst e; exact absurd hk hn2
      · exact e⟩]
theorem costIs_iff {ws : List Wy} {c : Int} {k : Nat} : costIs ws c k = true ↔ ∃ x, ws[k]? = some x ∧ x.c = c := by
  unfold costIs
  cases hx : ws[k]? with
  | none => simp
  | some x => simp
theorem ordL_mem {n : Int} {ws : List Wy} (hn : NetIs n ws) (k : Nat) : ∀ c : Nat, k ∈ ordL ws c ↔ ∃ x, ws[k]? = some x ∧ x.c < c
  | 0 => by
    constructor
    · intro h; cases h
    · rintro ⟨x, hx, h⟩
      have := hn.at_ hx
      omega
  | c + 1 => by
    rw [ordL, List.mem_append, ordL_mem hn k c, List.mem_filter, costIs_iff, List.mem_range]
    constructor
    · rintro (⟨x, hx, h⟩ | ⟨_, x, hx, h⟩)
      · exact ⟨x, hx, by omega⟩
      · exact ⟨x, hx, by omega⟩
    · rintro ⟨x, hx, h⟩
      by_cases hc : x.c < c
      · exact .inl ⟨x, hx, hc⟩
      · exact .inr ⟨(List.getElem?_eq_some_iff.1 hx).1, x, hx, by omega⟩
theorem ordL_ord {n : Int} {ws : List Wy} (hn : NetIs n ws) : ∀ c : Nat, (ordL ws c).Pairwise (Bef ws)
  | 0 => List.Pairwise.nil
  | c + 1 => by
    rw [ordL, List.pairwise_append]
    refine ⟨ordL_ord hn c, ?_, fun j hj k hk => ?_⟩
    · refine ((List.pairwise_lt_range (n := ws.length)).filter _).imp_of_mem fun {j k} hj hk hlt => ?_
      obtain ⟨x, hx, h1⟩ := costIs_iff.1 (List.mem_filter.1 hj).2
      obtain ⟨y, hy, h2⟩ := costIs_iff.1 (List.mem_filter.1 hk).2
      exact ⟨x, y, hx, hy, .inr ⟨by omega, hlt⟩⟩
    · obtain ⟨x, hx, h1⟩ := (ordL_mem hn j c).1 hj
      obtain ⟨y, hy, h2⟩ := costIs_iff.1 (List.mem_filter.1 hk).2
      exact ⟨x, y, hx, hy, .inl (by omega)⟩
theorem ordL_is {n : Int} {ws : List Wy} (hn : NetIs n ws) : IsOrd ws (ordL ws 10) := by
  refine ⟨ordL_ord hn 10, fun k => ?_⟩
  rw [ordL_mem hn]
  constructor
  · rintro ⟨x, hx, _⟩; exact (List.getElem?_eq_some_iff.1 hx).1
  · intro h
    refine ⟨_, List.getElem?_eq_getElem h, ?_⟩
    have := hn.at_ (List.getElem?_eq_getElem h)
    omega
theorem ord_span {n : Int} {ws : List Wy} (hn : NetIs n ws) {L : List Nat} (h : IsOrd ws L) (am : Int) : lookL ws am L 0 = span ws am := by
  have hi := ordL_is hn
  have : L = ordL ws 10 := sorted_one (fun _ _ => Bef.asym) _ _ h.ord hi.ord fun k => (h.all k).trans (hi.all k).symm
  rw [this, ← spTo_list]; rfl

/-! ### a stable sort of the numbers by costs brings that order -/
def costAt (ws : List Wy) (k : Nat) : Int := match ws[k % ws.length]? with
  | some x => x.c
  | none => 0
theorem costAt_is {ws : List Wy} {k : Nat} {x : Wy} (hx : ws[k]? = some x) : costAt ws k = x.c := by
  have hk := (List.getElem?_eq_some_iff.1 hx).1
  unfold costAt
  rw [Nat.mod_eq_of_lt hk, hx]
def ltC (ws : List Wy) (j k : Nat) : Bool := decide (costAt ws j < costAt ws k)
def lt2 (ws : List Wy) (j k : Nat) : Bool := decide (costAt ws j < costAt ws k ∨ (costAt ws j = costAt ws k ∧ j < k))
theorem lt2_swo (ws : List Wy) : Sort.SWO (lt2 ws) where
  irrefl := fun x => by simp [lt2]
  trans := fun x y z h1 h2 => by simp only [lt2, decide_eq_true_eq] at *; omega
  ntrans := fun x y z h1 h2 => by simp only [lt2, decide_eq_false_iff_not] at *; omega
theorem ltC_lt2 (ws : List Wy) {i e : Nat} (h : e < i) : ltC ws i e = lt2 ws i e := by
  unfold ltC lt2
  rw [Bool.eq_iff_iff, decide_eq_true_eq, decide_eq_true_eq]
  omega
theorem inner_alike (ws : List Wy) (i : Nat) : ∀ (j : Nat) (d : Array Nat), j < d.size → d[j]! = i → (∀ p, p < j → d[p]! < i) → Sort.insInner (ltC ws) 0 j d = Sort.insInner (lt2 ws) 0 j d
  | 0, _, _, _, _ => rfl
  | j + 1, d, hs, hj, hp => by
    have e : ltC ws d[j + 1]! d[j]! = lt2 ws d[j + 1]! d[j]! := by rw [hj]; exact ltC_lt2 ws (hp j (by omega))
    rw [Sort.insInner, Sort.insInner, e]
    split
    · refine inner_alike ws i j _ (by rw [Sort.size_swp]; omega) ?_ fun p hpj => ?_
      · rw [Sort.swp_right d (j + 1) j (by omega)]; exact hj
      · rw [Sort.swp_other d (j + 1) j p (by omega) (by omega)]; exact hp p (by omega)
    · rfl
/-- behind the inner loop: what lies above is as it was, what lies below came from below -/
theorem inner_keeps (lt : Nat → Nat → Bool) : ∀ (j : Nat) (d : Array Nat), j < d.size → (Sort.insInner lt 0 j d).size = d.size ∧ (∀ p, j < p → (Sort.insInner lt 0 j d)[p]! = d[p]!) ∧ ∀ p, p ≤ j → ∃ q, q ≤ j ∧ (Sort.insInner lt 0 j d)[p]! = d[q]!
  | 0, d, _ => ⟨rfl, fun _ _ => rfl, fun p hp => ⟨p, hp, rfl⟩⟩
  | j + 1, d, hs => by
    rw [Sort.insInner]
    split
    · obtain ⟨h1, h2, h3⟩ := inner_keeps lt j (Sort.swp d (j + 1) j) (by rw [Sort.size_swp]; omega)
      refine ⟨by rw [h1, Sort.size_swp], fun p hp => ?_, fun p hp => ?_⟩
      · rw [h2 p (by omega), Sort.swp_other d (j + 1) j p (by omega) (by omega)]
      · by_cases hpj : p ≤ j
        · obtain ⟨q, hq, he⟩ := h3 p hpj
          rw [he]
          by_cases hqj : q = j
          · subst hqj
            exact ⟨q + 1, by omega, Sort.swp_right d (q + 1) q (by omega)⟩
          · exact ⟨q, by omega, Sort.swp_other d (j + 1) j q (by omega) hqj⟩
        · have : p = j + 1 := by omega
          subst this
          rw [h2 (j + 1) (by omega), Sort.swp_left d (j + 1) j hs (by omega)]
          exact ⟨j, by omega, rfl⟩
    · exact ⟨rfl, fun _ _ => rfl, fun p hp => ⟨p, hp, rfl⟩⟩
theorem outer_go (lt : Nat → Nat → Bool) {m i : Nat} (h : i < m) (d : Array Nat) : Sort.insOuter lt 0 m i d = Sort.insOuter lt 0 m (i + 1) (Sort.insInner lt 0 i d) := by
  rw [Sort.insOuter, if_pos h]
theorem outer_end (lt : Nat → Nat → Bool) {m i : Nat} (h : ¬ i < m) (d : Array Nat) : Sort.insOuter lt 0 m i d = d := by
  rw [Sort.insOuter, if_neg h]
theorem outer_alike (ws : List Wy) (m : Nat) : ∀ (r i : Nat) (d : Array Nat), m - i = r → i ≤ m → d.size = m → (∀ p, i ≤ p → p < m → d[p]! = p) → (∀ p, p < i → d[p]! < i) → Sort.insOuter (ltC ws) 0 m i d = Sort.insOuter (lt2 ws) 0 m i d
  | 0, i, d, hr, hi, _, _, _ => by
    rw [outer_end _ (by omega), outer_end _ (by omega)]
  | r + 1, i, d, hr, hi, hs, hab, hbe => by
    rw [outer_go (ltC ws) (show i < m by omega), outer_go (lt2 ws) (show i < m by omega), inner_alike ws i i d (by omega) (hab i (Nat.le_refl _) (by omega)) hbe]
    obtain ⟨h1, h2, h3⟩ := inner_keeps (lt2 ws) i d (by omega)
    refine outer_alike ws m r (i + 1) _ (by omega) (by omega) (by rw [h1, hs]) (fun p hp hpm => ?_) (fun p hp => ?_)
    · rw [h2 p (by omega), hab p (by omega) hpm]
    · obtain ⟨q, hq, he⟩ := h3 p (by omega)
      rw [he]
      by_cases hqi : q = i
      · subst hqi; rw [hab q (Nat.le_refl _) (by omega)]; omega
      · have := hbe q (by omega); omega
/-- the row of numbers behind the sort -/
def sortd (ws : List Wy) : Array Nat := Sort.insertionSort (ltC ws) (Array.range ws.length) 0 ws.length
theorem range_at (m p : Nat) (h : p < m) : (Array.range m)[p]! = p := by
  rw [getElem!_pos (Array.range m) p (by simpa using h)]; simp
theorem sortd_is {ws : List Wy} : sortd ws = Sort.insertionSort (lt2 ws) (Array.range ws.length) 0 ws.length := by
  unfold sortd Sort.insertionSort
  by_cases h : ws.length = 0
  · rw [outer_end _ (by omega), outer_end _ (by omega)]
  · exact outer_alike ws ws.length _ 1 _ rfl (by omega) (by simp) (fun p _ hp => range_at _ p hp) (fun p hp => by
      have : p = 0 := by omega
      subst this; rw [range_at _ 0 (by omega)]; omega)
theorem sortd_ok (ws : List Wy) : (sortd ws).size = ws.length ∧ IsOrd ws (sortd ws).toList := by
  obtain ⟨⟨hs, _, hp⟩, hsort⟩ := Sort.insertionSort_holds (lt2_swo ws) (Array.range ws.length) 0 ws.length (Nat.zero_le _) (by simp)
  rw [← sortd_is] at hs hp hsort
  rw [Array.size_range] at hs
  have e1 : ((sortd ws).extract 0 ws.length).toList = (sortd ws).toList := by
    rw [show ws.length = (sortd ws).size from hs.symm, Array.extract_size]
  have e2 : ((Array.range ws.length).extract 0 ws.length).toList = List.range ws.length := by
    have : (Array.range ws.length).extract 0 ws.length = Array.range ws.length := by
      have h := Array.extract_size (xs := Array.range ws.length)
      rw [Array.size_range] at h; exact h
    rw [this, Array.toList_range]
  rw [e1, e2] at hp
  have hmem : ∀ k, k ∈ (sortd ws).toList ↔ k < ws.length := fun k => by rw [hp.mem_iff, List.mem_range]
  have hnd : (sortd ws).toList.Nodup := (hp.nodup_iff).2 List.nodup_range
  refine ⟨hs, ?_, hmem⟩
  rw [List.pairwise_iff_getElem]
  intro i j hi hj hij
  rw [Array.length_toList] at hi hj
  have h1 := hsort i j (Nat.zero_le _) hij (by omega)
  rw [getElem!_pos (sortd ws) i hi, getElem!_pos (sortd ws) j hj] at h1
  have hne : (sortd ws)[i] ≠ (sortd ws)[j] := by
    have := (List.pairwise_iff_getElem.1 hnd) i j (by simpa using hi) (by simpa using hj) hij
    simpa using this
  have hmi : (sortd ws)[i] < ws.length := (hmem _).1 (by simp)
  have hmj : (sortd ws)[j] < ws.length := (hmem _).1 (by simp)
  rw [Array.getElem_toList, Array.getElem_toList]
  generalize (sortd ws)[i] = p at *
  generalize (sortd ws)[j] = q at *
  obtain ⟨x, hx⟩ : ∃ x, ws[p]? = some x := ⟨_, List.getElem?_eq_getElem hmi⟩
  obtain ⟨y, hy⟩ : ∃ y, ws[q]? = some y := ⟨_, List.getElem?_eq_getElem hmj⟩
  refine ⟨x, y, hx, hy, ?_⟩
  unfold lt2 at h1
  rw [costAt_is hx, costAt_is hy, decide_eq_false_iff_not] at h1
  omega
/-- behind the first i of the order -/
noncomputable def ordTo (ws : List Wy) (am : Int) : Nat → Int
  | 0 => 0
  | i + 1 => look1 ws am (sortd ws)[i]! (ordTo ws am i)
theorem ordTo_list (ws : List Wy) (am : Int) : ∀ i, i ≤ ws.length → ordTo ws am i = lookL ws am ((sortd ws).toList.take i) 0
  | 0, _ => rfl
  | i + 1, h => by
    have hs := (sortd_ok ws).1
    rw [List.take_add_one, lookL_append, ← ordTo_list ws am i (by omega), Array.getElem?_toList, Array.getElem?_eq_getElem (by omega), ordTo, getElem!_pos (sortd ws) i (by omega)]
    rfl
theorem ordTo_all {n : Int} {ws : List Wy} (hn : NetIs n ws) (am : Int) : ordTo ws am ws.length = span ws am := by
  have h := sortd_ok ws
  rw [ordTo_list ws am _ (Nat.le_refl _), List.take_of_length_le (by rw [Array.length_toList]; omega)]
  exact ord_span hn h.2 am
theorem sortd_lt (ws : List Wy) (i : Nat) (h : i < ws.length) : (sortd ws)[i]! < ws.length := by
  have hs := sortd_ok ws
  rw [getElem!_pos (sortd ws) i (by omega)]
  exact (hs.2.all _).1 (by simp)
theorem look1_bd {ws : List Wy} {am s : Int} {k : Nat} (h0 : 0 ≤ s) (h1 : s ≤ full ws.length) : 0 ≤ look1 ws am k s ∧ look1 ws am k s ≤ full ws.length := by
  cases hx : ws[k]? with
  | none => rw [look1, hx]; exact ⟨h0, h1⟩
  | some x =>
    by_cases hc : bit am x.a = true ∧ bit am x.b = true ∧ bit (reach ws s x.a) x.b = false
    · rw [look1_yes hx hc.1 hc.2.1 hc.2.2]
      have hk := (List.getElem?_eq_some_iff.1 hx).1
      have h2 : 2 ^ (k + 1) ≤ 2 ^ ws.length := Nat.pow_le_pow_right (by omega) (by omega)
      have h3 : 2 ^ (k + 1) = 2 ^ k * 2 := Nat.pow_succ 2 k
      have h4 : 1 ≤ 2 ^ k := Nat.one_le_two_pow
      have e1 : ((2 : Int) ^ ws.length) = ((2 ^ ws.length : Nat) : Int) := by simp
      have e2 : ((2 : Int) ^ k) = ((2 ^ k : Nat) : Int) := by simp
      unfold full at *
      have := ior_bd s (2 ^ k) ws.length (by omega) (by omega)
      omega
    · rw [look1_no hx hc]; exact ⟨h0, h1⟩
theorem full_nn (m : Nat) : 0 ≤ full m := by
  unfold full
  have e1 : ((2 : Int) ^ m) = ((2 ^ m : Nat) : Int) := by simp
  have h4 : 1 ≤ 2 ^ m := Nat.one_le_two_pow
  omega
theorem ordTo_bd (ws : List Wy) (am : Int) : ∀ i, 0 ≤ ordTo ws am i ∧ ordTo ws am i ≤ full ws.length
  | 0 => ⟨Int.le_refl _, full_nn _⟩
  | i + 1 => look1_bd (ordTo_bd ws am i).1 (ordTo_bd ws am i).2
theorem spRow_bd {ws : List Wy} {am c s : Int} (h0 : 0 ≤ s) (h1 : s ≤ full ws.length) : ∀ k, 0 ≤ spRow ws am c s k ∧ spRow ws am c s k ≤ full ws.length
  | 0 => ⟨h0, h1⟩
  | k + 1 => by
    have ih := spRow_bd (am := am) (c := c) h0 h1 k
    cases hx : ws[k]? with
    | none => simp only [spRow, hx]; exact ih
    | some x =>
      by_cases hc : x.c = c
      · rw [spRow_yes hx hc]; exact look1_bd ih.1 ih.2
      · rw [spRow_no hx hc]; exact ih
theorem spTo_bd (ws : List Wy) (am : Int) : ∀ c, 0 ≤ spTo ws am c ∧ spTo ws am c ≤ full ws.length
  | 0 => ⟨Int.le_refl _, full_nn _⟩
  | c + 1 => spRow_bd (spTo_bd ws am c).1 (spTo_bd ws am c).2 _
end Go.Proofs.Ythadehgpeafniaa
