/- Codes of trees: each tree has one code, and each code is that of one tree. Plain mathematics, from the finite facts. -/
import Derived.Test.YtimccjmphdkbjaaDoorPcM
import Derived.Test.YtimccjmphdkbjaaDoorPcK
import Derived.Test.YtimccjmphdkbjaaDoorPcL
import Derived.Test.YtimccjmphdkbjaaDoorCpN
set_option linter.unusedVariables false
set_option linter.unusedSimpArgs false
namespace Go.Proofs.YtimccjmphdkbjaaDoor
open Go.RowKit

/-! ### lists in order are lists that were looked at -/
theorem gtP_key {n : Nat} (hn : n ≤ 6) {p q : Int × Int} (p0 : 0 ≤ p.1) (p1 : p.1 < p.2) (p2 : p.2 < n) (q0 : 0 ≤ q.1) (q1 : q.1 < q.2) (q2 : q.2 < n) : gtP p q = true ↔ keyP q < keyP p := by
  unfold gtP keyP
  simp only [Bool.or_eq_true, Bool.and_eq_true, decide_eq_true_eq]
  omega
def InP (n : Nat) (p : Int × Int) : Prop := 0 ≤ p.1 ∧ p.1 < p.2 ∧ p.2 < n
theorem shape_at {n : Nat} {L : List (Int × Int)} (h : shapeB n L = true) : L.length + 1 = n ∧ ∀ k, k < L.length → okAt n L k = true := by
  unfold shapeB at h
  rw [Bool.and_eq_true, decide_eq_true_eq, List.all_eq_true] at h
  exact ⟨h.1, fun k hk => h.2 k (List.mem_range.2 hk)⟩
theorem okAt_iff {n : Nat} {L : List (Int × Int)} {k : Nat} : okAt n L k = true ↔ InP n (L.getD k (0, 0)) ∧ (k = 0 ∨ gtP (L.getD k (0, 0)) (L.getD (k - 1) (0, 0)) = true) := by
  unfold okAt InP
  simp only [Bool.and_eq_true, Bool.or_eq_true, decide_eq_true_eq]
theorem getD_some {L : List (Int × Int)} {k : Nat} {p : Int × Int} (h : L[k]? = some p) : L.getD k (0, 0) = p := by
  rw [List.getD_eq_getElem?_getD, h]; rfl
theorem shape_in {n : Nat} {L : List (Int × Int)} (h : shapeB n L = true) {p : Int × Int} (hp : p ∈ L) : InP n p := by
  obtain ⟨k, hk, e⟩ := List.mem_iff_getElem.1 hp
  have h1 := (okAt_iff.1 ((shape_at h).2 k hk)).1
  rw [getD_some (p := p) (by rw [List.getElem?_eq_getElem hk, e])] at h1
  exact h1
theorem shape_sorted {n : Nat} (hn : n ≤ 6) {L : List (Int × Int)} (h : shapeB n L = true) : L.Pairwise fun p q => keyP p < keyP q := by
  have key : ∀ d i : Nat, i + (d + 1) < L.length → keyP (L.getD i (0, 0)) < keyP (L.getD (i + (d + 1)) (0, 0)) := by
    have step : ∀ i : Nat, i + 1 < L.length → keyP (L.getD i (0, 0)) < keyP (L.getD (i + 1) (0, 0)) := fun i hi => by
      have h1 := okAt_iff.1 ((shape_at h).2 (i + 1) hi)
      have h0 := okAt_iff.1 ((shape_at h).2 i (by omega))
      rcases h1.2 with e | e
      · omega
      · rw [Nat.add_sub_cancel] at e
        exact (gtP_key hn h1.1.1 h1.1.2.1 h1.1.2.2 h0.1.1 h0.1.2.1 h0.1.2.2).1 e
    intro d
    induction d with
    | zero => exact fun i hi => step i hi
    | succ d ih =>
      intro i hi
      have h1 := ih i (by omega)
      have h2 := step (i + (d + 1)) (by omega)
      rw [show i + (d + 1 + 1) = i + (d + 1) + 1 from by omega]
      omega
  rw [List.pairwise_iff_getElem]
  intro i j hi hj hij
  have h1 := key (j - i - 1) i (by omega)
  rw [show i + (j - i - 1 + 1) = j from by omega, getD_some (List.getElem?_eq_getElem hi), getD_some (List.getElem?_eq_getElem hj)] at h1
  exact h1
theorem sub_sorted : ∀ (B L : List (Int × Int)), B.Pairwise (fun p q => keyP p < keyP q) → L.Pairwise (fun p q => keyP p < keyP q) → (∀ p, p ∈ L → p ∈ B) → L.Sublist B
  | [], L, _, _, h => by
    cases L with
    | nil => exact .slnil
    | cons x xs => have := h x (by simp); cases this
  | b :: bs, [], _, _, _ => List.nil_sublist _
  | b :: bs, x :: xs, hB, hL, h => by
    rw [List.pairwise_cons] at hB hL
    by_cases e : x = b
    · subst e
      refine (sub_sorted bs xs hB.2 hL.2 fun p hp => ?_).cons_cons x
      rcases List.mem_cons.1 (h p (by simp [hp])) with e | e
      · subst e; have := hL.1 p hp; omega
      · exact e
    · refine (sub_sorted bs (x :: xs) hB.2 (List.pairwise_cons.2 hL) fun p hp => ?_).cons b
      rcases List.mem_cons.1 (h p hp) with e9 | e9
      · exfalso
        subst e9
        have hx : x ∈ bs := by
          rcases List.mem_cons.1 (h x (by simp)) with e8 | e8
          · exact absurd e8 e
          · exact e8
        have h1 := hB.1 x hx
        rcases List.mem_cons.1 hp with e7 | e7
        · exact e e7.symm
        · have := hL.1 p e7; omega
      · exact e9
theorem allSub_ok {α : Type} {P : List α → Bool} : ∀ (B : List α) (k : Nat) (acc L : List α), allSub P B k acc = true → L.Sublist B → L.length = k → P (acc ++ L) = true
  | B, 0, acc, L, h, _, hl => by
    have : L = [] := List.eq_nil_of_length_eq_zero hl
    subst this
    cases B <;> (simp only [allSub] at h; simpa using h)
  | [], k + 1, acc, L, _, hs, hl => by
    have : L = [] := List.sublist_nil.1 hs
    subst this; simp at hl
  | b :: bs, k + 1, acc, L, h, hs, hl => by
    simp only [allSub, Bool.and_eq_true] at h
    cases hs with
    | cons _ hs => exact allSub_ok bs (k + 1) acc L h.2 hs hl
    | cons_cons _ hs =>
      rename_i L'
      have := allSub_ok bs k (acc ++ [b]) L' h.1 hs (by simpa using hl)
      simpa using this
theorem allCode_ok {P : List Int → Bool} {n : Nat} : ∀ (k : Nat) (acc c : List Int), allCode P n k acc = true → c.length = k → (∀ x, x ∈ c → 0 ≤ x ∧ x < n) → P (acc ++ c) = true
  | 0, acc, c, h, hl, _ => by
    have : c = [] := List.eq_nil_of_length_eq_zero hl
    subst this; simpa [allCode] using h
  | k + 1, acc, c, h, hl, hc => by
    cases c with
    | nil => simp at hl
    | cons x c =>
      simp only [allCode, List.all_eq_true] at h
      have hx := hc x (by simp)
      have h1 := h x.toNat (List.mem_range.2 (by omega))
      rw [Int.toNat_of_nonneg hx.1] at h1
      have := allCode_ok k (acc ++ [x]) c h1 (by simpa using hl) fun y hy => hc y (by simp [hy])
      simpa using this
theorem base_sorted : ∀ n : Fin 7, (baseP n.val).Pairwise fun p q => keyP p < keyP q := by decide +kernel
theorem base_in {n : Nat} {p : Int × Int} (h : InP n p) : p ∈ baseP n := by
  obtain ⟨a, b⟩ := p
  obtain ⟨h0, h1, h2⟩ := h
  simp only at h0 h1 h2
  unfold baseP
  rw [List.mem_flatMap]
  refine ⟨a.toNat, List.mem_range.2 (by omega), List.mem_map.2 ⟨b.toNat, List.mem_filter.2 ⟨List.mem_range.2 (by omega), by simp; omega⟩, ?_⟩⟩
  rw [Int.toNat_of_nonneg h0, Int.toNat_of_nonneg (by omega)]
theorem tree_chk {n : Nat} (h2 : 2 ≤ n) (h6 : n ≤ 6) {L : List (Int × Int)} (hs : shapeB n L = true) : chkTree n L = true := by
  have hl := (shape_at hs).1
  have hsub := sub_sorted (baseP n) L (base_sorted ⟨n, by omega⟩) (shape_sorted h6 hs) fun p hp => base_in (shape_in hs hp)
  have key : ∀ k, n = k + 1 → allSub (chkTree n) (baseP n) k [] = true → chkTree n L = true := fun k hk h => by
    have := allSub_ok _ _ _ _ h hsub (by omega)
    simpa using this
  rcases (by omega : n = 2 ∨ n = 3 ∨ n = 4 ∨ n = 5 ∨ n = 6) with rfl | rfl | rfl | rfl | rfl
  · exact key 1 rfl tree_all2
  · exact key 2 rfl tree_all3
  · exact key 3 rfl tree_all4
  · exact key 4 rfl tree_all5
  · exact key 5 rfl tree_all6
theorem code_chk {n : Nat} (h2 : 2 ≤ n) (h6 : n ≤ 6) {c : List Int} (hc : codeB n c = true) : chkCode n c = true := by
  unfold codeB at hc
  simp only [Bool.and_eq_true, decide_eq_true_eq, List.all_eq_true] at hc
  have key : ∀ k, n = k + 2 → allCode (chkCode n) n k [] = true → chkCode n c = true := fun k hk h => by
    have := allCode_ok _ _ _ h (by omega) hc.2
    simpa using this
  rcases (by omega : n = 2 ∨ n = 3 ∨ n = 4 ∨ n = 5 ∨ n = 6) with rfl | rfl | rfl | rfl | rfl
  · exact key 0 rfl code_all2
  · exact key 1 rfl code_all3
  · exact key 2 rfl code_all4
  · exact key 3 rfl code_all5
  · exact key 4 rfl code_all6
/-! ### lists of pairs as nets -/
theorem lw_len (L : List (Int × Int)) : (lw L).length = L.length := List.length_map _
theorem lw_net {n : Nat} (h2 : 2 ≤ n) (h6 : n ≤ 6) {L : List (Int × Int)} (hs : shapeB n L = true) : NetIs (n : Int) (lw L) := by
  have hl := (shape_at hs).1
  refine ⟨by omega, by omega, by rw [lw_len]; omega, fun x hx => ?_⟩
  obtain ⟨p, hp, rfl⟩ := List.mem_map.1 hx
  obtain ⟨a, b, c⟩ := shape_in hs hp
  simp only; omega
theorem wvs_on {n : Nat} {ws : List Wy} (hn : NetIs (n : Int) ws) (s : Int) : ∀ k, OnWay ws s 0 (wvs ws s k)
  | 0 => by
    have h2 := hn.lo
    have := OnWay.start (s := s) hn (p := 0) (Int.le_refl 0) (by omega)
    simpa [wvs] using this
  | k + 1 => by rw [wvs]; exact (waveTo_ok hn (wvs_on hn s k) ws.length).1
theorem joins_wvs {n : Nat} {ws : List Wy} (hn : NetIs (n : Int) ws) {s : Int} (he : waveTo ws s (wvs ws s 5) ws.length = wvs ws s 5) : joins ws s (allPl n) = (wvs ws s 5 == 2 ^ n - 1) := by
  have h2 := hn.lo
  have h6 := hn.hi
  have hp := pow_bd (n : Int) 6 (by omega)
  rw [Int.toNat_natCast] at hp
  have hR := (wave_end hn (wvs_on hn s 5) he).eq
  have hal : allPl (n : Int) = 2 ^ n - 1 := by unfold allPl; rw [Int.toNat_natCast]
  have hpl : (2 : Int) ^ n ≥ 4 := by
    have h9 := Nat.pow_le_pow_right (n := 2) (by omega) (show 2 ≤ n by omega)
    have e9 : ((2 : Int) ^ n) = ((2 ^ n : Nat) : Int) := by simp
    omega
  have hb0 : bit (allPl (n : Int)) 0 = true := by rw [allPl_bit (Int.le_refl 0) (by omega)]; exact decide_eq_true (by omega)
  rw [joins_at (k := 0) (by omega) (by omega) (Int.le_refl 0) hb0 (fun j a b => by omega), ← hR]
  have hri := wvs_on hn s 5
  have hin : ∀ q, 0 ≤ q → bit (wvs ws s 5) q = true → bit (allPl (n : Int)) q = true := fun q hq hb => by
    rw [allPl_bit hq (by omega)]
    exact hri.least (fun q => decide (q < (n : Int))) (decide_eq_true (by omega)) (fun k x hx _ => by
      have := hn.ok x (List.mem_of_getElem? hx)
      show decide (x.a < (n : Int)) = decide (x.b < (n : Int))
      rw [decide_eq_true (by omega : x.a < (n : Int)), decide_eq_true (by omega : x.b < (n : Int))]) q hq hb
  rw [Bool.eq_iff_iff, beq_iff_eq, beq_iff_eq, ← hal, idiff_zero (by omega)]
  constructor
  · intro h
    refine set_ext hri.lo (by omega) fun q hq => ?_
    rw [Bool.eq_iff_iff]
    exact ⟨hin q hq, h q hq⟩
  · intro h q hq hb; rw [h]; exact hb
/-! ### what the functions answer -/
noncomputable def linksOk (n : Int) (L : List (Int × Int)) : Bool := decide (2 ≤ n) && (decide (n ≤ 6) && (shapeB n.toNat L && joins (lw L) (full L.length) (allPl n)))
def codeOk (n : Int) (c : List Int) : Bool := decide (2 ≤ n) && (decide (n ≤ 6) && codeB n.toNat c)
noncomputable def codeOf (n : Int) (L : List (Int × Int)) : Option (List Int) := if linksOk n L = true then codeGo n.toNat 6 L [] else none
def treeOfCode (n : Int) (c : List Int) : Option (List (Int × Int)) := if codeOk n c = true then treeGo n.toNat c (cntL c) [] else none
def treesMany (n : Int) : Int := if 2 ≤ n ∧ n ≤ 6 then n ^ (n - 2).toNat else -1
theorem linksOk_t {n : Int} {L : List (Int × Int)} (h : linksOk n L = true) : ∃ m : Nat, n = m ∧ 2 ≤ m ∧ m ≤ 6 ∧ shapeB m L = true ∧ joins (lw L) (full L.length) (allPl m) = true := by
  unfold linksOk at h
  simp only [Bool.and_eq_true, decide_eq_true_eq] at h
  obtain ⟨h2, h6, hs, hj⟩ := h
  obtain ⟨m, rfl⟩ := Int.eq_ofNat_of_zero_le (show 0 ≤ n by omega)
  rw [Int.toNat_natCast] at hs
  exact ⟨m, rfl, by omega, by omega, hs, hj⟩
theorem linksOk_mk {m : Nat} {L : List (Int × Int)} (h2 : 2 ≤ m) (h6 : m ≤ 6) (hs : shapeB m L = true) (hj : joins (lw L) (full L.length) (allPl m) = true) : linksOk m L = true := by
  unfold linksOk
  rw [decide_eq_true (by omega : (2 : Int) ≤ m), decide_eq_true (by omega : (m : Int) ≤ 6), Int.toNat_natCast, hs, hj]; rfl
theorem codeOk_t {n : Int} {c : List Int} (h : codeOk n c = true) : ∃ m : Nat, n = m ∧ 2 ≤ m ∧ m ≤ 6 ∧ codeB m c = true := by
  unfold codeOk at h
  simp only [Bool.and_eq_true, decide_eq_true_eq] at h
  obtain ⟨h2, h6, hs⟩ := h
  obtain ⟨m, rfl⟩ := Int.eq_ofNat_of_zero_le (show 0 ≤ n by omega)
  rw [Int.toNat_natCast] at hs
  exact ⟨m, rfl, by omega, by omega, hs⟩
theorem codeOk_mk {m : Nat} {c : List Int} (h2 : 2 ≤ m) (h6 : m ≤ 6) (hc : codeB m c = true) : codeOk m c = true := by
  unfold codeOk
  rw [decide_eq_true (by omega : (2 : Int) ≤ m), decide_eq_true (by omega : (m : Int) ≤ 6), Int.toNat_natCast, hc]; rfl
/-- each tree has a code, of which it is the tree -/
theorem code_of_tree {m : Nat} {L : List (Int × Int)} (h : linksOk (m : Int) L = true) : ∃ c, codeOf m L = some c ∧ codeGo m 6 L [] = some c ∧ codeOk m c = true ∧ treeOfCode m c = some L ∧ ∀ v : Nat, v < m → degL L v = cntL c v := by
  obtain ⟨m', e, h2, h6, hs, hj⟩ := linksOk_t h
  obtain rfl : m = m' := by omega
  have hc := tree_chk h2 h6 hs
  have hn := lw_net h2 h6 hs
  unfold chkTree at hc
  rw [Bool.and_eq_true, beq_iff_eq] at hc
  obtain ⟨hw, hc⟩ := hc
  have hj2 := joins_wvs hn (s := full L.length) (by rw [lw_len]; exact hw)
  rw [hj] at hj2
  rw [← hj2] at hc
  cases hg : codeGo m 6 L [] with
  | none => rw [hg] at hc; simp at hc
  | some c =>
    rw [hg] at hc
    simp only [Bool.not_true, Bool.false_or, Bool.and_eq_true, beq_iff_eq, List.all_eq_true, List.mem_range] at hc
    obtain ⟨h1, h3, h4⟩ := hc
    have hco := codeOk_mk h2 h6 h1
    refine ⟨c, by unfold codeOf; rw [if_pos h, Int.toNat_natCast, hg], rfl, hco, by unfold treeOfCode; rw [if_pos hco, Int.toNat_natCast, h3], h4⟩
/-- each code is that of its tree -/
theorem tree_of_code {m : Nat} {c : List Int} (h : codeOk (m : Int) c = true) : ∃ L, treeOfCode m c = some L ∧ treeGo m c (cntL c) [] = some L ∧ linksOk m L = true ∧ codeOf m L = some c ∧ ∀ v : Nat, v < m → (degL L v == 1) = !(c.contains (v : Int)) := by
  obtain ⟨m', e, h2, h6, hb⟩ := codeOk_t h
  obtain rfl : m = m' := by omega
  have hc := code_chk h2 h6 hb
  unfold chkCode at hc
  cases hg : treeGo m c (cntL c) [] with
  | none => rw [hg] at hc; simp at hc
  | some L =>
    rw [hg] at hc
    simp only [Bool.and_eq_true, beq_iff_eq, List.all_eq_true, List.mem_range] at hc
    obtain ⟨⟨hs, hv⟩, hw, hgo, h4⟩ := hc
    have hn := lw_net h2 h6 hs
    have hj2 := joins_wvs hn (s := full L.length) (by rw [lw_len]; exact hw)
    rw [hv, beq_self_eq_true] at hj2
    have hlo := linksOk_mk h2 h6 hs hj2
    exact ⟨L, by unfold treeOfCode; rw [if_pos h, Int.toNat_natCast, hg], rfl, hlo, by unfold codeOf; rw [if_pos hlo, Int.toNat_natCast, hgo], h4⟩
/-- all places at one are a tree -/
theorem star_ok {m : Nat} (h2 : 2 ≤ m) (h6 : m ≤ 6) : linksOk m (starL m) = true := by
  obtain ⟨a, b, c⟩ := star_chk ⟨m, by omega⟩ h2
  simp only at a b c
  have hn := lw_net h2 h6 a
  refine linksOk_mk h2 h6 a ?_
  rw [joins_wvs hn (by rw [lw_len]; exact b), c, beq_self_eq_true]
theorem many_fin {m : Nat} {ws : List Wy} (hn : NetIs (m : Int) ws) : ∀ K : Nat, (∀ s : Nat, s < K → waveTo ws s (wvs ws s 5) ws.length = wvs ws s 5) → manyTo m ws K = manyC m ws K
  | 0, _ => rfl
  | K + 1, h => by
    rw [manyTo, manyC, many_fin hn K fun s hs => h s (by omega), joins_wvs hn (h K (by omega))]
/-- there are as many trees as codes -/
theorem kws_trees {m : Nat} (h2 : 2 ≤ m) (h4 : m ≤ 4) : manyOf m (kws m) = (m : Int) ^ (m - 2) := by
  have hnk := kws_net ⟨m, by omega⟩ h2
  simp only at hnk
  have hl := kws_len ⟨m, by omega⟩
  simp only at hl
  have hl6 : (kws m).length ≤ 6 := by
    rw [hl]
    rcases (by omega : m = 2 ∨ m = 3 ∨ m = 4) with rfl | rfl | rfl <;> decide
  unfold manyOf
  rw [if_pos hnk, many_fin (netOk_t hnk) _ fun s hs => kws_fix ⟨m, by omega⟩ ⟨s, Nat.lt_of_lt_of_le hs (Nat.le_trans (Nat.pow_le_pow_right (by decide) hl6) (by decide))⟩ hs]
  exact kws_many ⟨m, by omega⟩ h2
end Go.Proofs.YtimccjmphdkbjaaDoor
