/- Trees between ends: told if roots are; at least a root, less than twice; no more than what hangs together between the ends; their paths join the ends. Plain mathematics. -/
import Derived.Test.YtcpefijmcajebaaDoorEnB
import Derived.Test.YtcpefijmcajebaaDoorMK
import Derived.Test.YtcpefijmcajebaaDoorMJ
set_option linter.unusedVariables false
set_option linter.unusedSimpArgs false
namespace Go.Proofs.YtcpefijmcajebaaDoor
open Go.RowKit

/-- the least end alone -/
def stE (e : Int) : Int := bits .and .i64 e (-e)
theorem stE_zero : stE 0 = 0 := by decide
theorem stE_is {m : Nat} {e : Int} (hm6 : m ≤ 6) (e0 : 0 ≤ e) (e1 : e < 2 ^ m) (he : e ≠ 0) : ∃ j : Nat, j < m ∧ stE e = 2 ^ j ∧ bit e j = true := by
  have hp64 := Nat.pow_le_pow_right (n := 2) (by omega) hm6
  have e2 : ((2 : Int) ^ m) = ((2 ^ m : Nat) : Int) := by simp
  obtain ⟨j, h1, h2, h3⟩ := low_bit (e := e) (by omega) (by omega)
  exact ⟨j, by have := set_sub e0 e1 h3; omega, h2, h3⟩
noncomputable def lnks (m : Nat) (ws : List Wy) (e : Int) : Option (List (Nat × Nat)) := lks (farF ws m) e m 6 (stE e)
theorem one_bd {m j : Nat} (h : j < m) : 0 ≤ (2 : Int) ^ j ∧ (2 : Int) ^ j < 2 ^ m := by
  have := Nat.pow_lt_pow_right (a := 2) (by omega) h
  have e3 : ((2 : Int) ^ j) = ((2 ^ j : Nat) : Int) := by simp
  have e4 : ((2 : Int) ^ m) = ((2 ^ m : Nat) : Int) := by simp
  have := Nat.one_le_two_pow (n := j)
  omega
theorem withp_none (j : Nat) : withp 0 j = 2 ^ j := by
  refine set_ext (ior_nn _ _) (by have := (one_bd (Nat.lt_succ_self j)).1; omega) fun q hq => ?_
  rw [withp_bit 0 j hq, bit_zero_, Bool.false_or, bit_pow j q hq]
theorem pop_one {m j : Nat} (hm6 : m ≤ 6) (h : j < m) : pop (2 ^ j) = 1 := by
  have := pop_place (r := 0) (j := (j : Int)) (Int.le_refl _) (by omega) (by omega) (by omega) (bit_zero_ _)
  rw [Int.toNat_natCast, show ior 0 (2 ^ j) = 2 ^ j from withp_none j, pop_zero] at this
  omega
theorem st_rc {m : Nat} {ws : List Wy} (hn : NetIs (m : Int) ws) {e : Int} (e0 : 0 ≤ e) (e1 : e < 2 ^ m) : rc ws (stE e) = 0 ∧ 0 ≤ stE e ∧ stE e < 2 ^ m ∧ (∀ q, 0 ≤ q → bit (stE e) q = true → bit e q = true) ∧ pop e ≤ pop (stE e) + 6 := by
  have h6 : m ≤ 6 := by have := hn.hi; omega
  by_cases he : e = 0
  · subst he
    rw [stE_zero]
    exact ⟨rc_none hn, Int.le_refl _, by have := (one_bd (Nat.lt_succ_self m)).1; omega, fun q _ h => h, by omega⟩
  · obtain ⟨j, hj, h1, h2⟩ := stE_is h6 e0 e1 he
    have hb := one_bd hj
    rw [h1]
    refine ⟨by rw [← withp_none]; exact rc_one hn hj, hb.1, hb.2, fun q hq h => ?_, ?_⟩
    · rw [bit_pow j q hq, decide_eq_true_eq] at h
      rw [h]; exact h2
    · have hpa := pop_sub (u := e) (s := allPl m) (fun q hq h => by rw [allPl_bit hq (by omega)]; have := set_sub e0 e1 h; simpa using this)
      rw [pop_allPl (by omega) (by omega)] at hpa
      have := pop_bd (2 ^ j)
      omega
/-- links told: there is a root, which costs no more -/
theorem lnks_rc {m : Nat} {ws : List Wy} (hn : NetIs (m : Int) ws) {e : Int} (e0 : 0 ≤ e) (e1 : e < 2 ^ m) {L : List (Nat × Nat)} (h : lnks m ws e = some L) : 0 ≤ rc ws e ∧ rc ws e ≤ sumL (farF ws m) L ∧ (L.length : Int) + pop (stE e) = pop e ∧ (∀ p, p ∈ L → p.1 < m ∧ p.2 < m) ∧ LinkOk e (stE e) L := by
  have hs := st_rc hn e0 e1
  have h1 := lks_rc hn L 6 (stE e) hs.2.1 (by rw [Int.toNat_natCast]; exact hs.2.2.1) (by omega) h
  have h2 := lks_len (by have := hn.hi; omega) L 6 (stE e) hs.2.1 hs.2.2.1 h
  exact ⟨h1.1, by omega, h2.1, h2.2, lks_ok L 6 _ h⟩
/-- edges that hang together: links are told, and cost no more -/
theorem lnks_le {m : Nat} {ws : List Wy} (hn : NetIs (m : Int) ws) {e : Int} (e0 : 0 ≤ e) (e1 : e < 2 ^ m) {F : List (Nat × Nat × Int)} (hc : Conn F (stE e) e) (hin : InE (farF ws m) e F) : ∃ L, lnks m ws e = some L ∧ sumL (farF ws m) L ≤ sumE F := by
  have hs := st_rc hn e0 e1
  exact prim_le (by have := hn.hi; omega) e0 e1 6 (stE e) F hs.2.1 hs.2.2.1 hs.2.2.2.1 (by have := hs.2.2.2.2; omega) hc hin
theorem lnks_end {m : Nat} {ws : List Wy} {e : Int} (h : stE e = e) : lnks m ws e = some [] := by
  unfold lnks; rw [h, lks_end]
/-- where there is a root, links are told, and cost less than twice as much -/
theorem lnks_told {m : Nat} {ws : List Wy} (hn : NetIs (m : Int) ws) {e : Int} (e0 : 0 ≤ e) (e1 : e < 2 ^ m) (h : 0 ≤ rc ws e) : ∃ L, lnks m ws e = some L ∧ ((pop e < 2 ∧ sumL (farF ws m) L = 0 ∧ rc ws e = 0) ∨ (2 ≤ pop e ∧ pop e ≤ 6 ∧ pop e * sumL (farF ws m) L ≤ (pop e - 1) * (2 * rc ws e))) := by
  have h6 : m ≤ 6 := by have := hn.hi; omega
  have hp64 := Nat.pow_le_pow_right (n := 2) (by omega) h6
  have e2 : ((2 : Int) ^ m) = ((2 ^ m : Nat) : Int) := by simp
  have hs := st_rc hn e0 e1
  by_cases hse : stE e = e
  · refine ⟨[], lnks_end hse, .inl ⟨?_, rfl, by rw [← hse]; exact hs.1⟩⟩
    by_cases he : e = 0
    · subst he; rw [pop_zero]; omega
    · obtain ⟨j, hj, h1, h2⟩ := stE_is h6 e0 e1 he
      rw [← hse, h1, pop_one h6 hj]; omega
  · have he : e ≠ 0 := fun g => by subst g; exact hse stE_zero
    obtain ⟨j, hj, h1, h2⟩ := stE_is h6 e0 e1 he
    have hdb := idiff_bd e (2 ^ j) e0
    have hjb := one_bd hj
    have hdj : ∀ q, 0 ≤ q → bit (2 ^ j) q = true → bit e q = true := fun q hq hb => by
      rw [bit_pow j q hq, decide_eq_true_eq] at hb
      rw [hb]; exact h2
    have hpp := pop_part e0 (by omega) hjb.1 (by omega) hdj
    rw [pop_one h6 hj] at hpp
    have hne : idiff e (2 ^ j) ≠ 0 := fun g => by
      refine hse ?_
      rw [h1]
      refine set_ext hjb.1 e0 fun q hq => ?_
      rw [Bool.eq_iff_iff]
      exact ⟨hdj q hq, (idiff_zero e0).1 g q hq⟩
    have hw : withp (idiff e (2 ^ j)) j = e := by
      refine set_ext (ior_nn _ _) e0 fun q hq => ?_
      rw [withp_bit _ j hq, bit_idiff, bit_pow j q hq]
      by_cases hqj : q = j
      · subst hqj; rw [h2]; simp
      · simp [hqj]
    obtain ⟨T, t1, t2, t3, t4⟩ := tour hn 6 (idiff e (2 ^ j)) j (by
      have hpa := pop_sub (u := e) (s := allPl m) (fun q hq h => by rw [allPl_bit hq (by omega)]; have := set_sub e0 e1 h; simpa using this)
      rw [pop_allPl (by omega) (by omega)] at hpa
      omega) hdb.1 (by rw [Int.toNat_natCast]; omega) hne hj (by rw [hw]; exact h)
    rw [hw] at t4
    have hm : ∀ q : Nat, bit e q = true ↔ q = j ∨ q ∈ T := fun q => by
      rw [t1, bit_idiff, bit_pow j q (by omega)]
      by_cases hqj : q = j
      · subst hqj; simp [h2]
      · have : ((q : Int) = j) = False := by simp; omega
        simp [hqj, this]
    have hC := far_cls hn hj
    have hK : ∀ q : Nat, (q = j ∨ q ∈ T) → q < m ∧ 0 ≤ farF ws m j q := fun q hq => by
      rcases hq with rfl | hq
      · exact ⟨hj, by rw [farF_diag hn hj]; omega⟩
      · exact t3 q hq
    have hin : InE (farF ws m) e (arcs (farF ws m) j T j) := fun t ht => by
      obtain ⟨g1, g2, g3⟩ := arcs_mem T j j t ht
      have k1 := hK t.1 g1
      have k2 := hK t.2.1 g2
      exact ⟨(hm t.1).2 g1, (hm t.2.1).2 g2, hC.told _ _ k1 k2, by rw [g3]; exact Int.le_refl _, (hC.sym _ _ k1 k2).symm⟩
    have each : ∀ t, t ∈ arcs (farF ws m) j T j → ∃ L, lnks m ws e = some L ∧ sumL (farF ws m) L + t.2.2 ≤ sumE (arcs (farF ws m) j T j) := fun t ht => by
      have hcn := conn_tour (I := stE e) hm ⟨j, by rw [h1, bit_pow j j (by omega)]; simp, h2⟩ ht
      obtain ⟨L, l1, l2⟩ := lnks_le hn e0 e1 hcn (fun u hu => hin u (List.mem_of_mem_erase hu))
      have := sumE_erase ht
      exact ⟨L, l1, by omega⟩
    have hlen := arcs_len (farF ws m) T j j
    obtain ⟨t0, ht0⟩ : ∃ t, t ∈ arcs (farF ws m) j T j := by
      cases hA : arcs (farF ws m) j T j with
      | nil => rw [hA] at hlen; cases hlen
      | cons t E => exact ⟨t, List.mem_cons_self ..⟩
    obtain ⟨L, l1, l2⟩ := each t0 ht0
    have hav := avg (P := sumL (farF ws m) L) (T := sumE (arcs (farF ws m) j T j)) (arcs (farF ws m) j T j) (fun t ht => by
      obtain ⟨L', k1, k2⟩ := each t ht
      rw [l1] at k1
      injection k1 with k1
      subst k1; exact k2)
    have hD1 := pop_pos hdb.1 (by omega) hne
    have hpa := pop_sub (u := e) (s := allPl m) (fun q hq h => by rw [allPl_bit hq (by omega)]; have := set_sub e0 e1 h; simpa using this)
    rw [pop_allPl (by omega) (by omega)] at hpa
    refine ⟨L, l1, .inr ⟨by omega, by omega, ?_⟩⟩
    have hk : ((arcs (farF ws m) j T j).length : Int) = pop e := by rw [hlen]; omega
    rw [hk] at hav
    obtain ⟨k, hk2⟩ : ∃ k, pop e = k := ⟨_, rfl⟩
    obtain ⟨P, hP⟩ : ∃ P, sumL (farF ws m) L = P := ⟨_, rfl⟩
    obtain ⟨Z, hZ⟩ : ∃ Z, sumE (arcs (farF ws m) j T j) = Z := ⟨_, rfl⟩
    rw [hk2, hP, hZ] at hav
    rw [hZ] at t4
    rw [hk2, hP]
    have hk6 : k = 2 ∨ k = 3 ∨ k = 4 ∨ k = 5 ∨ k = 6 := by omega
    rcases hk6 with g | g | g | g | g <;> subst g <;> omega

/-! ### ways between the ends -/
def wE (ws : List Wy) (s : Int) : Nat → List (Nat × Nat × Int)
  | 0 => []
  | k + 1 => match ws[k]? with
    | some x => if bit s k = true then (x.a.toNat, x.b.toNat, x.c) :: wE ws s k else wE ws s k
    | none => wE ws s k
theorem wE_sum (ws : List Wy) (s : Int) : ∀ k, k ≤ ws.length → sumE (wE ws s k) = cost (ws.take k) s
  | 0, _ => by simp [wE, sumE, cost, costFrom]
  | k + 1, hk => by
    obtain ⟨x, hx⟩ : ∃ x, ws[k]? = some x := ⟨_, List.getElem?_eq_getElem (by omega)⟩
    rw [cost_take ws s k x hx, ← wE_sum ws s k (by omega), wE, hx]
    simp only
    split
    · rw [sumE]; simp only; omega
    · omega
theorem wE_mem {ws : List Wy} {s : Int} {t : Nat × Nat × Int} : ∀ {k}, t ∈ wE ws s k ↔ ∃ (j : Nat) (x : Wy), j < k ∧ ws[j]? = some x ∧ bit s j = true ∧ t = (x.a.toNat, x.b.toNat, x.c)
  | 0 => by
    rw [wE]
    constructor
    · intro h; cases h
    · rintro ⟨j, x, h, _⟩; omega
  | k + 1 => by
    have ih := wE_mem (ws := ws) (s := s) (t := t) (k := k)
    have lift : t ∈ wE ws s k → ∃ (j : Nat) (x : Wy), j < k + 1 ∧ ws[j]? = some x ∧ bit s j = true ∧ t = (x.a.toNat, x.b.toNat, x.c) := fun h => by
      obtain ⟨j, x, h1, h2⟩ := ih.1 h
      exact ⟨j, x, by omega, h2⟩
    cases hx : ws[k]? with
    | none =>
      rw [wE, hx]
      refine ⟨lift, fun ⟨j, x, h1, h2, h3⟩ => ih.2 ⟨j, x, ?_, h2, h3⟩⟩
      have : j ≠ k := fun e => by subst e; rw [hx] at h2; cases h2
      omega
    | some y =>
      rw [wE, hx]
      simp only
      cases hb : bit s (k : Int)
      · rw [if_neg (by simp)]
        refine ⟨lift, fun ⟨j, x, h1, h2, h3⟩ => ih.2 ⟨j, x, ?_, h2, h3⟩⟩
        have : j ≠ k := fun e => by subst e; rw [hb] at h3; cases h3.1
        omega
      · rw [if_pos rfl, List.mem_cons]
        constructor
        · rintro (h | h)
          · exact ⟨k, y, by omega, hx, hb, h⟩
          · exact lift h
        · rintro ⟨j, x, h1, h2, h3, h4⟩
          by_cases e : j = k
          · subst e; rw [hx] at h2; injection h2 with h2; subst h2; exact .inl h4
          · exact .inr (ih.2 ⟨j, x, by omega, h2, h3, h4⟩)
/-- between the ends alone links cost no more than a least tree -/
theorem lnks_so {m : Nat} {ws : List Wy} (hn : NetIs (m : Int) ws) {e : Int} (e0 : 0 ≤ e) (e1 : e < 2 ^ m) (h : 0 ≤ so ws e) : ∃ L, lnks m ws e = some L ∧ sumL (farF ws m) L ≤ so ws e := by
  have h6 : m ≤ 6 := by have := hn.hi; omega
  have e1' : e < 2 ^ ((m : Int)).toNat := by rw [Int.toNat_natCast]; exact e1
  obtain ⟨hj, hs, -, -⟩ := so_rc hn h
  have hin := span_ins ws e
  have hJ := (joins_iff hn e0 e1').1 hj
  have hc : Conn (wE ws (span ws e) ws.length) (stE e) e := fun S h1 ⟨p, hp, hSp⟩ => by
    have he : e ≠ 0 := fun g => by rw [g, bit_zero_] at hp; cases hp
    obtain ⟨j, hjm, k1, k2⟩ := stE_is h6 e0 e1 he
    have hSj : S j = true := h1 j (by rw [k1, bit_pow j j (by omega)]; simp)
    apply Classical.byContradiction
    intro hno
    have R := reach_is (s := span ws e) hn (p := (j : Int)) (by omega) (by omega)
    have := R.least (fun q => S q.toNat) (by simpa using hSj) (fun k x hx hb => by
      apply Classical.byContradiction
      intro hd
      exact hno ⟨_, wE_mem.2 ⟨k, x, (List.getElem?_eq_some_iff.1 hx).1, hx, hb, rfl⟩, hd⟩) p (by omega) (hJ j p (by omega) (by omega) k2 hp)
    simp only [Int.toNat_natCast] at this
    rw [hSp] at this; cases this
  have hie : InE (farF ws m) e (wE ws (span ws e) ws.length) := fun t ht => by
    obtain ⟨k, x, hk, hx, hb, rfl⟩ := wE_mem.1 ht
    have hxa := hn.at_ hx
    obtain ⟨g1, g2⟩ := hin k x hx hb
    obtain ⟨⟨f1, f2⟩, -⟩ := farF_way hn hx
    have ea : ((x.a.toNat : Nat) : Int) = x.a := Int.toNat_of_nonneg hxa.1
    have eb : ((x.b.toNat : Nat) : Int) = x.b := Int.toNat_of_nonneg hxa.2.2.1
    exact ⟨by simp only; rw [ea]; exact g1, by simp only; rw [eb]; exact g2, f1, f2, farF_sym hn (show x.b.toNat < m by omega) (show x.a.toNat < m by omega)⟩
  obtain ⟨L, l1, l2⟩ := lnks_le hn e0 e1 hc hie
  have hw := wE_sum ws (span ws e) ws.length (Nat.le_refl _)
  rw [List.take_length] at hw
  exact ⟨L, l1, by omega⟩

/-! ### the paths together -/
noncomputable def uni (ws : List Wy) : List (Nat × Nat) → Int → Int
  | [], s => s
  | p :: L, s => uni ws L (ior s (best ws (both p.1 p.2)))
theorem uni_ok {m : Nat} {ws : List Wy} (hn : NetIs (m : Int) ws) {e : Int} (d : Nat) : ∀ (L : List (Nat × Nat)) (I s : Int), 0 ≤ I → I < 2 ^ m → 0 ≤ s → s ≤ full ws.length → joins ws s I = true → lks (farF ws m) e m d I = some L →
    0 ≤ uni ws L s ∧ uni ws L s ≤ full ws.length ∧ joins ws (uni ws L s) e = true ∧ cost ws (uni ws L s) ≤ cost ws s + sumL (farF ws m) L := by
  induction d with
  | zero =>
    intro L I s i0 i1 s0 s1 hj h
    by_cases hIe : I = e
    · subst hIe
      rw [lks_end] at h
      injection h with h
      subst h
      exact ⟨s0, s1, hj, by simp [uni, sumL]⟩
    · rw [lks, if_neg hIe] at h; cases h
  | succ d ih =>
    intro L I s i0 i1 s0 s1 hj h
    by_cases hIe : I = e
    · subst hIe
      rw [lks_end] at h
      injection h with h
      subst h
      exact ⟨s0, s1, hj, by simp [uni, sumL]⟩
    · obtain ⟨d', x, y, L', hd, _, h2, rfl, hx, hy, h5⟩ := lks_step hIe h
      obtain rfl : d = d' := by omega
      obtain ⟨g1, g2, g3, g4⟩ := okP_t h5
      have hr := rc_both hn hx hy
      have hb0 : 0 ≤ best ws (both (x : Int) y) := by
        unfold rc at hr
        split at hr <;> omega
      have hbc := best_cost hn hx hy hb0
      have hbj := best_joins hb0
      have hbb := best_bd ws (both (x : Int) y)
      have hfu := ior_full s0 s1 hb0 (show best ws (both (x : Int) y) ≤ full ws.length by unfold full; omega)
      have hbo := both_bd (n := (m : Int)) (a := (x : Int)) (b := (y : Int)) (by omega) (by omega) (by omega) (by omega)
      have hju := joins_union hn i0 (by rw [Int.toNat_natCast]; exact i1) hbo.1 hbo.2 (p := (x : Int)) (by omega) g1 (by rw [bit_both (by omega) (by omega) (by omega)]; simp) hj hbj
      rw [withp_both g1] at hju
      have hwb := withp_bd i0 (by rw [Int.toNat_natCast]; exact i1) hy
      rw [Int.toNat_natCast] at hwb
      have := ih L' (withp I y) (ior s (best ws (both (x : Int) y))) hwb.1 hwb.2 hfu.1 hfu.2 hju h2
      have hcu := cost_union hn s (best ws (both (x : Int) y))
      refine ⟨this.1, this.2.1, this.2.2.1, ?_⟩
      rw [sumL]
      show cost ws (uni ws L' (ior s (best ws (both (x : Int) y)))) ≤ cost ws s + (farF ws m x y + sumL (farF ws m) L')
      omega
theorem lnks_uni {m : Nat} {ws : List Wy} (hn : NetIs (m : Int) ws) {e : Int} (e0 : 0 ≤ e) (e1 : e < 2 ^ m) {L : List (Nat × Nat)} (h : lnks m ws e = some L) :
    0 ≤ uni ws L 0 ∧ uni ws L 0 ≤ full ws.length ∧ joins ws (uni ws L 0) e = true ∧ cost ws (uni ws L 0) ≤ sumL (farF ws m) L := by
  have hs := st_rc hn e0 e1
  have hj : joins ws 0 (stE e) = true := by
    by_cases he : e = 0
    · subst he; rw [stE_zero]; exact joins_none _ _
    · obtain ⟨j, hj, h1, h2⟩ := stE_is (by have := hn.hi; omega) e0 e1 he
      have hb := one_bd hj
      rw [h1, joins_iff hn hb.1 (by rw [Int.toNat_natCast]; exact hb.2)]
      intro p q p0 q0 hp hq
      rw [bit_pow j p p0, decide_eq_true_eq] at hp
      rw [bit_pow j q q0, decide_eq_true_eq] at hq
      rw [hp, hq]
      exact (reach_is hn (by omega) (by omega)).has
  have := uni_ok hn 6 L (stE e) 0 hs.2.1 hs.2.2.1 (Int.le_refl _) (full_bd ws.length hn.len).1 hj h
  rw [cost_zero] at this
  exact ⟨this.1, this.2.1, this.2.2.1, by omega⟩
end Go.Proofs.YtcpefijmcajebaaDoor
