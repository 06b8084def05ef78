/- A way with a leaf is taken away: what is left is a tree and joins the same places but the leaf. So Pruned leaves a tree. Plain mathematics. -/
import Derived.Test.YtnbihejoglgdhaaLvM
import Derived.Test.YtnbihejoglgdhaaDP
namespace Go.Proofs.Ytnbihejoglgdhaa
open Go.RowKit

theorem nodes_iff {n : Int} {ws : List Wy} (hn : NetIs n ws) (s q : Int) (hq : 0 ≤ q) : ∀ m : Nat, bit (nodesTo ws s m) q = true ↔ ∃ (k : Nat) (x : Wy), k < m ∧ ws[k]? = some x ∧ bit s k = true ∧ (q = x.a ∨ q = x.b)
  | 0 => by
    constructor
    · intro h; rw [show nodesTo ws s 0 = 0 from rfl, bit_zero_] at h; cases h
    · rintro ⟨k, _, h, _⟩; omega
  | m + 1 => by
    have ih := nodes_iff hn s q hq m
    cases hx : ws[m]? with
    | none =>
      rw [show nodesTo ws s (m + 1) = nodesTo ws s m from by simp only [nodesTo, hx], ih]
      constructor
      · rintro ⟨k, x, h, r⟩; exact ⟨k, x, by omega, r⟩
      · rintro ⟨k, x, h, hk, r⟩
        have : k ≠ m := fun e => by subst e; rw [hx] at hk; cases hk
        exact ⟨k, x, by omega, hk, r⟩
    | some x =>
      obtain ⟨a0, _, b0, _⟩ := hn.at_ hx
      cases hb : bit s m
      · rw [nodesTo_no hx hb, ih]
        constructor
        · rintro ⟨k, x, h, r⟩; exact ⟨k, x, by omega, r⟩
        · rintro ⟨k, y, h, hk, hby, r⟩
          have : k ≠ m := fun e => by subst e; rw [hb] at hby; cases hby
          exact ⟨k, y, by omega, hk, hby, r⟩
      · rw [nodesTo_yes hx hb, bit_ior, show wayPl x = ior (2 ^ x.a.toNat) (2 ^ x.b.toNat) from rfl, bit_ior, bit_shl _ _ a0 hq, bit_shl _ _ b0 hq]
        simp only [Bool.or_eq_true, decide_eq_true_eq]
        rw [ih]
        constructor
        · rintro (⟨k, y, h, r⟩ | h)
          · exact ⟨k, y, by omega, r⟩
          · exact ⟨m, x, by omega, hx, hb, h⟩
        · rintro ⟨k, y, h, hk, hby, r⟩
          by_cases e : k = m
          · subst e; rw [hx] at hk; injection hk with hk; subst hk; exact .inr r
          · exact .inl ⟨k, y, by omega, hk, hby, r⟩
theorem nds_iff {n : Int} {ws : List Wy} (hn : NetIs n ws) (s q : Int) (hq : 0 ≤ q) : bit (nds ws s) q = true ↔ ∃ (k : Nat) (x : Wy), ws[k]? = some x ∧ bit s k = true ∧ (q = x.a ∨ q = x.b) := by
  unfold nds
  rw [nodes_iff hn s q hq]
  constructor
  · rintro ⟨k, x, _, r⟩; exact ⟨k, x, r⟩
  · rintro ⟨k, x, hx, r⟩; exact ⟨k, x, (List.getElem?_eq_some_iff.1 hx).1, hx, r⟩
theorem lvs_once {n : Int} {ws : List Wy} (hn : NetIs n ws) {s v : Int} (hv : 0 ≤ v) (h : bit (lvs ws s) v = true) {i j : Nat} {x y : Wy} (hx : ws[i]? = some x) (hy : ws[j]? = some y) (hi : bit s i = true) (hj : bit s j = true) (h1 : v = x.a ∨ v = x.b) (h2 : v = y.a ∨ v = y.b) : i = j := by
  unfold lvs at h
  rw [bit_idiff] at h
  simp only [Bool.and_eq_true, Bool.not_eq_true'] at h
  have li := (List.getElem?_eq_some_iff.1 hx).1
  have lj := (List.getElem?_eq_some_iff.1 hy).1
  apply Classical.byContradiction
  intro hne
  rcases Nat.lt_or_gt_of_ne hne with hlt | hlt
  · have := lv_again hn s ws.length i j x y v hv hlt lj hx hy hi hj h1 h2
    rw [h.2] at this; cases this
  · have := lv_again hn s ws.length j i y x v hv hlt li hy hx hj hi h2 h1
    rw [h.2] at this; cases this
theorem bit_less (t : Int) (k : Nat) (q : Int) (hq : 0 ≤ q) : bit (idiff t (2 ^ k)) q = (bit t q && !decide (q = k)) := by
  rw [bit_idiff, bit_pow k q hq]
/-- who is come to without the way of a leaf -/
theorem reach_less {n : Int} {ws : List Wy} (hn : NetIs n ws) {t : Int} {k : Nat} {x : Wy} {v u : Int} (hx : ws[k]? = some x) (hvu : (v = x.a ∧ u = x.b) ∨ (v = x.b ∧ u = x.a))
    (honly : ∀ (j : Nat) (y : Wy), ws[j]? = some y → bit t j = true → (v = y.a ∨ v = y.b) → j = k) {a : Int} (ha : 0 ≤ a) (ha' : a < n) (hav : a ≠ v) {q : Int} (hq : 0 ≤ q) :
    bit (reach ws (idiff t (2 ^ k)) a) q = true ↔ bit (reach ws t a) q = true ∧ q ≠ v := by
  have R := reach_is (s := t) hn ha ha'
  have R' := reach_is (s := idiff t (2 ^ k)) hn ha ha'
  obtain ⟨a0, _, b0, _, hne, _⟩ := hn.at_ hx
  have huv : u ≠ v := by rcases hvu with ⟨h1, h2⟩ | ⟨h1, h2⟩ <;> omega
  have hold : ∀ (j : Nat), bit (idiff t (2 ^ k)) j = true → bit t j = true ∧ j ≠ k := fun j h => by
    rw [bit_less t k j (by omega)] at h
    simp only [Bool.and_eq_true, Bool.not_eq_true', decide_eq_false_iff_not] at h
    exact ⟨h.1, fun e => h.2 (by omega)⟩
  have hnot : ∀ (j : Nat) (y : Wy), ws[j]? = some y → bit t j = true → j ≠ k → y.a ≠ v ∧ y.b ≠ v := fun j y hy hb hj =>
    ⟨fun e => hj (honly j y hy hb (.inl e.symm)), fun e => hj (honly j y hy hb (.inr e.symm))⟩
  constructor
  · intro h
    refine ⟨R'.least (bit (reach ws t a)) R.has (fun j y hy hb => R.closed j y hy (hold j hb).1) q hq h, ?_⟩
    have := R'.least (fun y => !decide (y = v)) (by simpa using hav) (fun j y hy hb => by
      obtain ⟨h1, h2⟩ := hold j hb
      obtain ⟨h3, h4⟩ := hnot j y hy h1 h2
      simp [h3, h4]) q hq h
    simpa using this
  · rintro ⟨h, hqv⟩
    have := R.least (fun y => if y = v then bit (reach ws (idiff t (2 ^ k)) a) u else bit (reach ws (idiff t (2 ^ k)) a) y) (by simp only [hav, if_false]; exact R'.has) (fun j y hy hb => by
      by_cases hj : j = k
      · subst hj
        rw [hx] at hy; injection hy with hy; subst hy
        rcases hvu with ⟨h1, h2⟩ | ⟨h1, h2⟩
        · rw [← h1, ← h2]; simp [huv]
        · rw [← h1, ← h2]; simp [huv]
      · obtain ⟨h3, h4⟩ := hnot j y hy hb hj
        simp only [h3, h4, if_false]
        refine R'.closed j y hy ?_
        rw [bit_less t k j (by omega), hb]
        simp; omega) q hq h
    simpa [hqv] using this
/-- one way with a leaf that is no end is taken away -/
theorem one_less {n : Int} {ws : List Wy} (hn : NetIs n ws) {t e : Int} (t0 : 0 ≤ t) (t1 : t ≤ full ws.length) (e0 : 0 ≤ e) (e1 : e < 2 ^ n.toNat) (htree : tree ws t = true) {k : Nat} {x : Wy} (hx : ws[k]? = some x) (hk : bit t k = true) {v : Int} (hv : v = x.a ∨ v = x.b)
    (honly : ∀ (j : Nat) (y : Wy), ws[j]? = some y → bit t j = true → (v = y.a ∨ v = y.b) → j = k) (hev : bit e v = false) :
    tree ws (idiff t (2 ^ k)) = true ∧ joins ws (idiff t (2 ^ k)) e = joins ws t e := by
  obtain ⟨a0, a1, b0, b1, hne, _⟩ := hn.at_ hx
  have h6 := hn.hi
  have hl9 := hn.len
  have hfb := full_bd ws.length hl9
  have hkl := (List.getElem?_eq_some_iff.1 hx).1
  obtain ⟨u, hvu⟩ : ∃ u, (v = x.a ∧ u = x.b) ∨ (v = x.b ∧ u = x.a) := by
    rcases hv with h | h
    · exact ⟨x.b, .inl ⟨h, rfl⟩⟩
    · exact ⟨x.a, .inr ⟨h, rfl⟩⟩
  have huv : u ≠ v := by rcases hvu with ⟨h1, h2⟩ | ⟨h1, h2⟩ <;> omega
  have v0 : 0 ≤ v := by rcases hv with h | h <;> omega
  have v1 : v < n := by rcases hv with h | h <;> omega
  have u0 : 0 ≤ u := by rcases hvu with ⟨_, h⟩ | ⟨_, h⟩ <;> omega
  have u1 : u < n := by rcases hvu with ⟨_, h⟩ | ⟨_, h⟩ <;> omega
  have hux : u = x.a ∨ u = x.b := by rcases hvu with ⟨_, h⟩ | ⟨_, h⟩ <;> simp [h]
  have hreach := fun (a : Int) (ha : 0 ≤ a) (ha' : a < n) (hav : a ≠ v) (q : Int) (hq : 0 ≤ q) => reach_less (t := t) hn hx hvu honly ha ha' hav hq
  have hin : ∀ {e' : Int}, 0 ≤ e' → e' < 2 ^ n.toNat → ∀ {q : Int}, bit e' q = true → q < n := by
    intro e' h0 h1 q hb
    have := set_sub h0 h1 hb
    have := hn.lo
    omega
  constructor
  · unfold tree at htree ⊢
    simp only [Bool.or_eq_true, beq_iff_eq, Bool.and_eq_true] at htree ⊢
    have ht0 : t ≠ 0 := fun h => by rw [h, bit_zero_] at hk; cases hk
    obtain ⟨hp, hj⟩ := htree.resolve_left ht0
    obtain ⟨d0, d1, d2⟩ := nds_bd hn t
    obtain ⟨d0', d1', d2'⟩ := nds_bd hn (idiff t (2 ^ k))
    have hjj := (joins_iff hn d0 d2).1 hj
    by_cases hz : idiff t (2 ^ k) = 0
    · exact .inl hz
    · right
      have hib := idiff_bd t (2 ^ k) t0
      have hold : ∀ (j : Nat), bit (idiff t (2 ^ k)) j = true ↔ bit t j = true ∧ j ≠ k := fun j => by
        rw [bit_less t k j (by omega)]
        simp only [Bool.and_eq_true, Bool.not_eq_true', decide_eq_false_iff_not]
        constructor
        · rintro ⟨h1, h2⟩; exact ⟨h1, fun e => h2 (by omega)⟩
        · rintro ⟨h1, h2⟩; exact ⟨h1, fun e => h2 (by omega)⟩
      have hnot : ∀ (j : Nat) (y : Wy), ws[j]? = some y → bit t j = true → j ≠ k → y.a ≠ v ∧ y.b ≠ v := fun j y hy hb hj =>
        ⟨fun e => hj (honly j y hy hb (.inl e.symm)), fun e => hj (honly j y hy hb (.inr e.symm))⟩
      have hu : bit (nds ws (idiff t (2 ^ k))) u = true := by
        -- some way is left
        have hex : ∃ j : Int, 0 ≤ j ∧ j < (ws.length : Int) ∧ bit (idiff t (2 ^ k)) j = true := by
          apply Classical.byContradiction
          intro hno
          apply hz
          refine set_none (n := ws.length) hib.1 ?_ fun j hj0 hj1 => ?_
          · have := (full_lt ws.length t).1 t1
            omega
          · cases hb : bit (idiff t (2 ^ k)) j
            · rfl
            · exact absurd ⟨j, hj0, hj1, hb⟩ hno
        obtain ⟨j, hj0, hj1, hjb⟩ := hex
        obtain ⟨j', rfl⟩ := Int.eq_ofNat_of_zero_le hj0
        obtain ⟨y, hy⟩ : ∃ y, ws[j']? = some y := ⟨_, List.getElem?_eq_getElem (by omega)⟩
        obtain ⟨ya0, ya1, yb0, yb1, _⟩ := hn.at_ hy
        obtain ⟨h1, h2⟩ := (hold j').1 hjb
        obtain ⟨h3, h4⟩ := hnot j' y hy h1 h2
        apply Classical.byContradiction
        intro hnu
        have hnt : ∀ (i : Nat) (z : Wy), ws[i]? = some z → bit (idiff t (2 ^ k)) i = true → z.a ≠ u ∧ z.b ≠ u := fun i z hz' hb =>
          ⟨fun e => hnu ((nds_iff hn _ u u0).2 ⟨i, z, hz', hb, .inl e.symm⟩), fun e => hnu ((nds_iff hn _ u u0).2 ⟨i, z, hz', hb, .inr e.symm⟩)⟩
        have hr : bit (reach ws t y.a) u = true := hjj y.a u ya0 u0 ((nds_iff hn t y.a ya0).2 ⟨j', y, hy, h1, .inl rfl⟩) ((nds_iff hn t u u0).2 ⟨k, x, hx, hk, hux⟩)
        have hr' := (hreach y.a ya0 ya1 h3 u u0).2 ⟨hr, huv⟩
        have := (reach_is (s := idiff t (2 ^ k)) hn ya0 ya1).least (fun q => !decide (q = u)) (by simpa using (hnt j' y hy hjb).1) (fun i z hz' hb => by
          obtain ⟨p1, p2⟩ := hnt i z hz' hb
          simp [p1, p2]) u u0 hr'
        simp at this
      have hmem : ∀ q, 0 ≤ q → (bit (nds ws (idiff t (2 ^ k))) q = true ↔ bit (nds ws t) q = true ∧ q ≠ v) := fun q hq => by
        constructor
        · intro h
          obtain ⟨j, y, hy, hb, hqy⟩ := (nds_iff hn _ q hq).1 h
          obtain ⟨h1, h2⟩ := (hold j).1 hb
          obtain ⟨h3, h4⟩ := hnot j y hy h1 h2
          exact ⟨(nds_iff hn t q hq).2 ⟨j, y, hy, h1, hqy⟩, by rcases hqy with h | h <;> omega⟩
        · rintro ⟨h, hqv⟩
          obtain ⟨j, y, hy, hb, hqy⟩ := (nds_iff hn t q hq).1 h
          by_cases hj : j = k
          · subst hj
            rw [hx] at hy; injection hy with hy; subst hy
            have : q = u := by
              rcases hvu with ⟨p1, p2⟩ | ⟨p1, p2⟩ <;> rcases hqy with h | h <;> omega
            rw [this]; exact hu
          · exact (nds_iff hn _ q hq).2 ⟨j, y, hy, (hold j).2 ⟨hb, hj⟩, hqy⟩
      have hvn : bit (nds ws (idiff t (2 ^ k))) v = false := by
        cases hb : bit (nds ws (idiff t (2 ^ k))) v
        · rfl
        · exact absurd rfl ((hmem v v0).1 hb).2
      have hvt : bit (nds ws t) v = true := (nds_iff hn t v v0).2 ⟨k, x, hx, hk, hv⟩
      have en : nds ws t = ior (nds ws (idiff t (2 ^ k))) (2 ^ v.toNat) := by
        refine set_ext d0 (by unfold ior; omega) fun q hq => ?_
        rw [bit_ior, bit_shl v q v0 hq, Bool.eq_iff_iff]
        simp only [Bool.or_eq_true, decide_eq_true_eq]
        rw [hmem q hq]
        constructor
        · intro h
          by_cases hqv : q = v
          · exact .inr hqv
          · exact .inl ⟨h, hqv⟩
        · rintro (h | h)
          · exact h.1
          · rw [h]; exact hvt
      have hkk : bit (idiff t (2 ^ k)) k = false := by
        cases hb : bit (idiff t (2 ^ k)) k
        · rfl
        · exact absurd rfl ((hold k).1 hb).2
      have et : t = ior (idiff t (2 ^ k)) (2 ^ k) := by
        refine set_ext t0 (by unfold ior; omega) fun q hq => ?_
        rw [bit_ior, bit_less t k q hq, bit_pow k q hq, Bool.eq_iff_iff]
        simp only [Bool.or_eq_true, Bool.and_eq_true, Bool.not_eq_true', decide_eq_true_eq, decide_eq_false_iff_not]
        constructor
        · intro h
          by_cases hqk : q = k
          · exact .inr hqk
          · exact .inl ⟨h, hqk⟩
        · rintro (h | h)
          · exact h.1
          · rw [h]; exact hk
      have c1 := pop_place d0' d1' v0 (by omega) hvn
      have c2 := pop_add hib.1 (by omega) (by omega) hkk
      rw [← en] at c1
      rw [← et] at c2
      refine ⟨by omega, (joins_iff hn d0' d2').2 fun p q hp0 hq0 hbp hbq => ?_⟩
      obtain ⟨p1, p2⟩ := (hmem p hp0).1 hbp
      obtain ⟨q1, q2⟩ := (hmem q hq0).1 hbq
      exact (hreach p hp0 (hin d0 d2 p1) p2 q hq0).2 ⟨hjj p q hp0 hq0 p1 q1, q2⟩
  · rw [Bool.eq_iff_iff, joins_iff hn e0 e1, joins_iff hn e0 e1]
    have hev' : ∀ q, bit e q = true → q ≠ v := fun q h h2 => by rw [h2, hev] at h; cases h
    constructor
    · intro h p q hp0 hq0 hbp hbq
      exact ((hreach p hp0 (hin e0 e1 hbp) (hev' p hbp) q hq0).1 (h p q hp0 hq0 hbp hbq)).1
    · intro h p q hp0 hq0 hbp hbq
      exact (hreach p hp0 (hin e0 e1 hbp) (hev' p hbp) q hq0).2 ⟨h p q hp0 hq0 hbp hbq, hev' q hbq⟩
/-- all needless ways are taken away at once -/
theorem all_less {n : Int} {ws : List Wy} (hn : NetIs n ws) {s e : Int} (s0 : 0 ≤ s) (s1 : s ≤ full ws.length) (e0 : 0 ≤ e) (e1 : e < 2 ^ n.toNat) (htree : tree ws s = true) :
    ∀ m : Nat, tree ws (idiff s (atTo ws s (idiff (lvs ws s) e) m)) = true ∧ joins ws (idiff s (atTo ws s (idiff (lvs ws s) e) m)) e = joins ws s e
  | 0 => by
    have : idiff s (atTo ws s (idiff (lvs ws s) e) 0) = s := by
      refine set_ext (idiff_bd s _ s0).1 s0 fun q hq => ?_
      rw [bit_idiff, show atTo ws s (idiff (lvs ws s) e) 0 = 0 from rfl, bit_zero_]; simp
    rw [this]; exact ⟨htree, rfl⟩
  | m + 1 => by
    have ih := all_less hn s0 s1 e0 e1 htree m
    cases hx : ws[m]? with
    | none => rw [show atTo ws s (idiff (lvs ws s) e) (m + 1) = atTo ws s (idiff (lvs ws s) e) m from by rw [atTo, hx]]; exact ih
    | some x =>
      by_cases hc : bit s m = true ∧ iand (wayPl x) (idiff (lvs ws s) e) ≠ 0
      · rw [atTo_yes hx hc.1 hc.2]
        have hbd := atTo_bd ws s (idiff (lvs ws s) e) m
        have hmm : bit (atTo ws s (idiff (lvs ws s) e) m) m = false := bit_big hbd.1 hbd.2 (Int.le_refl _)
        obtain ⟨a0, _, b0, _⟩ := hn.at_ hx
        obtain ⟨v, hv, hvb⟩ : ∃ v, (v = x.a ∨ v = x.b) ∧ bit (idiff (lvs ws s) e) v = true := by
          rcases (iand_ne _ _ _ a0 b0).1 hc.2 with h | h
          · exact ⟨_, .inl rfl, h⟩
          · exact ⟨_, .inr rfl, h⟩
        have v0 : 0 ≤ v := by rcases hv with h | h <;> omega
        rw [bit_idiff] at hvb
        simp only [Bool.and_eq_true, Bool.not_eq_true'] at hvb
        generalize hM : atTo ws s (idiff (lvs ws s) e) m = M at *
        have hib := idiff_bd s M s0
        have e3 : idiff s (ior M (2 ^ m)) = idiff (idiff s M) (2 ^ m) := by
          refine set_ext (idiff_bd s _ s0).1 (idiff_bd _ _ hib.1).1 fun q hq => ?_
          rw [bit_idiff, bit_idiff, bit_idiff, bit_ior]
          cases bit s q <;> cases bit M q <;> simp
        rw [e3]
        have h := one_less hn (t := idiff s M) (e := e) hib.1 (by omega) e0 e1 ih.1 hx (by rw [bit_idiff, hc.1, hmm]; rfl) hv (fun j y hy hb hvy => by
          rw [bit_idiff] at hb
          simp only [Bool.and_eq_true] at hb
          exact lvs_once hn v0 hvb.1 hy hx hb.1 hc.1 hvy hv) hvb.2
        exact ⟨h.1, h.2.trans ih.2⟩
      · rw [atTo_no hx hc]; exact ih
theorem atTo_has {ws : List Wy} {s p : Int} {k : Nat} {x : Wy} (hx : ws[k]? = some x) (hb : bit s k = true) (hi : iand (wayPl x) p ≠ 0) : ∀ m : Nat, k < m → bit (atTo ws s p m) k = true
  | 0, h => by omega
  | m + 1, h => by
    by_cases e : k = m
    · subst e
      rw [atTo_yes hx hb hi, bit_ior, bit_pow k (k : Int) (by omega)]; simp
    · have ih := atTo_has hx hb hi m (by omega)
      cases hy : ws[m]? with
      | none => rw [show atTo ws s p (m + 1) = atTo ws s p m from by rw [atTo, hy]]; exact ih
      | some y =>
        by_cases hc : bit s m = true ∧ iand (wayPl y) p ≠ 0
        · rw [atTo_yes hy hc.1 hc.2, bit_ior, ih]; rfl
        · rw [atTo_no hy hc]; exact ih
/-- no way is needless: all leaves are ends -/
theorem no_needl {n : Int} {ws : List Wy} (hn : NetIs n ws) {s e : Int} (h : needl ws e s = 0) : idiff (lvs ws s) e = 0 := by
  obtain ⟨⟨o0, o1⟩, _⟩ := lvTo_bd hn s ws.length
  have hl : 0 ≤ lvs ws s := (idiff_bd _ _ o0).1
  refine set_ext (idiff_bd _ _ hl).1 (Int.le_refl 0) fun q hq => ?_
  rw [bit_zero_]
  cases hb : bit (idiff (lvs ws s) e) q
  · rfl
  · exfalso
    have hb2 := hb
    rw [bit_idiff] at hb2
    simp only [Bool.and_eq_true] at hb2
    have h1 := hb2.1
    unfold lvs at h1
    rw [bit_idiff] at h1
    simp only [Bool.and_eq_true] at h1
    rw [lv_nodes] at h1
    obtain ⟨k, x, hx, hbk, hqx⟩ := (nds_iff hn s q hq).1 h1.1
    obtain ⟨a0, _, b0, _⟩ := hn.at_ hx
    have hne : iand (wayPl x) (idiff (lvs ws s) e) ≠ 0 := (iand_ne _ _ _ a0 b0).2 (by rcases hqx with e' | e' <;> rw [← e', hb] <;> simp)
    have := atTo_has hx hbk hne ws.length (List.getElem?_eq_some_iff.1 hx).1
    unfold needl at h
    rw [h, bit_zero_] at this; cases this
theorem prF_ok {n : Int} {ws : List Wy} (hn : NetIs n ws) {e : Int} (e0 : 0 ≤ e) (e1 : e < 2 ^ n.toNat) : ∀ (f : Nat) (s : Int), 0 ≤ s → s.toNat ≤ f → s ≤ full ws.length → tree ws s = true →
    0 ≤ prF ws e f s ∧ prF ws e f s ≤ s ∧ tree ws (prF ws e f s) = true ∧ joins ws (prF ws e f s) e = joins ws s e ∧ needl ws e (prF ws e f s) = 0 ∧ (∀ q, 0 ≤ q → bit (prF ws e f s) q = true → bit s q = true)
  | 0, s, s0, hf, s1, ht => by
    have : s = 0 := by omega
    subst this
    exact ⟨Int.le_refl _, Int.le_refl _, ht, rfl, needl_zero ws e, fun _ _ h => h⟩
  | f + 1, s, s0, hf, s1, ht => by
    rw [prF]
    by_cases h : needl ws e s = 0
    · rw [if_pos h]; exact ⟨s0, Int.le_refl _, ht, rfl, h, fun _ _ h => h⟩
    · rw [if_neg h]
      have hl := needl_less s0 h
      have hal := all_less hn s0 s1 e0 e1 ht ws.length
      obtain ⟨p1, p2, p3, p4, p5, p6⟩ := prF_ok hn e0 e1 f (idiff s (needl ws e s)) hl.1 (by omega) (by omega) hal.1
      refine ⟨p1, by omega, p3, p4.trans hal.2, p5, fun q hq hb => ?_⟩
      have := p6 q hq hb
      rw [bit_idiff] at this
      simp only [Bool.and_eq_true] at this
      exact this.1
theorem pr_ok {n : Int} {ws : List Wy} (hn : NetIs n ws) {e s : Int} (e0 : 0 ≤ e) (e1 : e < 2 ^ n.toNat) (s0 : 0 ≤ s) (s1 : s ≤ full ws.length) (ht : tree ws s = true) :
    0 ≤ pr ws e s ∧ pr ws e s ≤ s ∧ tree ws (pr ws e s) = true ∧ joins ws (pr ws e s) e = joins ws s e ∧ idiff (lvs ws (pr ws e s)) e = 0 ∧ idiff (pr ws e s) s = 0 ∧ pr ws e (pr ws e s) = pr ws e s := by
  obtain ⟨p1, p2, p3, p4, p5, p6⟩ := prF_ok hn e0 e1 s.toNat s s0 (Nat.le_refl _) s1 ht
  exact ⟨p1, p2, p3, p4, no_needl hn p5, (idiff_zero p1).2 p6, pr_done p1 p5⟩
end Go.Proofs.Ytnbihejoglgdhaa
