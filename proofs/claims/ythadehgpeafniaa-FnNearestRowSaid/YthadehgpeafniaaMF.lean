/- Pruned, of the program and of its model. A way with a leaf is taken away: what is left is a tree and joins the same places but the leaf. So Pruned leaves a tree. Plain mathematics. Pruned of the model. BridgeWays, of the program and of its model. -/
import Derived.Test.YthadehgpeafniaaME
import Derived.Test.YthadehgpeafniaaMD
import Derived.Test.YthadehgpeafniaaMC
import Derived.Deep.RegionHeld3
set_option linter.unusedSimpArgs false
set_option linter.unusedVariables false
namespace Go.Proofs.Ythadehgpeafniaa
open Go.ChangeShapes Go.WideShapes Go.ChangeAt Go.RowKit

/-- the ways of the set among the first k that have a place of p -/
def atTo (ws : List Wy) (s p : Int) : Nat → Int
  | 0 => 0
  | k + 1 => match ws[k]? with
    | some x => if bit s k = true ∧ iand (wayPl x) p ≠ 0 then ior (atTo ws s p k) (2 ^ k) else atTo ws s p k
    | none => atTo ws s p k
theorem atTo_yes {ws : List Wy} {s p : Int} {k : Nat} {x : Wy} (hx : ws[k]? = some x) (hb : bit s k = true) (hi : iand (wayPl x) p ≠ 0) : atTo ws s p (k + 1) = ior (atTo ws s p k) (2 ^ k) := by
  rw [atTo, hx]; simp only; rw [if_pos ⟨hb, hi⟩]
theorem atTo_no {ws : List Wy} {s p : Int} {k : Nat} {x : Wy} (hx : ws[k]? = some x) (h : ¬ (bit s k = true ∧ iand (wayPl x) p ≠ 0)) : atTo ws s p (k + 1) = atTo ws s p k := by
  rw [atTo, hx]; simp only; rw [if_neg h]
theorem bit_shlN (k : Nat) (i : Int) (hi : 0 ≤ i) : bit (2 ^ k) i = decide (i = k) := by
  have := bit_shl (k : Int) i (by omega) hi
  rwa [Int.toNat_natCast] at this
theorem atTo_bd (ws : List Wy) (s p : Int) : ∀ k, 0 ≤ atTo ws s p k ∧ atTo ws s p k < 2 ^ k
  | 0 => by simp [atTo]
  | k + 1 => by
    have ih := atTo_bd ws s p k
    have h1 : ((2 : Int) ^ (k + 1)) = 2 ^ k * 2 := Int.pow_succ 2 k
    have h2 := pow_bd k k (by omega)
    rw [Int.toNat_natCast] at h2
    cases hx : ws[k]? with
    | none => rw [atTo, hx]; simp only; omega
    | some x =>
      by_cases hc : bit s k = true ∧ iand (wayPl x) p ≠ 0
      · rw [atTo_yes hx hc.1 hc.2]
        exact ior_bd _ _ (k + 1) (by omega) (by omega)
      · rw [atTo_no hx hc]; omega
theorem atTo_sub (ws : List Wy) (s p : Int) : ∀ (k : Nat) (q : Int), 0 ≤ q → bit (atTo ws s p k) q = true → bit s q = true
  | 0, q, _, h => by rw [atTo, bit_zero_] at h; cases h
  | k + 1, q, hq, h => by
    cases hx : ws[k]? with
    | none => rw [atTo, hx] at h; exact atTo_sub ws s p k q hq h
    | some x =>
      by_cases hc : bit s k = true ∧ iand (wayPl x) p ≠ 0
      · rw [atTo_yes hx hc.1 hc.2, bit_ior, bit_shlN k q hq] at h
        simp only [Bool.or_eq_true] at h
        rcases h with h | h
        · exact atTo_sub ws s p k q hq h
        · have : q = k := by simpa using h
          rw [this]; exact hc.1
      · rw [atTo_no hx hc] at h; exact atTo_sub ws s p k q hq h
/-- the ways with a leaf that is no end -/
def needl (ws : List Wy) (e s : Int) : Int := atTo ws s (idiff (lvs ws s) e) ws.length
theorem needl_bd (ws : List Wy) (e s : Int) (hl : ws.length ≤ 9) : 0 ≤ needl ws e s ∧ needl ws e s < 512 := by
  have h := atTo_bd ws s (idiff (lvs ws s) e) ws.length
  have h2 := pow_bd (ws.length : Int) 9 (by omega)
  rw [Int.toNat_natCast] at h2
  unfold needl; omega
theorem idiff_less {s m : Int} (h0 : 0 ≤ s) (hm : m ≠ 0) (hm0 : 0 ≤ m) (hs : ∀ q, 0 ≤ q → bit m q = true → bit s q = true) : 0 ≤ idiff s m ∧ idiff s m < s := by
  have hb := idiff_bd s m h0
  refine ⟨hb.1, ?_⟩
  apply Classical.byContradiction
  intro hn
  have he : idiff s m = s := by omega
  apply hm
  refine set_ext hm0 (Int.le_refl 0) fun q hq => ?_
  rw [bit_zero_]
  cases hq' : bit m q
  · rfl
  · have h1 := bit_idiff s m q
    rw [he, hq', hs q hq hq'] at h1
    cases h1
theorem needl_less {ws : List Wy} {e s : Int} (h0 : 0 ≤ s) (h : needl ws e s ≠ 0) : 0 ≤ idiff s (needl ws e s) ∧ idiff s (needl ws e s) < s :=
  idiff_less h0 h (atTo_bd ws s _ _).1 (fun q hq hb => atTo_sub ws s _ _ q hq hb)
def prF (ws : List Wy) (e : Int) : Nat → Int → Int
  | 0, s => s
  | f + 1, s => if needl ws e s = 0 then s else prF ws e f (idiff s (needl ws e s))
theorem needl_zero (ws : List Wy) (e : Int) : needl ws e 0 = 0 := by
  have h := atTo_bd ws 0 (idiff (lvs ws 0) e) ws.length
  refine set_ext h.1 (Int.le_refl 0) fun q hq => ?_
  rw [bit_zero_]
  cases hq' : bit (needl ws e 0) q
  · rfl
  · have := atTo_sub ws 0 _ _ q hq hq'
    rw [bit_zero_] at this; cases this
theorem prF_more (ws : List Wy) (e : Int) : ∀ (f g : Nat) (s : Int), 0 ≤ s → s.toNat ≤ f → s.toNat ≤ g → prF ws e f s = prF ws e g s
  | 0, 0, _, _, _, _ => rfl
  | 0, g + 1, s, h0, hf, _ => by
    have : s = 0 := by omega
    subst this
    rw [prF, prF, if_pos (needl_zero ws e)]
  | f + 1, 0, s, h0, _, hg => by
    have : s = 0 := by omega
    subst this
    rw [prF, prF, if_pos (needl_zero ws e)]
  | f + 1, g + 1, s, h0, hf, hg => by
    rw [prF, prF]
    by_cases h : needl ws e s = 0
    · rw [if_pos h, if_pos h]
    · rw [if_neg h, if_neg h]
      have := needl_less h0 h
      exact prF_more ws e f g _ this.1 (by omega) (by omega)
/-- what is left of the set in the end -/
def pr (ws : List Wy) (e s : Int) : Int := prF ws e s.toNat s
theorem pr_done {ws : List Wy} {e s : Int} (h0 : 0 ≤ s) (h : needl ws e s = 0) : pr ws e s = s := by
  unfold pr
  rw [prF_more ws e s.toNat (s.toNat + 1) s h0 (Nat.le_refl _) (by omega), prF, if_pos h]
theorem pr_step {ws : List Wy} {e s : Int} (h0 : 0 ≤ s) (h : needl ws e s ≠ 0) : pr ws e s = pr ws e (idiff s (needl ws e s)) := by
  have hl := needl_less h0 h
  unfold pr
  rw [prF_more ws e s.toNat (s.toNat + 1) s h0 (Nat.le_refl _) (by omega), prF, if_neg h]
  exact prF_more ws e _ _ _ hl.1 (by omega) (Nat.le_refl _)


noncomputable def prunedOf (n : Int) (ws : List Wy) (s e : Int) : Int := if (treeOk n ws s && plOk n e) = true then pr ws e s else -1
theorem setOk_less {n : Int} {ws : List Wy} {s t : Int} (h : setOk n ws s = true) (h0 : 0 ≤ t) (h1 : t ≤ s) : setOk n ws t = true := by
  unfold setOk at h ⊢
  simp only [Bool.and_eq_true, decide_eq_true_eq] at h ⊢
  exact ⟨⟨h.1.1, h0⟩, by omega⟩
theorem lvs_bd {n : Int} {ws : List Wy} (hn : NetIs n ws) (s : Int) : 0 ≤ lvs ws s ∧ lvs ws s < 64 := by
  obtain ⟨⟨o0, o1⟩, _⟩ := lvTo_bd hn s ws.length
  have := idiff_bd (lvTo ws s ws.length).1 (lvTo ws s ws.length).2 o0
  unfold lvs; omega

end Go.Proofs.Ythadehgpeafniaa
namespace Go.Proofs.Ythadehgpeafniaa
open Go.RowKit

theorem nodes_iff {n : Int} {ws : List Wy} (hn : NetIs n ws) (s q : Int) (hq : 0 ≤ q) : ∀ m : Nat, bit (nodesTo ws s m) q = true ↔ ∃ (k : Nat) (x : Wy), k < m ∧ ws[k]? = some x ∧ bit s k = true ∧ (q = x.a ∨ q = x.b)
  | 0 => by
    constructor
    · intro h; rw [show nodesTo ws s 0 = 0 from rfl, bit_zero_] at h; cases h
    · rintro ⟨k, _, h, _⟩; omega
  | m + 1 => by
    have ih := nodes_iff hn s q hq m
    cases hx : ws[m]? with
    | none =>
      rw [show nodesTo ws s (m + 1) = nodesTo ws s m from by simp only [nodesTo, hx], ih]
      constructor
      · rintro ⟨k, x, h, r⟩; exact ⟨k, x, by omega, r⟩
      · rintro ⟨k, x, h, hk, r⟩
        have : k ≠ m := fun e => by subst e; rw [hx] at hk; cases hk
        exact ⟨k, x, by omega, hk, r⟩
    | some x =>
      obtain ⟨a0, _, b0, _⟩ := hn.at_ hx
      cases hb : bit s m
      · rw [nodesTo_no hx hb, ih]
        constructor
        · rintro ⟨k, x, h, r⟩; exact ⟨k, x, by omega, r⟩
        · rintro ⟨k, y, h, hk, hby, r⟩
          have : k ≠ m := fun e => by subst e; rw [hb] at hby; cases hby
          exact ⟨k, y, by omega, hk, hby, r⟩
      · rw [nodesTo_yes hx hb, bit_ior, show wayPl x = ior (2 ^ x.a.toNat) (2 ^ x.b.toNat) from rfl, bit_ior, bit_shl _ _ a0 hq, bit_shl _ _ b0 hq]
        simp only [Bool.or_eq_true, decide_eq_true_eq]
        rw [ih]
        constructor
        · rintro (⟨k, y, h, r⟩ | h)
          · exact ⟨k, y, by omega, r⟩
          · exact ⟨m, x, by omega, hx, hb, h⟩
        · rintro ⟨k, y, h, hk, hby, r⟩
          by_cases e : k = m
          · subst e; rw [hx] at hk; injection hk with hk; subst hk; exact .inr r
          · exact .inl ⟨k, y, by omega, hk, hby, r⟩
theorem nds_iff {n : Int} {ws : List Wy} (hn : NetIs n ws) (s q : Int) (hq : 0 ≤ q) : bit (nds ws s) q = true ↔ ∃ (k : Nat) (x : Wy), ws[k]? = some x ∧ bit s k = true ∧ (q = x.a ∨ q = x.b) := by
  unfold nds
  rw [nodes_iff hn s q hq]
  constructor
  · rintro ⟨k, x, _, r⟩; exact ⟨k, x, r⟩
  · rintro ⟨k, x, hx, r⟩; exact ⟨k, x, (List.getElem?_eq_some_iff.1 hx).1, hx, r⟩
theorem lvs_once {n : Int} {ws : List Wy} (hn : NetIs n ws) {s v : Int} (hv : 0 ≤ v) (h : bit (lvs ws s) v = true) {i j : Nat} {x y : Wy} (hx : ws[i]? = some x) (hy : ws[j]? = some y) (hi : bit s i = true) (hj : bit s j = true) (h1 : v = x.a ∨ v = x.b) (h2 : v = y.a ∨ v = y.b) : i = j := by
  unfold lvs at h
  rw [bit_idiff] at h
  simp only [Bool.and_eq_true, Bool.not_eq_true'] at h
  have li := (List.getElem?_eq_some_iff.1 hx).1
  have lj := (List.getElem?_eq_some_iff.1 hy).1
  apply Classical.byContradiction
  intro hne
  rcases Nat.lt_or_gt_of_ne hne with hlt | hlt
  · have := lv_again hn s ws.length i j x y v hv hlt lj hx hy hi hj h1 h2
    rw [h.2] at this; cases this
  · have := lv_again hn s ws.length j i y x v hv hlt li hy hx hj hi h2 h1
    rw [h.2] at this; cases this
theorem bit_less (t : Int) (k : Nat) (q : Int) (hq : 0 ≤ q) : bit (idiff t (2 ^ k)) q = (bit t q && !decide (q = k)) := by
  rw [bit_idiff, bit_pow k q hq]
/-- who is come to without the way of a leaf -/
theorem reach_less {n : Int} {ws : List Wy} (hn : NetIs n ws) {t : Int} {k : Nat} {x : Wy} {v u : Int} (hx : ws[k]? = some x) (hvu : (v = x.a ∧ u = x.b) ∨ (v = x.b ∧ u = x.a))
    (honly : ∀ (j : Nat) (y : Wy), ws[j]? = some y → bit t j = true → (v = y.a ∨ v = y.b) → j = k) {a : Int} (ha : 0 ≤ a) (ha' : a < n) (hav : a ≠ v) {q : Int} (hq : 0 ≤ q) :
    bit (reach ws (idiff t (2 ^ k)) a) q = true ↔ bit (reach ws t a) q = true ∧ q ≠ v := by
  have R := reach_is (s := t) hn ha ha'
  have R' := reach_is (s := idiff t (2 ^ k)) hn ha ha'
  obtain ⟨a0, _, b0, _, hne, _⟩ := hn.at_ hx
  have huv : u ≠ v := by rcases hvu with ⟨h1, h2⟩ | ⟨h1, h2⟩ <;> omega
  have hold : ∀ (j : Nat), bit (idiff t (2 ^ k)) j = true → bit t j = true ∧ j ≠ k := fun j h => by
    rw [bit_less t k j (by omega)] at h
    simp only [Bool.and_eq_true, Bool.not_eq_true', decide_eq_false_iff_not] at h
    exact ⟨h.1, fun e => h.2 (by omega)⟩
  have hnot : ∀ (j : Nat) (y : Wy), ws[j]? = some y → bit t j = true → j ≠ k → y.a ≠ v ∧ y.b ≠ v := fun j y hy hb hj =>
    ⟨fun e => hj (honly j y hy hb (.inl e.symm)), fun e => hj (honly j y hy hb (.inr e.symm))⟩
  constructor
  · intro h
    refine ⟨R'.least (bit (reach ws t a)) R.has (fun j y hy hb => R.closed j y hy (hold j hb).1) q hq h, ?_⟩
    have := R'.least (fun y => !decide (y = v)) (by simpa using hav) (fun j y hy hb => by
      obtain ⟨h1, h2⟩ := hold j hb
      obtain ⟨h3, h4⟩ := hnot j y hy h1 h2
      simp [h3, h4]) q hq h
    simpa using this
  · rintro ⟨h, hqv⟩
    have := R.least (fun y => if y = v then bit (reach ws (idiff t (2 ^ k)) a) u else bit (reach ws (idiff t (2 ^ k)) a) y) (by simp only [hav, if_false]; exact R'.has) (fun j y hy hb => by
      by_cases hj : j = k
      · subst hj
        rw [hx] at hy; injection hy with hy; subst hy
        rcases hvu with ⟨h1, h2⟩ | ⟨h1, h2⟩
        · rw [← h1, ← h2]; simp [huv]
        · rw [← h1, ← h2]; simp [huv]
      · obtain ⟨h3, h4⟩ := hnot j y hy hb hj
        simp only [h3, h4, if_false]
        refine R'.closed j y hy ?_
        rw [bit_less t k j (by omega), hb]
        simp; omega) q hq h
    simpa [hqv] using this
/-- one way with a leaf that is no end is taken away -/
theorem one_less {n : Int} {ws : List Wy} (hn : NetIs n ws) {t e : Int} (t0 : 0 ≤ t) (t1 : t ≤ full ws.length) (e0 : 0 ≤ e) (e1 : e < 2 ^ n.toNat) (htree : tree ws t = true) {k : Nat} {x : Wy} (hx : ws[k]? = some x) (hk : bit t k = true) {v : Int} (hv : v = x.a ∨ v = x.b)
    (honly : ∀ (j : Nat) (y : Wy), ws[j]? = some y → bit t j = true → (v = y.a ∨ v = y.b) → j = k) (hev : bit e v = false) :
    tree ws (idiff t (2 ^ k)) = true ∧ joins ws (idiff t (2 ^ k)) e = joins ws t e := by
  obtain ⟨a0, a1, b0, b1, hne, _⟩ := hn.at_ hx
  have h6 := hn.hi
  have hl9 := hn.len
  have hfb := full_bd ws.length hl9
  have hkl := (List.getElem?_eq_some_iff.1 hx).1
  obtain ⟨u, hvu⟩ : ∃ u, (v = x.a ∧ u = x.b) ∨ (v = x.b ∧ u = x.a) := by
    rcases hv with h | h
    · exact ⟨x.b, .inl ⟨h, rfl⟩⟩
    · exact ⟨x.a, .inr ⟨h, rfl⟩⟩
  have huv : u ≠ v := by rcases hvu with ⟨h1, h2⟩ | ⟨h1, h2⟩ <;> omega
  have v0 : 0 ≤ v := by rcases hv with h | h <;> omega
  have v1 : v < n := by rcases hv with h | h <;> omega
  have u0 : 0 ≤ u := by rcases hvu with ⟨_, h⟩ | ⟨_, h⟩ <;> omega
  have u1 : u < n := by rcases hvu with ⟨_, h⟩ | ⟨_, h⟩ <;> omega
  have hux : u = x.a ∨ u = x.b := by rcases hvu with ⟨_, h⟩ | ⟨_, h⟩ <;> simp [h]
  have hreach := fun (a : Int) (ha : 0 ≤ a) (ha' : a < n) (hav : a ≠ v) (q : Int) (hq : 0 ≤ q) => reach_less (t := t) hn hx hvu honly ha ha' hav hq
  have hin : ∀ {e' : Int}, 0 ≤ e' → e' < 2 ^ n.toNat → ∀ {q : Int}, bit e' q = true → q < n := by
    intro e' h0 h1 q hb
    have := set_sub h0 h1 hb
    have := hn.lo
    omega
  constructor
  · unfold tree at htree ⊢
    simp only [Bool.or_eq_true, beq_iff_eq, Bool.and_eq_true] at htree ⊢
    have ht0 : t ≠ 0 := fun h => by rw [h, bit_zero_] at hk; cases hk
    obtain ⟨hp, hj⟩ := htree.resolve_left ht0
    obtain ⟨d0, d1, d2⟩ := nds_bd hn t
    obtain ⟨d0', d1', d2'⟩ := nds_bd hn (idiff t (2 ^ k))
    have hjj := (joins_iff hn d0 d2).1 hj
    by_cases hz : idiff t (2 ^ k) = 0
    · exact .inl hz
    · right
      have hib := idiff_bd t (2 ^ k) t0
      have hold : ∀ (j : Nat), bit (idiff t (2 ^ k)) j = true ↔ bit t j = true ∧ j ≠ k := fun j => by
        rw [bit_less t k j (by omega)]
        simp only [Bool.and_eq_true, Bool.not_eq_true', decide_eq_false_iff_not]
        constructor
        · rintro ⟨h1, h2⟩; exact ⟨h1, fun e => h2 (by omega)⟩
        · rintro ⟨h1, h2⟩; exact ⟨h1, fun e => h2 (by omega)⟩
      have hnot : ∀ (j : Nat) (y : Wy), ws[j]? = some y → bit t j = true → j ≠ k → y.a ≠ v ∧ y.b ≠ v := fun j y hy hb hj =>
        ⟨fun e => hj (honly j y hy hb (.inl e.symm)), fun e => hj (honly j y hy hb (.inr e.symm))⟩
      have hu : bit (nds ws (idiff t (2 ^ k))) u = true := by
        -- some way is left
        have hex : ∃ j : Int, 0 ≤ j ∧ j < (ws.length : Int) ∧ bit (idiff t (2 ^ k)) j = true := by
          apply Classical.byContradiction
          intro hno
          apply hz
          refine set_none (n := ws.length) hib.1 ?_ fun j hj0 hj1 => ?_
          · have := (full_lt ws.length t).1 t1
            omega
          · cases hb : bit (idiff t (2 ^ k)) j
            · rfl
            · exact absurd ⟨j, hj0, hj1, hb⟩ hno
        obtain ⟨j, hj0, hj1, hjb⟩ := hex
        obtain ⟨j', rfl⟩ := Int.eq_ofNat_of_zero_le hj0
        obtain ⟨y, hy⟩ : ∃ y, ws[j']? = some y := ⟨_, List.getElem?_eq_getElem (by omega)⟩
        obtain ⟨ya0, ya1, yb0, yb1, _⟩ := hn.at_ hy
        obtain ⟨h1, h2⟩ := (hold j').1 hjb
        obtain ⟨h3, h4⟩ := hnot j' y hy h1 h2
        apply Classical.byContradiction
        intro hnu
        have hnt : ∀ (i : Nat) (z : Wy), ws[i]? = some z → bit (idiff t (2 ^ k)) i = true → z.a ≠ u ∧ z.b ≠ u := fun i z hz' hb =>
          ⟨fun e => hnu ((nds_iff hn _ u u0).2 ⟨i, z, hz', hb, .inl e.symm⟩), fun e => hnu ((nds_iff hn _ u u0).2 ⟨i, z, hz', hb, .inr e.symm⟩)⟩
        have hr : bit (reach ws t y.a) u = true := hjj y.a u ya0 u0 ((nds_iff hn t y.a ya0).2 ⟨j', y, hy, h1, .inl rfl⟩) ((nds_iff hn t u u0).2 ⟨k, x, hx, hk, hux⟩)
        have hr' := (hreach y.a ya0 ya1 h3 u u0).2 ⟨hr, huv⟩
        have := (reach_is (s := idiff t (2 ^ k)) hn ya0 ya1).least (fun q => !decide (q = u)) (by simpa using (hnt j' y hy hjb).1) (fun i z hz' hb => by
          obtain ⟨p1, p2⟩ := hnt i z hz' hb
          simp [p1, p2]) u u0 hr'
        simp at this
      have hmem : ∀ q, 0 ≤ q → (bit (nds ws (idiff t (2 ^ k))) q = true ↔ bit (nds ws t) q = true ∧ q ≠ v) := fun q hq => by
        constructor
        · intro h
          obtain ⟨j, y, hy, hb, hqy⟩ := (nds_iff hn _ q hq).1 h
          obtain ⟨h1, h2⟩ := (hold j).1 hb
          obtain ⟨h3, h4⟩ := hnot j y hy h1 h2
          exact ⟨(nds_iff hn t q hq).2 ⟨j, y, hy, h1, hqy⟩, by rcases hqy with h | h <;> omega⟩
        · rintro ⟨h, hqv⟩
          obtain ⟨j, y, hy, hb, hqy⟩ := (nds_iff hn t q hq).1 h
          by_cases hj : j = k
          · subst hj
            rw [hx] at hy; injection hy with hy; subst hy
            have : q = u := by
              rcases hvu with ⟨p1, p2⟩ | ⟨p1, p2⟩ <;> rcases hqy with h | h <;> omega
            rw [this]; exact hu
          · exact (nds_iff hn _ q hq).2 ⟨j, y, hy, (hold j).2 ⟨hb, hj⟩, hqy⟩
      have hvn : bit (nds ws (idiff t (2 ^ k))) v = false := by
        cases hb : bit (nds ws (idiff t (2 ^ k))) v
        · rfl
        · exact absurd rfl ((hmem v v0).1 hb).2
      have hvt : bit (nds ws t) v = true := (nds_iff hn t v v0).2 ⟨k, x, hx, hk, hv⟩
      have en : nds ws t = ior (nds ws (idiff t (2 ^ k))) (2 ^ v.toNat) := by
        refine set_ext d0 (by unfold ior; omega) fun q hq => ?_
        rw [bit_ior, bit_shl v q v0 hq, Bool.eq_iff_iff]
        simp only [Bool.or_eq_true, decide_eq_true_eq]
        rw [hmem q hq]
        constructor
        · intro h
          by_cases hqv : q = v
          · exact .inr hqv
          · exact .inl ⟨h, hqv⟩
        · rintro (h | h)
          · exact h.1
          · rw [h]; exact hvt
      have hkk : bit (idiff t (2 ^ k)) k = false := by
        cases hb : bit (idiff t (2 ^ k)) k
        · rfl
        · exact absurd rfl ((hold k).1 hb).2
      have et : t = ior (idiff t (2 ^ k)) (2 ^ k) := by
        refine set_ext t0 (by unfold ior; omega) fun q hq => ?_
        rw [bit_ior, bit_less t k q hq, bit_pow k q hq, Bool.eq_iff_iff]
        simp only [Bool.or_eq_true, Bool.and_eq_true, Bool.not_eq_true', decide_eq_true_eq, decide_eq_false_iff_not]
        constructor
        · intro h
          by_cases hqk : q = k
          · exact .inr hqk
          · exact .inl ⟨h, hqk⟩
        · rintro (h | h)
          · exact h.1
          · rw [h]; exact hk
      have c1 := pop_place d0' d1' v0 (by omega) hvn
      have c2 := pop_add hib.1 (by omega) (by omega) hkk
      rw [← en] at c1
      rw [← et] at c2
      refine ⟨by omega, (joins_iff hn d0' d2').2 fun p q hp0 hq0 hbp hbq => ?_⟩
      obtain ⟨p1, p2⟩ := (hmem p hp0).1 hbp
      obtain ⟨q1, q2⟩ := (hmem q hq0).1 hbq
      exact (hreach p hp0 (hin d0 d2 p1) p2 q hq0).2 ⟨hjj p q hp0 hq0 p1 q1, q2⟩
  · rw [Bool.eq_iff_iff, joins_iff hn e0 e1, joins_iff hn e0 e1]
    have hev' : ∀ q, bit e q = true → q ≠ v := fun q h h2 => by rw [h2, hev] at h; cases h
    constructor
    · intro h p q hp0 hq0 hbp hbq
      exact ((hreach p hp0 (hin e0 e1 hbp) (hev' p hbp) q hq0).1 (h p q hp0 hq0 hbp hbq)).1
    · intro h p q hp0 hq0 hbp hbq
      exact (hreach p hp0 (hin e0 e1 hbp) (hev' p hbp) q hq0).2 ⟨h p q hp0 hq0 hbp hbq, hev' q hbq⟩
/-- all needless ways are taken away at once -/
theorem all_less {n : Int} {ws : List Wy} (hn : NetIs n ws) {s e : Int} (s0 : 0 ≤ s) (s1 : s ≤ full ws.length) (e0 : 0 ≤ e) (e1 : e < 2 ^ n.toNat) (htree : tree ws s = true) :
    ∀ m : Nat, tree ws (idiff s (atTo ws s (idiff (lvs ws s) e) m)) = true ∧ joins ws (idiff s (atTo ws s (idiff (lvs ws s) e) m)) e = joins ws s e
  | 0 => by
    have : idiff s (atTo ws s (idiff (lvs ws s) e) 0) = s := by
      refine set_ext (idiff_bd s _ s0).1 s0 fun q hq => ?_
      rw [bit_idiff, show atTo ws s (idiff (lvs ws s) e) 0 = 0 from rfl, bit_zero_]; simp
    rw [this]; exact ⟨htree, rfl⟩
  | m + 1 => by
    have ih := all_less hn s0 s1 e0 e1 htree m
    cases hx : ws[m]? with
    | none => rw [show atTo ws s (idiff (lvs ws s) e) (m + 1) = atTo ws s (idiff (lvs ws s) e) m from by rw [atTo, hx]]; exact ih
    | some x =>
      by_cases hc : bit s m = true ∧ iand (wayPl x) (idiff (lvs ws s) e) ≠ 0
      · rw [atTo_yes hx hc.1 hc.2]
        have hbd := atTo_bd ws s (idiff (lvs ws s) e) m
        have hmm : bit (atTo ws s (idiff (lvs ws s) e) m) m = false := bit_big hbd.1 hbd.2 (Int.le_refl _)
        obtain ⟨a0, _, b0, _⟩ := hn.at_ hx
        obtain ⟨v, hv, hvb⟩ : ∃ v, (v = x.a ∨ v = x.b) ∧ bit (idiff (lvs ws s) e) v = true := by
          rcases (iand_ne _ _ _ a0 b0).1 hc.2 with h | h
          · exact ⟨_, .inl rfl, h⟩
          · exact ⟨_, .inr rfl, h⟩
        have v0 : 0 ≤ v := by rcases hv with h | h <;> omega
        rw [bit_idiff] at hvb
        simp only [Bool.and_eq_true, Bool.not_eq_true'] at hvb
        generalize hM : atTo ws s (idiff (lvs ws s) e) m = M at *
        have hib := idiff_bd s M s0
        have e3 : idiff s (ior M (2 ^ m)) = idiff (idiff s M) (2 ^ m) := by
          refine set_ext (idiff_bd s _ s0).1 (idiff_bd _ _ hib.1).1 fun q hq => ?_
          rw [bit_idiff, bit_idiff, bit_idiff, bit_ior]
          cases bit s q <;> cases bit M q <;> simp
        rw [e3]
        have h := one_less hn (t := idiff s M) (e := e) hib.1 (by omega) e0 e1 ih.1 hx (by rw [bit_idiff, hc.1, hmm]; rfl) hv (fun j y hy hb hvy => by
          rw [bit_idiff] at hb
          simp only [Bool.and_eq_true] at hb
          exact lvs_once hn v0 hvb.1 hy hx hb.1 hc.1 hvy hv) hvb.2
        exact ⟨h.1, h.2.trans ih.2⟩
      · rw [atTo_no hx hc]; exact ih
theorem atTo_has {ws : List Wy} {s p : Int} {k : Nat} {x : Wy} (hx : ws[k]? = some x) (hb : bit s k = true) (hi : iand (wayPl x) p ≠ 0) : ∀ m : Nat, k < m → bit (atTo ws s p m) k = true
  | 0, h => by omega
  | m + 1, h => by
    by_cases e : k = m
    · subst e
      rw [atTo_yes hx hb hi, bit_ior, bit_pow k (k : Int) (by omega)]; simp
    · have ih := atTo_has hx hb hi m (by omega)
      cases hy : ws[m]? with
      | none => rw [show atTo ws s p (m + 1) = atTo ws s p m from by rw [atTo, hy]]; exact ih
      | some y =>
        by_cases hc : bit s m = true ∧ iand (wayPl y) p ≠ 0
        · rw [atTo_yes hy hc.1 hc.2, bit_ior, ih]; rfl
        · rw [atTo_no hy hc]; exact ih
/-- no way is needless: all leaves are ends -/
theorem no_needl {n : Int} {ws : List Wy} (hn : NetIs n ws) {s e : Int} (h : needl ws e s = 0) : idiff (lvs ws s) e = 0 := by
  obtain ⟨⟨o0, o1⟩, _⟩ := lvTo_bd hn s ws.length
  have hl : 0 ≤ lvs ws s := (idiff_bd _ _ o0).1
  refine set_ext (idiff_bd _ _ hl).1 (Int.le_refl 0) fun q hq => ?_
  rw [bit_zero_]
  cases hb : bit (idiff (lvs ws s) e) q
  · rfl
  · exfalso
    have hb2 := hb
    rw [bit_idiff] at hb2
    simp only [Bool.and_eq_true] at hb2
    have h1 := hb2.1
    unfold lvs at h1
    rw [bit_idiff] at h1
    simp only [Bool.and_eq_true] at h1
    rw [lv_nodes] at h1
    obtain ⟨k, x, hx, hbk, hqx⟩ := (nds_iff hn s q hq).1 h1.1
    obtain ⟨a0, _, b0, _⟩ := hn.at_ hx
    have hne : iand (wayPl x) (idiff (lvs ws s) e) ≠ 0 := (iand_ne _ _ _ a0 b0).2 (by rcases hqx with e' | e' <;> rw [← e', hb] <;> simp)
    have := atTo_has hx hbk hne ws.length (List.getElem?_eq_some_iff.1 hx).1
    unfold needl at h
    rw [h, bit_zero_] at this; cases this
theorem prF_ok {n : Int} {ws : List Wy} (hn : NetIs n ws) {e : Int} (e0 : 0 ≤ e) (e1 : e < 2 ^ n.toNat) : ∀ (f : Nat) (s : Int), 0 ≤ s → s.toNat ≤ f → s ≤ full ws.length → tree ws s = true →
    0 ≤ prF ws e f s ∧ prF ws e f s ≤ s ∧ tree ws (prF ws e f s) = true ∧ joins ws (prF ws e f s) e = joins ws s e ∧ needl ws e (prF ws e f s) = 0 ∧ (∀ q, 0 ≤ q → bit (prF ws e f s) q = true → bit s q = true)
  | 0, s, s0, hf, s1, ht => by
    have : s = 0 := by omega
    subst this
    exact ⟨Int.le_refl _, Int.le_refl _, ht, rfl, needl_zero ws e, fun _ _ h => h⟩
  | f + 1, s, s0, hf, s1, ht => by
    rw [prF]
    by_cases h : needl ws e s = 0
    · rw [if_pos h]; exact ⟨s0, Int.le_refl _, ht, rfl, h, fun _ _ h => h⟩
    · rw [if_neg h]
      have hl := needl_less s0 h
      have hal := all_less hn s0 s1 e0 e1 ht ws.length
      obtain ⟨p1, p2, p3, p4, p5, p6⟩ := prF_ok hn e0 e1 f (idiff s (needl ws e s)) hl.1 (by omega) (by omega) hal.1
      refine ⟨p1, by omega, p3, p4.trans hal.2, p5, fun q hq hb => ?_⟩
      have := p6 q hq hb
      rw [bit_idiff] at this
      simp only [Bool.and_eq_true] at this
      exact this.1
theorem pr_ok {n : Int} {ws : List Wy} (hn : NetIs n ws) {e s : Int} (e0 : 0 ≤ e) (e1 : e < 2 ^ n.toNat) (s0 : 0 ≤ s) (s1 : s ≤ full ws.length) (ht : tree ws s = true) :
    0 ≤ pr ws e s ∧ pr ws e s ≤ s ∧ tree ws (pr ws e s) = true ∧ joins ws (pr ws e s) e = joins ws s e ∧ idiff (lvs ws (pr ws e s)) e = 0 ∧ idiff (pr ws e s) s = 0 ∧ pr ws e (pr ws e s) = pr ws e s := by
  obtain ⟨p1, p2, p3, p4, p5, p6⟩ := prF_ok hn e0 e1 s.toNat s s0 (Nat.le_refl _) s1 ht
  exact ⟨p1, p2, p3, p4, no_needl hn p5, (idiff_zero p1).2 p6, pr_done p1 p5⟩
end Go.Proofs.Ythadehgpeafniaa
namespace Go.Proofs.Ythadehgpeafniaa
open Go.ChangeShapes Go.WideShapes Go.ChangeAt Go.RowKit

theorem sub_bit_all : ∀ (u : Fin 512) (k : Fin 9), u.val.testBit k.val = true → u.val &&& (u.val ^^^ 2 ^ k.val) = u.val - 2 ^ k.val := by decide +kernel
/-- one member taken out -/
theorem idiff_one {u : Int} {k : Nat} (h0 : 0 ≤ u) (h1 : u < 512) (hk : k < 9) (hb : bit u k = true) : idiff u (2 ^ k) = u - 2 ^ k ∧ (2 : Int) ^ k ≤ u := by
  obtain ⟨x, rfl⟩ := Int.eq_ofNat_of_zero_le h0
  have hb' : x.testBit k = true := by simpa [bit] using hb
  have h := sub_bit_all ⟨x, by omega⟩ ⟨k, hk⟩ hb'
  simp only at h
  have hge : 2 ^ k ≤ x := Nat.ge_two_pow_of_testBit hb'
  have e : ((2 : Int) ^ k) = ((2 ^ k : Nat) : Int) := by simp
  unfold idiff
  rw [e, Int.toNat_natCast, Int.toNat_natCast, h]
  omega
theorem idiff_ior (t m v : Int) (ht : 0 ≤ t) : idiff t (ior m v) = idiff (idiff t m) v := by
  have h1 := idiff_bd t m ht
  refine set_ext (idiff_bd _ _ ht).1 (idiff_bd _ _ h1.1).1 fun q hq => ?_
  rw [bit_idiff, bit_idiff, bit_idiff, bit_ior]
  cases bit t q <;> cases bit m q <;> cases bit v q <;> rfl
theorem idiff_none (t : Int) (ht : 0 ≤ t) : idiff t 0 = t := by
  refine set_ext (idiff_bd _ _ ht).1 ht fun q hq => ?_
  rw [bit_idiff, bit_zero_]
  cases bit t q <;> rfl
theorem iand_comm (a b : Int) : iand a b = iand b a := by unfold iand; rw [Nat.and_comm]
theorem atTo_at (ws : List Wy) (t p : Int) (k : Nat) (ht : 0 ≤ t) : bit (idiff t (atTo ws t p k)) k = bit t k := by
  have h := atTo_bd ws t p k
  rw [bit_idiff, bit_big h.1 h.2 (Int.le_refl _)]
  simp
theorem ior_ne0 (a : Int) (k : Nat) : ior a (2 ^ k) ≠ 0 := by
  intro h
  have h1 : bit (ior a (2 ^ k)) k = true := by rw [bit_ior, bit_shlN k k (by omega)]; simp
  rw [h, bit_zero_] at h1; cases h1


end Go.Proofs.Ythadehgpeafniaa
namespace Go.Proofs.Ythadehgpeafniaa
open Go.ChangeShapes Go.WideShapes Go.ChangeAt Go.RowKit

/-- the places of a way are joined exactly if one comes from the one to the other one -/
theorem joins_way {n : Int} {ws : List Wy} {s : Int} (hn : NetIs n ws) {x : Wy} {k : Nat} (hx : ws[k]? = some x) : joins ws s (wayPl x) = bit (reach ws s x.a) x.b := by
  obtain ⟨a0, a1, b0, b1, _⟩ := hn.at_ hx
  have hw := wayPl_bd hn hx
  have hbits : ∀ q, 0 ≤ q → bit (wayPl x) q = (decide (q = x.a) || decide (q = x.b)) := fun q hq => by
    rw [wayPl_is, bit_ior, bit_shl x.a q a0 hq, bit_shl x.b q b0 hq]
  rw [Bool.eq_iff_iff, joins_iff hn hw.1 (wayPl_lt hn hx)]
  constructor
  · intro h
    exact h x.a x.b a0 b0 (by rw [hbits _ a0]; simp) (by rw [hbits _ b0]; simp)
  · intro h p q hp hq hbp hbq
    rw [hbits p hp] at hbp
    rw [hbits q hq] at hbq
    simp only [Bool.or_eq_true, decide_eq_true_eq] at hbp hbq
    have ha := (reach_is (s := s) hn a0 a1).has
    have hback : reach ws s x.b = reach ws s x.a := reach_back (s := s) hn a0 a1 b0 h
    have key : ∀ y, (y = x.a ∨ y = x.b) → reach ws s y = reach ws s x.a := fun y hy => by
      rcases hy with rfl | rfl
      · rfl
      · exact hback
    rw [key p hbp]
    rcases hbq with rfl | rfl
    · exact ha
    · exact h

/-- the bridges among the first k ways -/
noncomputable def brTo (ws : List Wy) (all : Int) : Nat → Int
  | 0 => 0
  | k + 1 => match ws[k]? with
    | some x => if bit (reach ws (all - 2 ^ k) x.a) x.b = true then brTo ws all k else ior (brTo ws all k) (2 ^ k)
    | none => brTo ws all k
theorem brTo_in {ws : List Wy} {all : Int} {k : Nat} {x : Wy} (hx : ws[k]? = some x) (h : bit (reach ws (all - 2 ^ k) x.a) x.b = true) : brTo ws all (k + 1) = brTo ws all k := by
  rw [brTo, hx]; simp only; rw [if_pos h]
theorem brTo_out {ws : List Wy} {all : Int} {k : Nat} {x : Wy} (hx : ws[k]? = some x) (h : bit (reach ws (all - 2 ^ k) x.a) x.b = false) : brTo ws all (k + 1) = ior (brTo ws all k) (2 ^ k) := by
  rw [brTo, hx]; simp only; rw [if_neg (by rw [h]; simp)]
theorem brTo_bd (ws : List Wy) (all : Int) : ∀ k, 0 ≤ brTo ws all k ∧ brTo ws all k < 2 ^ k
  | 0 => by simp [brTo]
  | k + 1 => by
    have ih := brTo_bd ws all k
    have h1 : ((2 : Int) ^ (k + 1)) = 2 ^ k * 2 := Int.pow_succ 2 k
    have h2 := pow_bd k k (by omega)
    rw [Int.toNat_natCast] at h2
    cases hx : ws[k]? with
    | none => rw [brTo, hx]; simp only; omega
    | some x =>
      cases hc : bit (reach ws (all - 2 ^ k) x.a) x.b
      · rw [brTo_out hx hc]; exact ior_bd _ _ (k + 1) (by omega) (by omega)
      · rw [brTo_in hx hc]; omega
theorem full_bit (len k : Nat) (h : k < len) : bit (full len) k = true := by
  unfold bit full
  have e : ((2 : Int) ^ len - 1).toNat = 2 ^ len - 1 := by
    have e1 : ((2 : Int) ^ len) = ((2 ^ len : Nat) : Int) := by simp
    have : 1 ≤ 2 ^ len := Nat.one_le_two_pow
    omega
  rw [e, Int.toNat_natCast, Nat.testBit_two_pow_sub_one]
  simpa using h
noncomputable def bridgesOf (n : Int) (ws : List Wy) : Int := if netOk n ws = true then brTo ws (full ws.length) ws.length else -1

theorem keep5 {w w' : World} {h g : Nat} {x0 x1 y0 y1 y2 : Value} (hb : Below w.heap.size w w') (hk : w.cell? ⟨h, 0, none⟩ = some x0 ∧ w.cell? ⟨h, 1, none⟩ = some x1 ∧ w.cell? ⟨g, 0, none⟩ = some y0 ∧ w.cell? ⟨g, 1, none⟩ = some y1 ∧ w.cell? ⟨g, 2, none⟩ = some y2) (hl : h < w.heap.size) (hg : g < w.heap.size) :
    w'.cell? ⟨h, 0, none⟩ = some x0 ∧ w'.cell? ⟨h, 1, none⟩ = some x1 ∧ w'.cell? ⟨g, 0, none⟩ = some y0 ∧ w'.cell? ⟨g, 1, none⟩ = some y1 ∧ w'.cell? ⟨g, 2, none⟩ = some y2 :=
  ⟨(hb.cell (p := ⟨h, 0, none⟩) hl).trans hk.1, (hb.cell (p := ⟨h, 1, none⟩) hl).trans hk.2.1, (hb.cell (p := ⟨g, 0, none⟩) hg).trans hk.2.2.1, (hb.cell (p := ⟨g, 1, none⟩) hg).trans hk.2.2.2.1, (hb.cell (p := ⟨g, 2, none⟩) hg).trans hk.2.2.2.2⟩
theorem start5 {w : World} {h : Nat} {x0 x1 y0 y1 y2 : Value} {t : TypeId} (b0 : w.cell? ⟨h, 0, none⟩ = some x0) (b1 : w.cell? ⟨h, 1, none⟩ = some x1) (hl : h < w.heap.size) :
    (w.alloc (.cells #[y0, y1, y2] t)).cell? ⟨h, 0, none⟩ = some x0 ∧ (w.alloc (.cells #[y0, y1, y2] t)).cell? ⟨h, 1, none⟩ = some x1 ∧ (w.alloc (.cells #[y0, y1, y2] t)).cell? ⟨w.heap.size, 0, none⟩ = some y0 ∧ (w.alloc (.cells #[y0, y1, y2] t)).cell? ⟨w.heap.size, 1, none⟩ = some y1 ∧ (w.alloc (.cells #[y0, y1, y2] t)).cell? ⟨w.heap.size, 2, none⟩ = some y2 :=
  ⟨(World.cell?_alloc_lt w _ _ hl).trans b0, (World.cell?_alloc_lt w _ _ hl).trans b1, cell_of_row _ _ 0 _ _ (0, 0) (heap_alloc_new w _), cell_of_row _ _ 1 _ _ (0, 0) (heap_alloc_new w _), cell_of_row _ _ 2 _ _ (0, 0) (heap_alloc_new w _)⟩


theorem keep4 {w w' : World} {h g o : Nat} {x0 x1 y0 y1 : Value} (hb : Below w.heap.size w w') (hk : w.cell? ⟨h, 0, none⟩ = some x0 ∧ w.cell? ⟨h, 1, none⟩ = some x1 ∧ w.cell? ⟨g, o, none⟩ = some y0 ∧ w.cell? ⟨g, o + 1, none⟩ = some y1) (hl : h < w.heap.size) (hg : g < w.heap.size) :
    w'.cell? ⟨h, 0, none⟩ = some x0 ∧ w'.cell? ⟨h, 1, none⟩ = some x1 ∧ w'.cell? ⟨g, o, none⟩ = some y0 ∧ w'.cell? ⟨g, o + 1, none⟩ = some y1 :=
  ⟨(hb.cell (p := ⟨h, 0, none⟩) hl).trans hk.1, (hb.cell (p := ⟨h, 1, none⟩) hl).trans hk.2.1, (hb.cell (p := ⟨g, o, none⟩) hg).trans hk.2.2.1, (hb.cell (p := ⟨g, o + 1, none⟩) hg).trans hk.2.2.2⟩

end Go.Proofs.Ythadehgpeafniaa
