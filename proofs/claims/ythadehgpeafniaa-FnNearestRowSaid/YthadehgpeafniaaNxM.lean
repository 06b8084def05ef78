/- The dearest way of a set, and the least that it can be of a set that joins some ends: the least tree tells it. Plain mathematics. -/
import Derived.Test.YthadehgpeafniaaGrM
import Derived.Test.YthadehgpeafniaaMJ
set_option linter.unusedVariables false
set_option linter.unusedSimpArgs false
namespace Go.Proofs.Ythadehgpeafniaa
open Go.RowKit

/-! ### the dearest way of a set -/
def dearTo (ws : List Wy) (s : Int) : Nat → Int
  | 0 => 0
  | k + 1 => match ws[k]? with
    | some x => if bit s k = true then max (dearTo ws s k) x.c else dearTo ws s k
    | none => dearTo ws s k
def dear (ws : List Wy) (s : Int) : Int := dearTo ws s ws.length
def dearestOf (n : Int) (ws : List Wy) (s : Int) : Int := if setOk n ws s = true then dear ws s else -1
theorem dearTo_yes {ws : List Wy} {s : Int} {k : Nat} {x : Wy} (hx : ws[k]? = some x) (hb : bit s k = true) : dearTo ws s (k + 1) = max (dearTo ws s k) x.c := by rw [dearTo, hx]; simp only; rw [if_pos hb]
theorem dearTo_no {ws : List Wy} {s : Int} {k : Nat} {x : Wy} (hx : ws[k]? = some x) (hb : bit s k = false) : dearTo ws s (k + 1) = dearTo ws s k := by rw [dearTo, hx]; simp only; rw [if_neg (by rw [hb]; simp)]
theorem dearTo_le (ws : List Wy) (s : Int) {c : Int} : ∀ m : Nat, dearTo ws s m ≤ c ↔ 0 ≤ c ∧ ∀ (k : Nat) (x : Wy), k < m → ws[k]? = some x → bit s k = true → x.c ≤ c
  | 0 => by
    rw [dearTo]
    exact ⟨fun h => ⟨h, fun k x hk => by omega⟩, fun h => h.1⟩
  | m + 1 => by
    have ih := dearTo_le ws s (c := c) m
    cases hx : ws[m]? with
    | none =>
      rw [dearTo, hx]; simp only
      rw [ih]
      constructor
      · rintro ⟨a, b⟩
        refine ⟨a, fun k x hk hxk hb => ?_⟩
        by_cases e : k = m
        · subst e; rw [hx] at hxk; cases hxk
        · exact b k x (by omega) hxk hb
      · rintro ⟨a, b⟩
        exact ⟨a, fun k x hk => b k x (by omega)⟩
    | some y =>
      cases hb : bit s m
      · rw [dearTo_no hx hb, ih]
        constructor
        · rintro ⟨a, b⟩
          refine ⟨a, fun k x hk hxk hbk => ?_⟩
          by_cases e : k = m
          · subst e; rw [hb] at hbk; cases hbk
          · exact b k x (by omega) hxk hbk
        · rintro ⟨a, b⟩
          exact ⟨a, fun k x hk => b k x (by omega)⟩
      · rw [dearTo_yes hx hb]
        constructor
        · intro h
          obtain ⟨a, b⟩ := ih.1 (by omega)
          refine ⟨a, fun k x hk hxk hbk => ?_⟩
          by_cases e : k = m
          · subst e; rw [hx] at hxk; cases hxk; omega
          · exact b k x (by omega) hxk hbk
        · rintro ⟨a, b⟩
          have h1 := ih.2 ⟨a, fun k x hk => b k x (by omega)⟩
          have h2 := b m y (by omega) hx hb
          omega
theorem dear_le {ws : List Wy} {s c : Int} : dear ws s ≤ c ↔ 0 ≤ c ∧ ∀ (k : Nat) (x : Wy), ws[k]? = some x → bit s k = true → x.c ≤ c := by
  unfold dear
  rw [dearTo_le]
  constructor
  · rintro ⟨a, b⟩; exact ⟨a, fun k x hx => b k x (List.getElem?_eq_some_iff.1 hx).1 hx⟩
  · rintro ⟨a, b⟩; exact ⟨a, fun k x _ hx => b k x hx⟩
theorem dear_nn (ws : List Wy) (s : Int) : 0 ≤ dear ws s := (dear_le.1 (Int.le_refl _)).1
theorem dear_way {ws : List Wy} {s : Int} {k : Nat} {x : Wy} (hx : ws[k]? = some x) (hb : bit s k = true) : x.c ≤ dear ws s := (dear_le.1 (Int.le_refl _)).2 k x hx hb
theorem dear_mono {ws : List Wy} {s t : Int} (h : ∀ q, 0 ≤ q → bit s q = true → bit t q = true) : dear ws s ≤ dear ws t :=
  dear_le.2 ⟨dear_nn _ _, fun k x hx hb => dear_way hx (h k (by omega) hb)⟩
theorem dear_zero (ws : List Wy) : dear ws 0 = 0 := by
  have h1 := dear_nn ws 0
  have h2 : dear ws 0 ≤ 0 := dear_le.2 ⟨Int.le_refl _, fun k x hx hb => by rw [bit_zero_] at hb; cases hb⟩
  omega
section
variable {n : Int} {ws : List Wy} (hn : NetIs n ws)
include hn
theorem dear_bd (s : Int) : 0 ≤ dear ws s ∧ dear ws s ≤ 9 :=
  ⟨dear_nn ws s, dear_le.2 ⟨by omega, fun k x hx _ => by have := hn.at_ hx; omega⟩⟩
theorem dearTo_bd (s : Int) (k : Nat) : 0 ≤ dearTo ws s k ∧ dearTo ws s k ≤ 9 :=
  ⟨((dearTo_le ws s k).1 (Int.le_refl _)).1, (dearTo_le ws s k).2 ⟨by omega, fun j x _ hx _ => by have := hn.at_ hx; omega⟩⟩
theorem dear_one {k : Nat} {x : Wy} (hx : ws[k]? = some x) : dear ws (2 ^ k) = x.c := by
  have hc := hn.at_ hx
  have h1 := dear_way (s := 2 ^ k) hx (by rw [bit_pow k k (by omega)]; simp)
  have h2 : dear ws (2 ^ k) ≤ x.c := dear_le.2 ⟨by omega, fun j y hy hb => by
    rw [bit_pow k j (by omega), decide_eq_true_eq] at hb
    obtain rfl : j = k := by omega
    rw [hx] at hy; cases hy; omega⟩
  omega
theorem dear_cost (s : Int) : dear ws s ≤ cost ws s := by
  refine dear_le.2 ⟨(cost_bds hn s).1, fun k x hx hb => ?_⟩
  have h1 := cost_mono hn (u := 2 ^ k) (s := s) fun q hq hbq => by
    rw [bit_pow k q hq, decide_eq_true_eq] at hbq
    rw [hbq]; exact hb
  have h2 := cost_add (ws := ws) (u := 0) hx (bit_zero_ _)
  rw [cost_zero] at h2
  have e : ior 0 ((2 : Int) ^ k) = 2 ^ k := by
    have hp : (0 : Int) ≤ 2 ^ k := by have := pow_bd k k (by omega); rw [Int.toNat_natCast] at this; omega
    refine set_ext (ior_nn _ _) hp fun q hq => ?_
    rw [bit_ior, bit_zero_]; simp
  rw [e] at h2
  omega
end

/-! ### all ways up to a cost -/
def uptoTo (ws : List Wy) (c : Int) : Nat → Int
  | 0 => 0
  | k + 1 => match ws[k]? with
    | some x => if x.c ≤ c then ior (uptoTo ws c k) (2 ^ k) else uptoTo ws c k
    | none => uptoTo ws c k
def upto (ws : List Wy) (c : Int) : Int := uptoTo ws c ws.length
theorem uptoTo_yes {ws : List Wy} {c : Int} {k : Nat} {x : Wy} (hx : ws[k]? = some x) (h : x.c ≤ c) : uptoTo ws c (k + 1) = ior (uptoTo ws c k) (2 ^ k) := by rw [uptoTo, hx]; simp only; rw [if_pos h]
theorem uptoTo_no {ws : List Wy} {c : Int} {k : Nat} {x : Wy} (hx : ws[k]? = some x) (h : ¬ x.c ≤ c) : uptoTo ws c (k + 1) = uptoTo ws c k := by rw [uptoTo, hx]; simp only; rw [if_neg h]
theorem uptoTo_bd (ws : List Wy) (c : Int) : ∀ k, 0 ≤ uptoTo ws c k ∧ uptoTo ws c k < 2 ^ k
  | 0 => by simp [uptoTo]
  | k + 1 => by
    have ih := uptoTo_bd ws c k
    have h1 : ((2 : Int) ^ (k + 1)) = 2 ^ k * 2 := Int.pow_succ 2 k
    have h2 := pow_bd k k (by omega)
    rw [Int.toNat_natCast] at h2
    cases hx : ws[k]? with
    | none => rw [uptoTo, hx]; simp only; omega
    | some x =>
      by_cases hc : x.c ≤ c
      · rw [uptoTo_yes hx hc]; exact ior_bd _ _ (k + 1) (by omega) (by omega)
      · rw [uptoTo_no hx hc]; omega
theorem uptoTo_bit (ws : List Wy) (c : Int) (j : Nat) : ∀ k, bit (uptoTo ws c k) j = true ↔ j < k ∧ ∃ x, ws[j]? = some x ∧ x.c ≤ c
  | 0 => by rw [uptoTo, bit_zero_]; simp
  | k + 1 => by
    have ih := uptoTo_bit ws c j k
    cases hx : ws[k]? with
    | none =>
      rw [uptoTo, hx]; simp only
      rw [ih]
      constructor
      · rintro ⟨a, b⟩; exact ⟨by omega, b⟩
      · rintro ⟨a, x, hxj, h⟩
        refine ⟨?_, x, hxj, h⟩
        by_cases e : j = k
        · subst e; rw [hx] at hxj; cases hxj
        · omega
    | some y =>
      by_cases hc : y.c ≤ c
      · rw [uptoTo_yes hx hc, bit_ior, bit_pow k j (by omega), Bool.or_eq_true, ih, decide_eq_true_eq]
        constructor
        · rintro (⟨a, b⟩ | h)
          · exact ⟨by omega, b⟩
          · obtain rfl : j = k := by omega
            exact ⟨by omega, y, hx, hc⟩
        · rintro ⟨a, b⟩
          by_cases e : j = k
          · right; omega
          · exact .inl ⟨by omega, b⟩
      · rw [uptoTo_no hx hc, ih]
        constructor
        · rintro ⟨a, b⟩; exact ⟨by omega, b⟩
        · rintro ⟨a, x, hxj, h⟩
          refine ⟨?_, x, hxj, h⟩
          by_cases e : j = k
          · subst e; rw [hx] at hxj; cases hxj; exact absurd h hc
          · omega
theorem upto_bit {ws : List Wy} {c : Int} {j : Nat} {x : Wy} (hx : ws[j]? = some x) : bit (upto ws c) j = true ↔ x.c ≤ c := by
  unfold upto
  rw [uptoTo_bit]
  constructor
  · rintro ⟨_, y, hy, h⟩
    rw [hx] at hy; cases hy; exact h
  · intro h
    exact ⟨(List.getElem?_eq_some_iff.1 hx).1, x, hx, h⟩
theorem upto_bd (ws : List Wy) (c : Int) : 0 ≤ upto ws c ∧ upto ws c ≤ full ws.length :=
  ⟨(uptoTo_bd ws c _).1, (full_lt _ _).2 (uptoTo_bd ws c _).2⟩
theorem set_way {ws : List Wy} {s q : Int} (s0 : 0 ≤ s) (s1 : s ≤ full ws.length) (hq : 0 ≤ q) (hb : bit s q = true) : ∃ (k : Nat) (x : Wy), q = k ∧ ws[k]? = some x := by
  have h1 := set_sub s0 ((full_lt ws.length s).1 s1) hb
  obtain ⟨k, rfl⟩ := Int.eq_ofNat_of_zero_le hq
  exact ⟨k, _, rfl, List.getElem?_eq_getElem (by omega)⟩
/-- a set is within all ways up to c exactly if its dearest way costs no more -/
theorem upto_iff {ws : List Wy} {s c : Int} (s0 : 0 ≤ s) (s1 : s ≤ full ws.length) (c0 : 0 ≤ c) : (∀ q, 0 ≤ q → bit s q = true → bit (upto ws c) q = true) ↔ dear ws s ≤ c := by
  rw [dear_le]
  constructor
  · intro h
    exact ⟨c0, fun k x hx hb => (upto_bit hx).1 (h k (by omega) hb)⟩
  · rintro ⟨_, h⟩ q hq hb
    obtain ⟨k, x, rfl, hx⟩ := set_way s0 s1 hq hb
    exact (upto_bit hx).2 (h k x hx hb)

/-! ### the least dearest way -/
noncomputable def ldF (ws : List Wy) (e : Int) : Nat → Nat → Int
  | _, 0 => -1
  | c, f + 1 => if joins ws (upto ws c) e = true then c else ldF ws e (c + 1) f
noncomputable def ld (ws : List Wy) (e : Int) : Int := ldF ws e 0 10
noncomputable def leastDearest (n : Int) (ws : List Wy) (e : Int) : Int := if (netOk n ws && plOk n e) = true then ld ws e else -1
theorem ldF_ok (ws : List Wy) (e : Int) : ∀ (f c : Nat), (ldF ws e c f = -1 ∧ ∀ i : Nat, c ≤ i → i < c + f → joins ws (upto ws i) e = false) ∨ (∃ i : Nat, ldF ws e c f = i ∧ c ≤ i ∧ i < c + f ∧ joins ws (upto ws i) e = true ∧ ∀ j : Nat, c ≤ j → j < i → joins ws (upto ws j) e = false)
  | 0, c => .inl ⟨rfl, fun i h1 h2 => by omega⟩
  | f + 1, c => by
    rw [ldF]
    cases hj : joins ws (upto ws c) e
    · rw [if_neg (by simp)]
      rcases ldF_ok ws e f (c + 1) with ⟨h1, h2⟩ | ⟨i, h1, h2, h3, h4, h5⟩
      · refine .inl ⟨h1, fun i a b => ?_⟩
        by_cases e9 : i = c
        · subst e9; exact hj
        · exact h2 i (by omega) (by omega)
      · refine .inr ⟨i, h1, by omega, by omega, h4, fun j a b => ?_⟩
        by_cases e9 : j = c
        · subst e9; exact hj
        · exact h5 j (by omega) b
    · rw [if_pos rfl]
      exact .inr ⟨c, rfl, by omega, by omega, hj, fun j a b => by omega⟩
section
variable {n : Int} {ws : List Wy} {e : Int} (hn : NetIs n ws) (e0 : 0 ≤ e) (e1 : e < 2 ^ n.toNat)
theorem ld_bd : -1 ≤ ld ws e ∧ ld ws e ≤ 9 := by
  rcases ldF_ok ws e 10 0 with ⟨h, _⟩ | ⟨i, h, _, h3, _⟩
  · unfold ld; rw [h]; omega
  · unfold ld; rw [h]; omega
theorem ld_joins (h : 0 ≤ ld ws e) : joins ws (upto ws (ld ws e)) e = true := by
  rcases ldF_ok ws e 10 0 with ⟨h1, _⟩ | ⟨i, h1, _, _, h4, _⟩
  · unfold ld at h; rw [h1] at h; omega
  · unfold ld; rw [h1]; exact h4
include hn e0 e1 in
/-- no set that joins does better -/
theorem ld_le {s : Int} (s0 : 0 ≤ s) (s1 : s ≤ full ws.length) (hj : joins ws s e = true) : 0 ≤ ld ws e ∧ ld ws e ≤ dear ws s := by
  have hd := dear_bd hn s
  obtain ⟨d, hd'⟩ := Int.eq_ofNat_of_zero_le hd.1
  have hu : joins ws (upto ws d) e = true := joins_mono hn e0 e1 ((upto_iff s0 s1 (by omega)).2 (by omega)) hj
  rcases ldF_ok ws e 10 0 with ⟨h1, h2⟩ | ⟨i, h1, _, h3, h4, h5⟩
  · rw [h2 d (by omega) (by omega)] at hu; cases hu
  · unfold ld
    rw [h1]
    refine ⟨by omega, ?_⟩
    by_cases h : d < i
    · rw [h5 d (by omega) h] at hu; cases hu
    · omega
include hn e0 e1 in
theorem ld_at {c : Int} (c0 : 0 ≤ c) (hj : joins ws (upto ws c) e = true) : 0 ≤ ld ws e ∧ ld ws e ≤ c := by
  have hb := upto_bd ws c
  have h := ld_le hn e0 e1 hb.1 hb.2 hj
  have h2 := (upto_iff hb.1 hb.2 c0).1 fun _ _ h => h
  omega
include hn e0 e1 in
theorem ld_mono {f : Int} (f0 : 0 ≤ f) (f1 : f < 2 ^ n.toNat) (hs : ∀ q, 0 ≤ q → bit f q = true → bit e q = true) (h : 0 ≤ ld ws e) : 0 ≤ ld ws f ∧ ld ws f ≤ ld ws e :=
  ld_at hn f0 f1 h (joins_less_ends hn e0 e1 f0 f1 hs (ld_joins h))
include hn e0 e1 in
/-- the greatest for two of the ends -/
theorem ld_pairs {c : Int} (c0 : 0 ≤ c) (h : ∀ a b : Int, 0 ≤ a → b < a → 0 ≤ b → bit e a = true → bit e b = true → 0 ≤ ld ws (both a b) ∧ ld ws (both a b) ≤ c) : 0 ≤ ld ws e ∧ ld ws e ≤ c := by
  refine ld_at hn e0 e1 c0 ((joins_iff hn e0 e1).2 fun p q p0 q0 hp hq => ?_)
  have hpn : p < n := by have := set_sub e0 e1 hp; have := hn.lo; omega
  have hqn : q < n := by have := set_sub e0 e1 hq; have := hn.lo; omega
  have key : ∀ a b : Int, 0 ≤ a → b < a → 0 ≤ b → a < n → bit e a = true → bit e b = true → bit (reach ws (upto ws c) a) b = true := fun a b a0 hba b0 ha hae hbe => by
    obtain ⟨h1, h2⟩ := h a b a0 hba b0 hae hbe
    have h3 := ld_joins h1
    have h4 := (joins_both hn a0 ha b0 (by omega)).1 h3
    refine re_mono hn a0 ha b0 (fun k k0 hk => ?_) h4
    have hb := upto_bd ws (ld ws (both a b))
    obtain ⟨j, x, rfl, hx⟩ := set_way hb.1 hb.2 k0 hk
    have h5 := (upto_bit hx).1 hk
    exact (upto_bit hx).2 (by omega)
  by_cases h1 : q < p
  · exact key p q p0 h1 q0 hpn hp hq
  · by_cases h2 : p < q
    · exact re_sym hn q0 hqn p0 (key q p q0 h2 p0 hqn hq hp)
    · obtain rfl : p = q := by omega
      exact (reach_is hn p0 hpn).has
end

/-! ### leaves of trees -/
/-- met again: two ways -/
theorem lv_two {n : Int} {ws : List Wy} (hn : NetIs n ws) (s : Int) {q : Int} (hq : 0 ≤ q) : ∀ k : Nat, bit (lvTo ws s k).2 q = true → ∃ (i j : Nat) (x y : Wy), i < j ∧ ws[i]? = some x ∧ ws[j]? = some y ∧ bit s i = true ∧ bit s j = true ∧ (q = x.a ∨ q = x.b) ∧ (q = y.a ∨ q = y.b)
  | 0, h => by rw [lvTo, bit_zero_] at h; cases h
  | k + 1, h => by
    cases hx : ws[k]? with
    | none => simp only [lvTo, hx] at h; exact lv_two hn s hq k h
    | some y =>
      cases hb : bit s k
      · rw [lvTo_no hx hb] at h; exact lv_two hn s hq k h
      · rw [(lvTo_yes hx hb).2, bit_ior, Bool.or_eq_true] at h
        rcases h with h | h
        · exact lv_two hn s hq k h
        · rw [bit_iand, Bool.and_eq_true, lv_nodes] at h
          obtain ⟨i, x, hi, hxi, hbi, hqi⟩ := (nodes_iff hn s q hq k).1 h.1
          have hy := hn.at_ hx
          have h2 := h.2
          unfold wayPl at h2
          rw [bit_ior] at h2
          unfold shl1 at h2
          rw [bit_shl _ _ (by omega) hq, bit_shl _ _ (by omega) hq] at h2
          simp only [Bool.or_eq_true, decide_eq_true_eq] at h2
          exact ⟨i, k, x, y, hi, hxi, hx, hbi, hb, hqi, by omega⟩
/-- a place of a set that is no leaf has another way -/
theorem not_leaf {n : Int} {ws : List Wy} (hn : NetIs n ws) {s : Int} {u : Int} (hu : 0 ≤ u) {k : Nat} {x : Wy} (hx : ws[k]? = some x) (hk : bit s k = true) (hux : u = x.a ∨ u = x.b) (hl : bit (lvs ws s) u = false) :
    ∃ (j : Nat) (y : Wy), j ≠ k ∧ ws[j]? = some y ∧ bit s j = true ∧ (u = y.a ∨ u = y.b) := by
  unfold lvs at hl
  rw [bit_idiff, lv_nodes, (nodes_iff hn s u hu ws.length).2 ⟨k, x, (List.getElem?_eq_some_iff.1 hx).1, hx, hk, hux⟩] at hl
  have h2 : bit (lvTo ws s ws.length).2 u = true := by simpa using hl
  obtain ⟨i, j, y, z, hij, hy, hz, hi, hj, h3, h4⟩ := lv_two hn s hu ws.length h2
  by_cases e : i = k
  · exact ⟨j, z, by omega, hz, hj, h4⟩
  · exact ⟨i, y, e, hy, hi, h3⟩
/-- none of the set's ways is joined by the others -/
def Forest (ws : List Wy) (t : Int) : Prop := ∀ (k : Nat) (x : Wy), ws[k]? = some x → bit t k = true → bit (reach ws (idiff t (2 ^ k)) x.a) x.b = false
theorem less_num {a b q : Int} (a0 : 0 ≤ a) (b0 : 0 ≤ b) (h : ∀ p, 0 ≤ p → bit a p = true → bit b p = true) (q0 : 0 ≤ q) (hq : bit b q = true) (hq' : bit a q = false) : a < b := by
  have h1 := idiff_bd b a b0
  have hne : idiff b a ≠ 0 := fun e => by
    have : bit (idiff b a) q = true := by rw [bit_idiff, hq, hq']; rfl
    rw [e, bit_zero_] at this; cases this
  have h2 := idiff_less b0 hne h1.1 (fun p hp hb => by rw [bit_idiff, Bool.and_eq_true] at hb; exact hb.1)
  have e : idiff b (idiff b a) = a := set_ext h2.1 a0 fun p hp => by
    rw [bit_idiff, bit_idiff]
    cases hb : bit b p
    · cases ha : bit a p
      · rfl
      · rw [h p hp ha] at hb; cases hb
    · cases ha : bit a p <;> rfl
  omega
section
variable {n : Int} {ws : List Wy} (hn : NetIs n ws)
include hn
theorem forest_way {t : Int} (hf : Forest ws t) {k : Nat} {x : Wy} {v u : Int} (hx : ws[k]? = some x) (hk : bit t k = true) (hvu : (v = x.a ∧ u = x.b) ∨ (v = x.b ∧ u = x.a)) : bit (reach ws (idiff t (2 ^ k)) u) v = false := by
  have hb := hn.at_ hx
  have h := hf k x hx hk
  rcases hvu with ⟨rfl, rfl⟩ | ⟨rfl, rfl⟩
  · cases h9 : bit (reach ws (idiff t (2 ^ k)) x.b) x.a
    · rfl
    · rw [re_sym hn (by omega) (by omega) (by omega) h9] at h; cases h
  · exact h
/-- beyond each way of a forest there is a leaf -/
theorem leaf_beyond {t : Int} (hf : Forest ws t) : ∀ (N : Nat) {k : Nat} {x : Wy} {v u : Int}, ws[k]? = some x → bit t k = true → (v = x.a ∧ u = x.b) ∨ (v = x.b ∧ u = x.a) → reach ws (idiff t (2 ^ k)) u < N →
    ∃ p : Int, 0 ≤ p ∧ p < n ∧ bit (lvs ws t) p = true ∧ bit (reach ws (idiff t (2 ^ k)) u) p = true
  | 0, k, x, v, u, hx, hk, hvu, hN => by
    have hb := hn.at_ hx
    have hu : 0 ≤ u ∧ u < n := by omega
    have := (reach_is (s := idiff t (2 ^ k)) hn hu.1 hu.2).lo
    omega
  | N + 1, k, x, v, u, hx, hk, hvu, hN => by
    have hb := hn.at_ hx
    have hu : 0 ≤ u ∧ u < n := by omega
    have hv : 0 ≤ v ∧ v < n := by omega
    have RK := reach_is (s := idiff t (2 ^ k)) hn hu.1 hu.2
    cases hl : bit (lvs ws t) u
    · obtain ⟨j, y, hjk, hy, hj, huy⟩ := not_leaf hn hu.1 hx hk (by omega) hl
      have hyb := hn.at_ hy
      obtain ⟨u1, hu1⟩ : ∃ u1, (u = y.a ∧ u1 = y.b) ∨ (u = y.b ∧ u1 = y.a) := by
        rcases huy with h | h
        · exact ⟨y.b, .inl ⟨h, rfl⟩⟩
        · exact ⟨y.a, .inr ⟨h, rfl⟩⟩
      have hu1b : 0 ≤ u1 ∧ u1 < n := by omega
      have hno := forest_way hn hf hy hj hu1
      have hnk := forest_way hn hf hx hk hvu
      have RJ := reach_is (s := idiff t (2 ^ j)) hn hu1b.1 hu1b.2
      have RS := reach_is (s := idiff (idiff t (2 ^ j)) (2 ^ k)) hn hu1b.1 hu1b.2
      -- the step to u1 does without k
      have hstep : bit (reach ws (idiff t (2 ^ k)) u) u1 = true := by
        have hjb : bit (idiff t (2 ^ k)) j = true := by rw [bit_less _ _ _ (by omega), hj]; simp; omega
        have h9 := re_way hn hy hjb
        rcases hu1 with ⟨rfl, rfl⟩ | ⟨rfl, rfl⟩
        · exact h9
        · exact re_sym hn (by omega) (by omega) (by omega) h9
      have hsubS : ∀ q, 0 ≤ q → bit (reach ws (idiff (idiff t (2 ^ j)) (2 ^ k)) u1) q = true → bit (reach ws (idiff t (2 ^ k)) u) q = true := fun q hq h => by
        refine re_trans hn hu.1 hu.2 hu1b.1 hstep (re_mono hn hu1b.1 hu1b.2 hq (fun i hi hbi => ?_) h)
        rw [bit_less _ _ _ hi, bit_less _ _ _ hi] at hbi
        rw [bit_less _ _ _ hi]
        simp only [Bool.and_eq_true] at hbi ⊢
        exact ⟨hbi.1.1, hbi.2⟩
      have hsubJ : ∀ q, 0 ≤ q → bit (reach ws (idiff (idiff t (2 ^ j)) (2 ^ k)) u1) q = true → bit (reach ws (idiff t (2 ^ j)) u1) q = true := fun q hq h =>
        re_mono hn hu1b.1 hu1b.2 hq (fun i hi hbi => by
          rw [bit_less _ _ _ hi] at hbi
          simp only [Bool.and_eq_true] at hbi
          exact hbi.1) h
      have hEq : ∀ q, 0 ≤ q → bit (reach ws (idiff t (2 ^ j)) u1) q = true → bit (reach ws (idiff (idiff t (2 ^ j)) (2 ^ k)) u1) q = true :=
        RJ.least (bit (reach ws (idiff (idiff t (2 ^ j)) (2 ^ k)) u1)) RS.has (fun i z hz hbi => by
          by_cases e : i = k
          · subst e
            rw [hx] at hz; cases hz
            have n1 : bit (reach ws (idiff (idiff t (2 ^ j)) (2 ^ i)) u1) u = false := by
              cases h9 : bit (reach ws (idiff (idiff t (2 ^ j)) (2 ^ i)) u1) u
              · rfl
              · rw [hsubJ u hu.1 h9] at hno; cases hno
            have n2 : bit (reach ws (idiff (idiff t (2 ^ j)) (2 ^ i)) u1) v = false := by
              cases h9 : bit (reach ws (idiff (idiff t (2 ^ j)) (2 ^ i)) u1) v
              · rfl
              · rw [hsubS v hv.1 h9] at hnk; cases hnk
            rcases hvu with ⟨rfl, rfl⟩ | ⟨rfl, rfl⟩
            · rw [n1, n2]
            · rw [n1, n2]
          · exact RS.closed i z hz (by rw [bit_less _ _ _ (by omega), hbi]; simp; omega))
      have hlt : reach ws (idiff t (2 ^ j)) u1 < reach ws (idiff t (2 ^ k)) u :=
        less_num RJ.lo RK.lo (fun p hp h => hsubS p hp (hEq p hp h)) hu.1 RK.has hno
      obtain ⟨p, p0, p1, hpl, hpr⟩ := leaf_beyond hf N hy hj hu1 (by omega)
      exact ⟨p, p0, p1, hpl, hsubS p p0 (hEq p p0 hpr)⟩
    · exact ⟨u, hu.1, hu.2, hl, RK.has⟩
/-- a tree whose leaves are ends has no way that a set within it which joins the ends does without -/
theorem leaves_all {P t e : Int} (hf : Forest ws P) (hle : ∀ q, 0 ≤ q → bit (lvs ws P) q = true → bit e q = true) (e0 : 0 ≤ e) (e1 : e < 2 ^ n.toNat) (ht : ∀ q, 0 ≤ q → bit t q = true → bit P q = true) (hj : joins ws t e = true) {k : Nat} {x : Wy} (hx : ws[k]? = some x) (hk : bit P k = true) : bit t k = true := by
  cases hb : bit t k
  · exfalso
    have hxb := hn.at_ hx
    obtain ⟨p, p0, p1, hpl, hpr⟩ := leaf_beyond hn hf ((reach ws (idiff P (2 ^ k)) x.b).toNat + 1) (v := x.a) (u := x.b) hx hk (.inl ⟨rfl, rfl⟩) (by omega)
    obtain ⟨q, q0, q1, hql, hqr⟩ := leaf_beyond hn hf ((reach ws (idiff P (2 ^ k)) x.a).toNat + 1) (v := x.b) (u := x.a) hx hk (.inr ⟨rfl, rfl⟩) (by omega)
    have h1 := (joins_iff hn e0 e1).1 hj q p q0 p0 (hle q q0 hql) (hle p p0 hpl)
    have h2 : bit (reach ws (idiff P (2 ^ k)) q) p = true := re_mono hn q0 q1 p0 (fun i hi hbi => by
      rw [bit_less _ _ _ hi, ht i hi hbi, Bool.true_and, Bool.not_eq_true', decide_eq_false_iff_not]
      intro e9; rw [e9, hb] at hbi; cases hbi) h1
    have h3 := re_trans hn (by omega) (by omega) q0 hqr h2
    have h4 := re_trans hn (by omega) (by omega) p0 h3 (re_sym hn (by omega) (by omega) p0 hpr)
    rw [hf k x hx hk] at h4; cases h4
  · rfl
/-- a lean set stays when leaves are taken away from one that it is in -/
theorem lean_stays {u e : Int} (u0 : 0 ≤ u) (u1 : u ≤ full ws.length) (e0 : 0 ≤ e) (e1 : e < 2 ^ n.toNat) (hj : joins ws u e = true) (hl : Lean_ ws u e) : ∀ (f : Nat) (s : Int), 0 ≤ s → s.toNat ≤ f → (∀ q, 0 ≤ q → bit u q = true → bit s q = true) → ∀ q, 0 ≤ q → bit u q = true → bit (prF ws e f s) q = true
  | 0, s, s0, hf, hs, q, hq, hb => by rw [prF]; exact hs q hq hb
  | f + 1, s, s0, hf, hs, q, hq, hb => by
    rw [prF]
    by_cases h : needl ws e s = 0
    · rw [if_pos h]; exact hs q hq hb
    · rw [if_neg h]
      have hls := needl_less s0 h
      refine lean_stays u0 u1 e0 e1 hj hl f _ hls.1 (by omega) (fun i hi hbi => ?_) q hq hb
      rw [bit_idiff, hs i hi hbi, Bool.true_and]
      cases hnd : bit (needl ws e s) i
      · rfl
      · exfalso
        obtain ⟨k, x, rfl, hx⟩ := set_way u0 u1 hi hbi
        have hl9 := hn.len
        have hk9 := (List.getElem?_eq_some_iff.1 hx).1
        have hxb := hn.at_ hx
        -- the place that is a leaf and no end
        have hne : iand (wayPl x) (idiff (lvs ws s) e) ≠ 0 := by
          unfold needl at hnd
          exact atTo_of hx ws.length hnd
        have hne' : bit (idiff (lvs ws s) e) x.a = true ∨ bit (idiff (lvs ws s) e) x.b = true := by
          unfold wayPl at hne
          exact (iand_ne _ _ _ (by omega) (by omega)).1 hne
        obtain ⟨v, w9, hv, hvl, hve⟩ : ∃ v w9 : Int, ((v = x.a ∧ w9 = x.b) ∨ (v = x.b ∧ w9 = x.a)) ∧ bit (lvs ws s) v = true ∧ bit e v = false := by
          rcases hne' with h9 | h9
          · rw [bit_idiff] at h9
            simp only [Bool.and_eq_true, Bool.not_eq_true'] at h9
            exact ⟨x.a, x.b, .inl ⟨rfl, rfl⟩, h9.1, h9.2⟩
          · rw [bit_idiff] at h9
            simp only [Bool.and_eq_true, Bool.not_eq_true'] at h9
            exact ⟨x.b, x.a, .inr ⟨rfl, rfl⟩, h9.1, h9.2⟩
        have hvb : 0 ≤ v ∧ v < n := by omega
        have honly : ∀ (j : Nat) (y : Wy), ws[j]? = some y → bit u j = true → (v = y.a ∨ v = y.b) → j = k := fun j y hy hbj hvy =>
          lvs_once hn hvb.1 hvl hy hx (hs j (by omega) hbj) (hs k (by omega) hbi) hvy (by omega)
        have hfb := full_bd ws.length hn.len
        have hcut : joins ws (idiff u (2 ^ k)) e = true := (joins_iff hn e0 e1).2 fun p r p0 r0 hp hr => by
          have hpn : p < n := by have := set_sub e0 e1 hp; have := hn.lo; omega
          have hpv : p ≠ v := fun e9 => by rw [e9, hve] at hp; cases hp
          have hrv : r ≠ v := fun e9 => by rw [e9, hve] at hr; cases hr
          exact (reach_less hn hx hv honly p0 hpn hpv r0).2 ⟨(joins_iff hn e0 e1).1 hj p r p0 r0 hp hr, hrv⟩
        rw [(idiff_one u0 (by omega) (show k < 9 by omega) hbi).1, hl k hk9 hbi] at hcut
        cases hcut
where atTo_of {ws : List Wy} {s p : Int} {k : Nat} {x : Wy} (hx : ws[k]? = some x) : ∀ m : Nat, bit (atTo ws s p m) k = true → iand (wayPl x) p ≠ 0
  | 0, h => by rw [atTo, bit_zero_] at h; cases h
  | m + 1, h => by
    cases hy : ws[m]? with
    | none => rw [atTo, hy] at h; exact atTo_of hx m h
    | some y =>
      by_cases hc : bit s m = true ∧ iand (wayPl y) p ≠ 0
      · rw [atTo_yes hy hc.1 hc.2, bit_ior, bit_pow m k (by omega), Bool.or_eq_true] at h
        rcases h with h | h
        · exact atTo_of hx m h
        · have e : k = m := by have h9 : (k : Int) = m := by simpa using h
                               omega
          subst e
          rw [hx] at hy; cases hy; exact hc.2
      · rw [atTo_no hy hc] at h; exact atTo_of hx m h

/-! ### the least tree tells it -/
theorem span_forest (am : Int) : Forest ws (span ws am) := fun k x hx hk => (span_gd hn).indep k x hx hk
theorem forest_less {t u : Int} (hf : Forest ws t) (hs : ∀ q, 0 ≤ q → bit u q = true → bit t q = true) : Forest ws u := fun k x hx hk => by
  have hxb := hn.at_ hx
  cases h : bit (reach ws (idiff u (2 ^ k)) x.a) x.b
  · rfl
  · have := re_mono hn (t := idiff t (2 ^ k)) (by omega) (by omega) (by omega) (fun i hi hb => by
      rw [bit_less _ _ _ hi, Bool.and_eq_true] at hb
      rw [bit_less _ _ _ hi, Bool.and_eq_true]
      exact ⟨hs i hi hb.1, hb.2⟩) h
    rw [hf k x hx (hs k (by omega) hk)] at this; cases this
/-- what the ways up to c join, those of them that are of the least tree join -/
theorem span_upto {c e : Int} (e0 : 0 ≤ e) (e1 : e < 2 ^ n.toNat) (hj : joins ws (upto ws c) e = true) : joins ws (iand (span ws (allPl n)) (upto ws c)) e = true := by
  refine (joins_iff hn e0 e1).2 fun p q p0 q0 hp hq => ?_
  have hpn : p < n := by have := set_sub e0 e1 hp; have := hn.lo; omega
  refine re_over hn p0 hpn q0 (fun k x hx hk => ?_) ((joins_iff hn e0 e1).1 hj p q p0 q0 hp hq)
  have hc := (upto_bit hx).1 hk
  refine span_cycle hn hx fun j y hy hb hyc => ?_
  rw [bit_iand, hb, Bool.true_and]
  exact (upto_bit hy).2 (by omega)
theorem span_tree (hj : joins ws (span ws (allPl n)) (allPl n) = true) : tree ws (span ws (allPl n)) = true := by
  have h := span_iff hn (s := span ws (allPl n))
  rw [hj, span_pop hn hj] at h
  simpa using h
/-- the least tree, pruned to the ends, has the least dearest way -/
theorem pruned_dear {e : Int} (e0 : 0 ≤ e) (e1 : e < 2 ^ n.toNat) (hj : joins ws (span ws (allPl n)) (allPl n) = true) : 0 ≤ ld ws e ∧ dear ws (pr ws e (span ws (allPl n))) = ld ws e := by
  have hsb := span_bd ws (allPl n)
  have hall := allPl_bd hn
  have hje : joins ws (span ws (allPl n)) e = true := joins_less_ends hn (by omega) hall.2.2 e0 e1 (fun q hq hb => by
    rw [allPl_bit hq (by have := hn.lo; omega), decide_eq_true_eq]
    have := set_sub e0 e1 hb; have := hn.lo; omega) hj
  have hl := ld_le hn e0 e1 hsb.1 hsb.2 hje
  obtain ⟨p0, p1, p2, p3, p4, p5, p6⟩ := pr_ok hn e0 e1 hsb.1 hsb.2 (span_tree hn hj)
  refine ⟨hl.1, ?_⟩
  have h1 := (ld_le hn e0 e1 p0 (by omega) (p3.trans hje)).2
  -- a lean set of cheap ways of the tree
  have hu := span_upto hn e0 e1 (ld_joins hl.1)
  have hub := iand_bd (span ws (allPl n)) (upto ws (ld ws e)) hsb.1
  obtain ⟨u, hue⟩ : ∃ u, thS ws e (iand (span ws (allPl n)) (upto ws (ld ws e))) ws.length = u := ⟨_, rfl⟩
  have hb := thS_bd (ws := ws) (e := e) hub.1 ws.length
  have hlean := thS_lean hn hub.1 (by omega) e0 e1
  have hjt := thS_joins hu ws.length
  have hsub : ∀ q, 0 ≤ q → bit u q = true → bit (iand (span ws (allPl n)) (upto ws (ld ws e))) q = true := fun q hq h => by
    rw [← hue] at h
    exact thS_sub (ws := ws) (e := e) (s := iand (span ws (allPl n)) (upto ws (ld ws e))) 0 ws.length q hq (by rw [Nat.zero_add]; exact h)
  rw [hue] at hb hlean hjt
  have hst := lean_stays hn hb.1 (by omega) e0 e1 hjt hlean (span ws (allPl n)).toNat (span ws (allPl n)) hsb.1 (Nat.le_refl _) (fun q hq h => by
    have := hsub q hq h
    rw [bit_iand, Bool.and_eq_true] at this
    exact this.1)
  have hfor := forest_less hn (span_forest hn (allPl n)) ((idiff_zero p0).1 p5)
  have h2 : dear ws (pr ws e (span ws (allPl n))) ≤ ld ws e := dear_le.2 ⟨hl.1, fun k x hx hk => by
    have h9 := leaves_all hn hfor ((idiff_zero (lvs_bd hn _).1).1 p4) e0 e1 hst hjt hx hk
    have h8 := hsub k (by omega) h9
    rw [bit_iand, Bool.and_eq_true] at h8
    exact (upto_bit hx).1 h8.2⟩
  omega
/-- of all places: the least tree itself -/
theorem span_dear (hj : joins ws (span ws (allPl n)) (allPl n) = true) : dear ws (span ws (allPl n)) = ld ws (allPl n) := by
  have hsb := span_bd ws (allPl n)
  have hall := allPl_bd hn
  have hl := ld_le hn (by omega) hall.2.2 hsb.1 hsb.2 hj
  have hu := span_upto hn (by omega) hall.2.2 (ld_joins hl.1)
  have h2 : dear ws (span ws (allPl n)) ≤ ld ws (allPl n) := dear_le.2 ⟨hl.1, fun k x hx hk => by
    have hxb := hn.at_ hx
    apply Classical.byContradiction
    intro hc
    have h9 : bit (reach ws (iand (span ws (allPl n)) (upto ws (ld ws (allPl n)))) x.a) x.b = true := (joins_iff hn (by omega) hall.2.2).1 hu x.a x.b (by omega) (by omega) (by rw [allPl_bit (by omega) (by have := hn.lo; omega)]; simp; omega) (by rw [allPl_bit (by omega) (by have := hn.lo; omega)]; simp; omega)
    have h8 := re_mono hn (t := idiff (span ws (allPl n)) (2 ^ k)) (by omega) (by omega) (by omega) (fun i hi hb => by
      rw [bit_iand, Bool.and_eq_true] at hb
      rw [bit_less _ _ _ hi, hb.1, Bool.true_and, Bool.not_eq_true', decide_eq_false_iff_not]
      intro e9; subst e9
      exact hc ((upto_bit hx).1 hb.2)) h9
    rw [span_forest hn (allPl n) k x hx hk] at h8; cases h8⟩
  omega
end
end Go.Proofs.Ythadehgpeafniaa
