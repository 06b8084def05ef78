/- What a group pays for its ways up: no more than it would cost alone (Bird). Plain mathematics. -/
import Derived.Test.YtfpaalmbllhmaaaDoorUpM
set_option linter.unusedVariables false
set_option linter.unusedSimpArgs false
namespace Go.Proofs.YtfpaalmbllhmaaaDoor
open Go.RowKit

/-! ### the way up as a number -/
noncomputable def upB (ws : List Wy) (t v : Int) (k : Nat) : Bool := match ws[k]? with
  | some x => bit t k && !bit (reach ws (idiff t (2 ^ k)) 0) v && ((decide (v = x.a) && bit (reach ws (idiff t (2 ^ k)) 0) x.b) || (decide (v = x.b) && bit (reach ws (idiff t (2 ^ k)) 0) x.a))
  | none => false
theorem upB_iff {ws : List Wy} {t v : Int} {k : Nat} : upB ws t v k = true ↔ Up ws t v k := by
  unfold upB
  constructor
  · intro h
    cases hx : ws[k]? with
    | none => rw [hx] at h; cases h
    | some x =>
      rw [hx] at h
      simp only [Bool.and_eq_true, Bool.or_eq_true, Bool.not_eq_true', decide_eq_true_eq] at h
      obtain ⟨⟨h1, h2⟩, h3⟩ := h
      rcases h3 with ⟨e, h4⟩ | ⟨e, h4⟩
      · exact ⟨h1, h2, x, x.b, hx, .inl ⟨e, rfl⟩, h4⟩
      · exact ⟨h1, h2, x, x.a, hx, .inr ⟨e, rfl⟩, h4⟩
  · rintro ⟨h1, h2, x, u, hx, hvu, h4⟩
    rw [hx]
    simp only [Bool.and_eq_true, Bool.or_eq_true, Bool.not_eq_true', decide_eq_true_eq]
    refine ⟨⟨h1, h2⟩, ?_⟩
    rcases hvu with ⟨e, e2⟩ | ⟨e, e2⟩
    · exact .inl ⟨e, e2 ▸ h4⟩
    · exact .inr ⟨e, e2 ▸ h4⟩
noncomputable def upTo (ws : List Wy) (t v : Int) : Nat → Int
  | 0 => -1
  | k + 1 => if upB ws t v k = true then k else upTo ws t v k
theorem upTo_ok (ws : List Wy) (t v : Int) : ∀ m, (upTo ws t v m = -1 ∧ ∀ k, k < m → upB ws t v k = false) ∨ ∃ k : Nat, k < m ∧ upTo ws t v m = k ∧ upB ws t v k = true
  | 0 => .inl ⟨rfl, fun k hk => by omega⟩
  | m + 1 => by
    rw [upTo]
    by_cases h : upB ws t v m = true
    · exact .inr ⟨m, by omega, by rw [if_pos h], h⟩
    · rw [if_neg h]
      rcases upTo_ok ws t v m with ⟨h1, h2⟩ | ⟨k, h1, h2, h3⟩
      · refine .inl ⟨h1, fun k hk => ?_⟩
        by_cases e : k = m
        · subst e; simpa using h
        · exact h2 k (by omega)
      · exact .inr ⟨k, by omega, h2, h3⟩
/-- the way up of a place, -1 if it has none -/
noncomputable def up (ws : List Wy) (t v : Int) : Int := upTo ws t v ws.length
theorem Up.lt {ws : List Wy} {t v : Int} {k : Nat} (h : Up ws t v k) : k < ws.length := by
  obtain ⟨x, u, hx, _⟩ := h.way
  exact (List.getElem?_eq_some_iff.1 hx).1
theorem up_cases (ws : List Wy) (t v : Int) : (up ws t v = -1 ∧ ∀ k, ¬ Up ws t v k) ∨ ∃ k : Nat, k < ws.length ∧ up ws t v = k ∧ Up ws t v k := by
  rcases upTo_ok ws t v ws.length with ⟨h1, h2⟩ | ⟨k, h1, h2, h3⟩
  · refine .inl ⟨h1, fun k hk => ?_⟩
    have := h2 k hk.lt
    rw [upB_iff.2 hk] at this; cases this
  · exact .inr ⟨k, h1, h2, upB_iff.1 h3⟩
theorem up_is {n : Int} {ws : List Wy} (hn : NetIs n ws) {t v : Int} {k : Nat} (hv : 0 ≤ v) (hr : bit (reach ws t 0) v = true) (h : Up ws t v k) : up ws t v = k := by
  rcases up_cases ws t v with ⟨_, h2⟩ | ⟨j, _, h2, h3⟩
  · exact absurd h (h2 k)
  · rw [h2, up_one hn hv hr h3 h]
theorem up_src {n : Int} {ws : List Wy} (hn : NetIs n ws) (t : Int) : up ws t 0 = -1 := by
  rcases up_cases ws t 0 with ⟨h, _⟩ | ⟨j, _, _, h3⟩
  · exact h
  · exact (up_zero hn h3).elim
/-- each other place that is come to has one -/
theorem up_ex {n : Int} {ws : List Wy} (hn : NetIs n ws) {t v : Int} (hi : Indep ws t) (hv : 0 ≤ v) (hv0 : v ≠ 0) (hr : bit (reach ws t 0) v = true) : ∃ k : Nat, k < ws.length ∧ up ws t v = k ∧ Up ws t v k := by
  rcases up_cases ws t v with ⟨_, hno⟩ | h
  · exfalso
    have hz := zero_lt hn
    let P : Nat → Bool := fun k => match ws[k]? with
      | some x => bit t k && !decide (x.a = v) && !decide (x.b = v)
      | none => false
    have hP : ∀ (k : Nat) (x : Wy), ws[k]? = some x → bit (selTo P ws.length) k = (bit t k && !decide (x.a = v) && !decide (x.b = v)) := fun k x hx => by
      rw [selTo_bit]; simp only [P, hx, (List.getElem?_eq_some_iff.1 hx).1, decide_true, Bool.true_and]
    have RD := reach_is (s := selTo P ws.length) hn (Int.le_refl 0) hz
    have hvD : bit (reach ws (selTo P ws.length) 0) v = false := by
      cases hb : bit (reach ws (selTo P ws.length) 0) v with
      | false => rfl
      | true =>
        have := RD.least (fun q => !decide (q = v)) (by simp; omega) (fun k x hx hk => by
          rw [hP k x hx] at hk
          simp only [Bool.and_eq_true] at hk
          show (!decide (x.a = v)) = (!decide (x.b = v))
          rw [hk.1.2, hk.2]) v hv hb
        simp at this
    have hone : ∀ (k : Nat) (x : Wy) (u : Int), ws[k]? = some x → bit t k = true → ((v = x.a ∧ u = x.b) ∨ (v = x.b ∧ u = x.a)) → bit (reach ws (selTo P ws.length) 0) u = false := fun k x u hx hk hvu => by
      cases hb : bit (reach ws (selTo P ws.length) 0) u with
      | false => rfl
      | true =>
        exfalso
        have hxb := hn.at_ hx
        have hu0 : 0 ≤ u ∧ u < n := by rcases hvu with ⟨_, e⟩ | ⟨_, e⟩ <;> subst e <;> omega
        have hu : bit (reach ws (idiff t (2 ^ k)) 0) u = true := RD.least (bit (reach ws (idiff t (2 ^ k)) 0)) (reach_is hn (Int.le_refl 0) hz).has (fun j y hy hj => by
          rw [hP j y hy] at hj
          simp only [Bool.and_eq_true, Bool.not_eq_true', decide_eq_false_iff_not] at hj
          refine less_closed hn hy hj.1.1 ?_
          rintro rfl
          rw [hx] at hy; obtain rfl := Option.some.inj hy
          rcases hvu with ⟨e, _⟩ | ⟨e, _⟩
          · exact hj.1.2 e.symm
          · exact hj.2 e.symm) u hu0.1 hb
        refine hno k ⟨hk, ?_, x, u, hx, hvu, hu⟩
        cases ho : bit (reach ws (idiff t (2 ^ k)) 0) v with
        | false => rfl
        | true =>
          exfalso
          have hind := hi k x hx hk
          rcases hvu with ⟨e1, e2⟩ | ⟨e1, e2⟩
          · rw [e1] at ho; rw [e2] at hu
            have := re_trans hn hxb.1 hxb.2.1 (Int.le_refl 0) (re_sym hn (Int.le_refl 0) hz hxb.1 ho) hu
            rw [hind] at this; cases this
          · rw [e1] at ho; rw [e2] at hu
            have := re_trans hn hxb.1 hxb.2.1 (Int.le_refl 0) (re_sym hn (Int.le_refl 0) hz hxb.1 hu) ho
            rw [hind] at this; cases this
    have := (reach_is (s := t) hn (Int.le_refl 0) hz).least (bit (reach ws (selTo P ws.length) 0)) RD.has (fun k x hx hk => by
      have hxb := hn.at_ hx
      by_cases ea : x.a = v
      · rw [hone k x x.b hx hk (.inl ⟨ea.symm, rfl⟩), ea, hvD]
      · by_cases eb : x.b = v
        · rw [hone k x x.a hx hk (.inr ⟨eb.symm, rfl⟩), eb, hvD]
        · exact RD.closed k x hx (by rw [hP k x hx, hk]; simp [ea, eb])) v hv hr
    rw [hvD] at this; cases this
  · exact h

/-! ### what places pay -/
/-- what a place pays: the cost of its way up, nothing if it has none -/
noncomputable def share (ws : List Wy) (t v : Int) : Int := if 0 ≤ up ws t v then (match ws[(up ws t v).toNat]? with | some x => x.c | none => 0) else 0
theorem share_no {ws : List Wy} {t v : Int} (h : up ws t v = -1) : share ws t v = 0 := by unfold share; rw [h]; rfl
theorem share_at {ws : List Wy} {t v : Int} {k : Nat} {x : Wy} (h : up ws t v = k) (hx : ws[k]? = some x) : share ws t v = x.c := by
  unfold share; rw [h, if_pos (by omega), Int.toNat_natCast, hx]
theorem share_bd {n : Int} {ws : List Wy} (hn : NetIs n ws) (t v : Int) : 0 ≤ share ws t v ∧ share ws t v ≤ 9 := by
  rcases up_cases ws t v with ⟨h, _⟩ | ⟨k, hk, h, _⟩
  · rw [share_no h]; omega
  · obtain ⟨x, hx⟩ : ∃ x, ws[k]? = some x := ⟨ws[k], List.getElem?_eq_some_iff.2 ⟨hk, rfl⟩⟩
    have := hn.at_ hx
    rw [share_at h hx]; omega
/-- what a group of the first m places pays -/
noncomputable def shTo (ws : List Wy) (t S : Int) : Nat → Int
  | 0 => 0
  | m + 1 => shTo ws t S m + if bit S m = true then share ws t m else 0
/-- the ways up of a group of the first m places -/
noncomputable def gB (ws : List Wy) (t S : Int) : Nat → Nat → Bool
  | 0, _ => false
  | m + 1, k => gB ws t S m k || (bit S m && upB ws t m k)
theorem gB_iff {ws : List Wy} {t S : Int} {k : Nat} : ∀ m, gB ws t S m k = true ↔ ∃ v : Nat, v < m ∧ bit S v = true ∧ Up ws t v k
  | 0 => by rw [gB]; simp
  | m + 1 => by
    rw [gB, Bool.or_eq_true, Bool.and_eq_true, gB_iff m, upB_iff]
    constructor
    · rintro (⟨v, h1, h2, h3⟩ | ⟨h1, h2⟩)
      · exact ⟨v, by omega, h2, h3⟩
      · exact ⟨m, by omega, h1, h2⟩
    · rintro ⟨v, h1, h2, h3⟩
      by_cases e : v = m
      · subst e; exact .inr ⟨h2, h3⟩
      · exact .inl ⟨v, by omega, h2, h3⟩
noncomputable def gS (ws : List Wy) (t S : Int) (m : Nat) : Int := selTo (gB ws t S m) ws.length
theorem gS_bit {ws : List Wy} {t S : Int} {m k : Nat} : bit (gS ws t S m) k = true ↔ ∃ v : Nat, v < m ∧ bit S v = true ∧ Up ws t v k := by
  unfold gS
  rw [selTo_bit, Bool.and_eq_true, gB_iff, decide_eq_true_eq]
  exact ⟨fun h => h.2, fun h => ⟨by obtain ⟨v, _, _, hu⟩ := h; exact hu.lt, h⟩⟩
theorem selTo_same {P Q : Nat → Bool} : ∀ m, (∀ k, k < m → P k = Q k) → selTo P m = selTo Q m
  | 0, _ => rfl
  | m + 1, h => by rw [selTo, selTo, selTo_same m (fun k hk => h k (by omega)), h m (by omega)]
/-- one place more -/
theorem gS_step {n : Int} {ws : List Wy} (hn : NetIs n ws) {t S : Int} (hr : ∀ v : Int, 0 ≤ v → v < n → bit (reach ws t 0) v = true) {m k : Nat} (hm : (m : Int) < n) (hS : bit S m = true) (h2 : Up ws t m k) : bit (gS ws t S m) k = false ∧ gS ws t S (m + 1) = ior (gS ws t S m) (2 ^ k) := by
  constructor
  · cases h : bit (gS ws t S m) k with
    | false => rfl
    | true =>
      obtain ⟨v, hv, _, hu⟩ := gS_bit.1 h
      have := up_one_place hu h2
      omega
  · have b1 := selTo_bd (gB ws t S (m + 1)) ws.length
    have b2 := selTo_bd (gB ws t S m) ws.length
    refine set_ext b1.1 ?_ fun q hq => ?_
    · unfold ior; omega
    · obtain ⟨j, rfl⟩ : ∃ j : Nat, q = j := ⟨q.toNat, by omega⟩
      rw [bit_ior, bit_pow k j (by omega), Bool.eq_iff_iff, Bool.or_eq_true, gS_bit, gS_bit, decide_eq_true_eq]
      constructor
      · rintro ⟨v, h3, h4, h5⟩
        by_cases ev : v = m
        · subst ev
          have := up_one hn (by omega) (hr v (by omega) (by omega)) h5 h2
          exact .inr (by omega)
        · exact .inl ⟨v, by omega, h4, h5⟩
      · rintro (⟨v, h3, h4, h5⟩ | h3)
        · exact ⟨v, by omega, h4, h5⟩
        · obtain rfl : j = k := by omega
          exact ⟨m, by omega, hS, h2⟩
/-- a group's ways up cost what it pays -/
theorem gS_cost {n : Int} {ws : List Wy} (hn : NetIs n ws) {t S : Int} (hr : ∀ v : Int, 0 ≤ v → v < n → bit (reach ws t 0) v = true) : ∀ m : Nat, (m : Int) ≤ n → cost ws (gS ws t S m) = shTo ws t S m
  | 0, _ => by
    rw [shTo]
    refine cost_none fun k hk => ?_
    cases h : bit (gS ws t S 0) k with
    | false => rfl
    | true => obtain ⟨v, hv, _⟩ := gS_bit.1 h; omega
  | m + 1, hm => by
    have ih := gS_cost hn hr (S := S) m (by omega)
    rw [shTo]
    have hsame : (∀ k, ¬ (bit S m = true ∧ Up ws t m k)) → gS ws t S (m + 1) = gS ws t S m := fun hno => by
      unfold gS
      refine selTo_same _ fun k hk => ?_
      rw [gB]
      have : (bit S m && upB ws t m k) = false := by
        cases hc : (bit S m && upB ws t m k) with
        | false => rfl
        | true =>
          rw [Bool.and_eq_true, upB_iff] at hc
          exact absurd hc (hno k)
      rw [this, Bool.or_false]
    by_cases hS : bit S m = true
    · rw [if_pos hS]
      rcases up_cases ws t m with ⟨h1, h2⟩ | ⟨k, hk, h1, h2⟩
      · rw [share_no h1, hsame (fun k h => h2 k h.2), ih]; omega
      · obtain ⟨x, hx⟩ : ∃ x, ws[k]? = some x := ⟨ws[k], List.getElem?_eq_some_iff.2 ⟨hk, rfl⟩⟩
        rw [share_at h1 hx]
        obtain ⟨hz, e⟩ := gS_step hn hr (by omega) hS h2
        rw [e, cost_add hx hz, ih]
    · rw [if_neg hS, hsame (fun k h => hS h.1), ih]; omega

/-! ### no group pays more than it would alone -/
/-- the others' ways and whatever joins the group with the source join all -/
theorem bird_joins {n : Int} {ws : List Wy} (hn : NetIs n ws) {t u S : Int} {m : Nat} (hr : ∀ v : Int, 0 ≤ v → v < n → bit (reach ws t 0) v = true) (hu : ∀ v : Int, 0 ≤ v → v < n → bit S v = true → bit (reach ws u 0) v = true) (hm : (m : Int) ≤ n) {v : Int} (hv : 0 ≤ v) (hvn : v < n) : bit (reach ws (ior (idiff t (gS ws t S m)) u) 0) v = true := by
  have hz := zero_lt hn
  have hE0 : ∀ q : Int, 0 ≤ q → q < n → bit S q = true → bit (reach ws (ior (idiff t (gS ws t S m)) u) 0) q = true := fun q hq hqn hS =>
    re_mono hn (Int.le_refl 0) hz hq (fun k hk hb => by rw [bit_ior, hb, Bool.or_true]) (hu q hq hqn hS)
  have RE := reach_is (s := ior (idiff t (gS ws t S m)) u) hn (Int.le_refl 0) hz
  generalize hEe : reach ws (ior (idiff t (gS ws t S m)) u) 0 = E at hE0 RE ⊢
  let P : Nat → Bool := fun k => match ws[k]? with
    | some x => bit t k && bit E x.a && bit E x.b
    | none => false
  have hP : ∀ (k : Nat) (x : Wy), ws[k]? = some x → bit (selTo P ws.length) k = (bit t k && bit E x.a && bit E x.b) := fun k x hx => by
    rw [selTo_bit]; simp only [P, hx, (List.getElem?_eq_some_iff.1 hx).1, decide_true, Bool.true_and]
  have hPt : ∀ k : Nat, bit (selTo P ws.length) k = true → bit t k = true ∧ ∃ x, ws[k]? = some x ∧ bit E x.a = true ∧ bit E x.b = true := fun k hk => by
    have hl : k < ws.length := by rw [selTo_bit] at hk; simp only [Bool.and_eq_true, decide_eq_true_eq] at hk; exact hk.1
    obtain ⟨x, hx⟩ : ∃ x, ws[k]? = some x := ⟨ws[k], List.getElem?_eq_some_iff.2 ⟨hl, rfl⟩⟩
    rw [hP k x hx] at hk
    simp only [Bool.and_eq_true] at hk
    exact ⟨hk.1.1, x, hx, hk.1.2, hk.2⟩
  have RC := reach_is (s := selTo P ws.length) hn (Int.le_refl 0) hz
  have hCE : ∀ q, 0 ≤ q → bit (reach ws (selTo P ws.length) 0) q = true → bit E q = true := fun q hq hb =>
    RC.least (bit E) RE.has (fun k x hx hk => by
      rw [hP k x hx] at hk
      simp only [Bool.and_eq_true] at hk
      rw [hk.1.2, hk.2]) q hq hb
  have hgo : ∀ (k : Nat) (x : Wy) (p r : Int), ws[k]? = some x → bit t k = true → ((p = x.a ∧ r = x.b) ∨ (p = x.b ∧ r = x.a)) → bit (reach ws (selTo P ws.length) 0) p = true → bit (reach ws (selTo P ws.length) 0) r = true := fun k x p r hx hk hpr hp => by
    have hxb := hn.at_ hx
    have hp0 : 0 ≤ p ∧ p < n := by rcases hpr with ⟨e, _⟩ | ⟨e, _⟩ <;> subst e <;> omega
    have hpE := hCE p hp0.1 hp
    cases hrE : bit E r with
    | true =>
      have hkC : bit (selTo P ws.length) k = true := by
        rw [hP k x hx, hk]
        rcases hpr with ⟨e1, e2⟩ | ⟨e1, e2⟩
        · rw [← e1, ← e2, hpE, hrE]; rfl
        · rw [← e1, ← e2, hpE, hrE]; rfl
      have := RC.closed k x hx hkC
      rcases hpr with ⟨e1, e2⟩ | ⟨e1, e2⟩
      · rw [e2, ← this, ← e1]; exact hp
      · rw [e2, this, ← e1]; exact hp
    | false =>
      exfalso
      have hkU : bit (gS ws t S m) k = true := by
        cases hb : bit (gS ws t S m) k with
        | true => rfl
        | false =>
          have := RE.closed k x hx (by rw [bit_ior, bit_idiff, hk, hb]; rfl)
          rcases hpr with ⟨e1, e2⟩ | ⟨e1, e2⟩
          · rw [← e1, ← e2, hpE, hrE] at this; cases this
          · rw [← e1, ← e2, hpE, hrE] at this; cases this
      obtain ⟨v', hv', hS', hup⟩ := gS_bit.1 hkU
      have hvE := hE0 v' (by omega) (by omega) hS'
      obtain ⟨x', u', hx', hvu', _⟩ := hup.way
      rw [hx] at hx'; obtain rfl := Option.some.inj hx'
      have hpv : (v' : Int) = p := by
        rcases hvu' with ⟨e1, _⟩ | ⟨e1, _⟩ <;> rcases hpr with ⟨e3, e4⟩ | ⟨e3, e4⟩
        · omega
        · rw [e1, ← e4, hrE] at hvE; cases hvE
        · rw [e1, ← e4, hrE] at hvE; cases hvE
        · omega
      have hno := hup.out
      rw [hpv] at hno
      have : bit (reach ws (idiff t (2 ^ k)) 0) p = true := re_mono hn (Int.le_refl 0) hz hp0.1 (fun q hq hb => by
        obtain ⟨j, rfl⟩ : ∃ j : Nat, q = j := ⟨q.toNat, by omega⟩
        obtain ⟨h1, y, hy, h2, h3⟩ := hPt j hb
        rw [less_bit, h1]
        have : j ≠ k := by
          rintro rfl
          rw [hx] at hy; obtain rfl := Option.some.inj hy
          rcases hpr with ⟨e1, e2⟩ | ⟨e1, e2⟩
          · rw [← e2, hrE] at h3; cases h3
          · rw [← e2, hrE] at h2; cases h2
        simp [this]) hp
      rw [hno] at this; cases this
  refine hCE v hv ?_
  refine (reach_is (s := t) hn (Int.le_refl 0) hz).least (bit (reach ws (selTo P ws.length) 0)) RC.has (fun k x hx hk => ?_) v hv (hr v hv hvn)
  rw [Bool.eq_iff_iff]
  exact ⟨hgo k x x.a x.b hx hk (.inl ⟨rfl, rfl⟩), hgo k x x.b x.a hx hk (.inr ⟨rfl, rfl⟩)⟩
theorem gS_sub {ws : List Wy} {t S : Int} {m k : Nat} (h : bit (gS ws t S m) k = true) : bit t k = true := by
  obtain ⟨v, _, _, hu⟩ := gS_bit.1 h
  exact hu.has
theorem span_indep {n : Int} {ws : List Wy} (hn : NetIs n ws) (am : Int) : Indep ws (span ws am) := fun k x hx hk => (span_gd hn).indep k x hx hk
theorem span_from {n : Int} {ws : List Wy} (hn : NetIs n ws) {t : Int} (hj : joins ws t (allPl n) = true) : ∀ v : Int, 0 ≤ v → v < n → bit (reach ws t 0) v = true := fun v h0 h1 => (joins_all hn).1 hj 0 v (Int.le_refl 0) (zero_lt hn) h0 h1
/-- Bird: in the cheapest tree a group pays no more than whatever joins it with the source -/
theorem bird {n : Int} {ws : List Wy} (hn : NetIs n ws) (hj : joins ws (span ws (allPl n)) (allPl n) = true) {S u : Int} {m : Nat} (hu : ∀ v : Int, 0 ≤ v → v < n → bit S v = true → bit (reach ws u 0) v = true) (hm : (m : Int) ≤ n) : shTo ws (span ws (allPl n)) S m ≤ cost ws u := by
  have hr := span_from hn hj
  rw [← gS_cost hn hr m hm]
  have hz := zero_lt hn
  have hall : joins ws (ior (idiff (span ws (allPl n)) (gS ws (span ws (allPl n)) S m)) u) (allPl n) = true := by
    rw [joins_all hn]
    intro p q p0 p1 q0 q1
    have h1 := bird_joins hn hr hu hm p0 p1
    have h2 := bird_joins hn hr hu hm q0 q1
    exact re_trans hn p0 p1 (Int.le_refl 0) (re_sym hn (Int.le_refl 0) hz p0 h1) h2
  have hl := span_least hn hall
  have hc := cost_union hn (idiff (span ws (allPl n)) (gS ws (span ws (allPl n)) S m)) u
  have ht := cost_two (ws := ws) (s := span ws (allPl n)) (a := idiff (span ws (allPl n)) (gS ws (span ws (allPl n)) S m)) (b := gS ws (span ws (allPl n)) S m) (fun j hj => by
    rw [bit_idiff]
    cases h1 : bit (gS ws (span ws (allPl n)) S m) j with
    | false => simp
    | true => rw [gS_sub h1]; simp)
  omega
/-- a group that is joined over itself and the source alone -/
theorem bird_so {n : Int} {ws : List Wy} (hn : NetIs n ws) (hj : joins ws (span ws (allPl n)) (allPl n) = true) {S : Int} {m : Nat} (s0 : 0 ≤ S) (s1 : S < 2 ^ n.toNat) (hm : (m : Int) ≤ n) (hs : 0 ≤ so ws (ior S 1)) : shTo ws (span ws (allPl n)) S m ≤ so ws (ior S 1) := by
  obtain ⟨h1, h2, _⟩ := so_rc hn hs
  rw [h2]
  have hz := zero_lt hn
  have h1p : (1 : Int) < 2 ^ n.toNat := by
    have := pow_bd 1 n.toNat (by omega)
    have e : (2 : Int) ^ (1 : Int).toNat = 2 := rfl
    rw [e] at this; omega
  have hb := ior_bd S 1 n.toNat s1 h1p
  have hone : bit (1 : Int) 0 = true := by decide
  refine bird hn hj (fun v hv hvn hS => ?_) hm
  exact (joins_iff hn hb.1 hb.2).1 h1 0 v (Int.le_refl 0) hv (by rw [bit_ior, hone, Bool.or_true]) (by rw [bit_ior, hS, Bool.true_or])
/-- all others' ways up are the tree -/
theorem gS_all {n : Int} {ws : List Wy} (hn : NetIs n ws) {t S : Int} (hi : Indep ws t) (hr : ∀ v : Int, 0 ≤ v → v < n → bit (reach ws t 0) v = true) {m : Nat} (hm : (m : Int) = n) (hS : ∀ v : Int, 0 < v → v < n → bit S v = true) {j : Nat} (hj : j < ws.length) : bit (gS ws t S m) j = bit t j := by
  rw [Bool.eq_iff_iff]
  refine ⟨gS_sub, fun h => ?_⟩
  obtain ⟨x, hx⟩ : ∃ x, ws[j]? = some x := ⟨ws[j], List.getElem?_eq_some_iff.2 ⟨hj, rfl⟩⟩
  have hxb := hn.at_ hx
  have hput : ∀ v : Int, 0 ≤ v → v < n → Up ws t v j → bit (gS ws t S m) j = true := fun v h0 h1 hup => by
    have hv0 : v ≠ 0 := by rintro rfl; exact up_zero hn hup
    refine gS_bit.2 ⟨v.toNat, by omega, ?_, ?_⟩
    · rw [Int.toNat_of_nonneg h0]; exact hS v (by omega) h1
    · rw [Int.toNat_of_nonneg h0]; exact hup
  rcases up_some hn hi hx h (hr x.a hxb.1 hxb.2.1) with h3 | h3
  · exact hput x.a hxb.1 hxb.2.1 h3
  · exact hput x.b hxb.2.2.1 hxb.2.2.2.1 h3
theorem gS_tree {n : Int} {ws : List Wy} (hn : NetIs n ws) {t S : Int} (t0 : 0 ≤ t) (t1 : t ≤ full ws.length) (hi : Indep ws t) (hr : ∀ v : Int, 0 ≤ v → v < n → bit (reach ws t 0) v = true) {m : Nat} (hm : (m : Int) = n) (hS : ∀ v : Int, 0 < v → v < n → bit S v = true) : gS ws t S m = t := by
  have b : 0 ≤ gS ws t S m ∧ gS ws t S m < 2 ^ ws.length := selTo_bd (gB ws t S m) ws.length
  unfold full at t1
  refine set_ext b.1 t0 fun q hq => ?_
  obtain ⟨j, rfl⟩ : ∃ j : Nat, q = j := ⟨q.toNat, by omega⟩
  by_cases hj : j < ws.length
  · exact gS_all hn hi hr hm hS hj
  · rw [bit_big (n := ws.length) b.1 b.2 (by omega), bit_big (n := ws.length) t0 (by omega) (by omega)]
/-- all together pay for the tree -/
theorem share_all {n : Int} {ws : List Wy} (hn : NetIs n ws) {t S : Int} (hi : Indep ws t) (hr : ∀ v : Int, 0 ≤ v → v < n → bit (reach ws t 0) v = true) {m : Nat} (hm : (m : Int) = n) (hS : ∀ v : Int, 0 < v → v < n → bit S v = true) : shTo ws t S m = cost ws t := by
  rw [← gS_cost hn hr m (by omega)]
  have ht := cost_two (ws := ws) (s := t) (a := gS ws t S m) (b := 0) (fun j hj => by
    rw [bit_zero_, gS_all hn hi hr hm hS hj]; simp)
  have h0 : cost ws 0 = 0 := cost_none fun k _ => bit_zero_ k
  omega
end Go.Proofs.YtfpaalmbllhmaaaDoor
