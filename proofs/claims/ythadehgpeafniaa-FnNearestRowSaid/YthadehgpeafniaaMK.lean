/- Cheapest ways first between places of a set: what is taken lies between them, joins them if any such ways do, and costs no more than any of these. Plain mathematics. Choices of further places: those of a root cost what it does; the least one by size, and of these by its number. Plain mathematics. Numbers in the order of their sizes, and of equal sizes in their own: the first choice among them is the least one. Plain mathematics. SpanOn of two places, of all places. Plain mathematics. -/
import Derived.Test.YthadehgpeafniaaGrM
import Derived.Test.YthadehgpeafniaaMJ
set_option linter.unusedSimpArgs false
set_option linter.unusedVariables false
namespace Go.Proofs.Ythadehgpeafniaa
open Go.RowKit

/-- all ways of s lie between places of am -/
def Ins (ws : List Wy) (am s : Int) : Prop := ∀ (k : Nat) (x : Wy), ws[k]? = some x → bit s k = true → bit am x.a = true ∧ bit am x.b = true
theorem Ins.look {ws : List Wy} {am s : Int} (h : Ins ws am s) (k : Nat) : Ins ws am (look1 ws am k s) := by
  cases hx : ws[k]? with
  | none => rw [look1, hx]; exact h
  | some x =>
    by_cases hc : bit am x.a = true ∧ bit am x.b = true ∧ bit (reach ws s x.a) x.b = false
    · rw [look1_yes hx hc.1 hc.2.1 hc.2.2]
      intro j y hy hb
      rw [bit_ior, bit_pow k j (by omega)] at hb
      simp only [Bool.or_eq_true, decide_eq_true_eq] at hb
      rcases hb with hb | hb
      · exact h j y hy hb
      · have : j = k := by omega
        subst this
        rw [hx] at hy; injection hy with hy; subst hy
        exact ⟨hc.1, hc.2.1⟩
    · rw [look1_no hx hc]; exact h
theorem Ins.row {ws : List Wy} {am c s : Int} (h : Ins ws am s) : ∀ k, Ins ws am (spRow ws am c s k)
  | 0 => h
  | k + 1 => by
    cases hx : ws[k]? with
    | none => rw [spRow, hx]; exact Ins.row h k
    | some x =>
      by_cases hc : x.c = c
      · rw [spRow_yes hx hc]; exact (Ins.row h k).look k
      · rw [spRow_no hx hc]; exact Ins.row h k
theorem ins_to (ws : List Wy) (am : Int) : ∀ c, Ins ws am (spTo ws am c)
  | 0 => fun k x hx h => by rw [spTo, bit_zero_] at h; cases h
  | c + 1 => (ins_to ws am c).row _
theorem span_ins (ws : List Wy) (am : Int) : Ins ws am (span ws am) := ins_to ws am 10

/-- what is come to from a place of am by ways between its places lies in am -/
theorem ins_reach {n : Int} {ws : List Wy} {am s p : Int} (hn : NetIs n ws) (h : Ins ws am s) (hp : 0 ≤ p) (hp' : p < n) (hpa : bit am p = true) {q : Int} (hq : 0 ≤ q) (hr : bit (reach ws s p) q = true) : bit am q = true := by
  have R := reach_is (s := s) hn hp hp'
  refine R.least (bit am) hpa (fun k x hx hb => ?_) q hq hr
  obtain ⟨h1, h2⟩ := h k x hx hb
  rw [h1, h2]
/-- it joins the places if some ways between them do -/
theorem spanP_joins {n : Int} {ws : List Wy} {am t : Int} (hn : NetIs n ws) (a0 : 0 ≤ am) (a1 : am < 2 ^ n.toNat) (ht : Ins ws am t) (h : joins ws t am = true) : joins ws (span ws am) am = true := by
  rw [joins_iff hn a0 a1] at h ⊢
  intro p q p0 q0 hp hq
  have pn : p < n := by have := set_sub a0 a1 hp; have := hn.lo; omega
  refine re_over hn p0 pn q0 (fun k x hx hb => ?_) (h p q p0 q0 hp hq)
  obtain ⟨h1, h2⟩ := ht k x hx hb
  exact (span_gd hn).joined k x hx (List.getElem?_eq_some_iff.1 hx).1 h1 h2
/-- ways between the places of a set of which none is joined by the others, and that join these, are one fewer than the places -/
theorem indepP_pop {n : Int} {ws : List Wy} {s am p : Int} (hn : NetIs n ws) (a0 : 0 ≤ am) (a1 : am < 2 ^ n.toNat) (hin : Ins ws am s) (hp : 0 ≤ p) (hpa : bit am p = true) (s0 : 0 ≤ s) (s1 : s ≤ full ws.length) (hi : ∀ (k : Nat) (x : Wy), ws[k]? = some x → bit s k = true → bit (reach ws (idiff s (2 ^ k)) x.a) x.b = false) (hj : joins ws s am = true) : pop s = pop am - 1 := by
  have h2 := hn.lo
  have h6 := hn.hi
  have hfb := full_bd ws.length hn.len
  have hJ := (joins_iff hn a0 a1).1 hj
  have pn : p < n := by have := set_sub a0 a1 hpa; omega
  have hpw := pow_bd p 5 (by omega)
  have hst : GrownBy ws s p (2 ^ p.toNat) 0 := by
    refine ⟨OnWay.start hn hp pn, OnWay.start hn hp pn, Int.le_refl _, by omega, fun q _ h => ?_, fun k x _ h => ?_, ?_⟩
    · rw [bit_zero_] at h; cases h
    · rw [bit_zero_] at h; cases h
    · have := pop_place (r := 0) (j := p) (Int.le_refl _) (by omega) hp (by omega) (bit_zero_ p)
      have e : ior 0 (2 ^ p.toNat) = 2 ^ p.toNat := by
        unfold ior
        have := pow_bd p p.toNat (Nat.le_refl _)
        simp; omega
      rw [e] at this
      exact this
  obtain ⟨r, u, hg, hc⟩ := grown_ex hn 64 _ 0 (by omega) hst
  have hr : r = reach ws s p := IsReach.eq { hg.on with closed := hc }
  have hra : r = am := by
    refine set_ext hg.on.lo a0 fun q hq => ?_
    rw [Bool.eq_iff_iff, hr]
    exact ⟨fun h => ins_reach hn hin hp pn hpa hq h, fun h => hJ p q hp hq hpa h⟩
  have hcnt := hg.cnt
  rw [hra] at hcnt
  have hsub : ∀ q, 0 ≤ q → bit s q = true → bit u q = true := fun q hq hbq => by
    obtain ⟨k, rfl⟩ := Int.eq_ofNat_of_zero_le hq
    apply Classical.byContradiction
    intro hno
    have hk : k < ws.length := by
      apply Classical.byContradiction
      intro hge
      rw [bit_big (n := ws.length) s0 (by unfold full at s1; omega) (by omega)] at hbq
      cases hbq
    obtain ⟨x, hx⟩ : ∃ x, ws[k]? = some x := ⟨_, List.getElem?_eq_getElem hk⟩
    have hxa := hn.at_ hx
    have hxi := hin k x hx hbq
    have R := reach_is (s := idiff s (2 ^ k)) hn hp pn
    have key : ∀ q, 0 ≤ q → bit am q = true → bit (reach ws (idiff s (2 ^ k)) p) q = true := fun q q0 q1 => by
      refine hg.onu.least _ R.has (fun j y hy hb => R.closed j y hy ?_) q q0 ?_
      · rw [bit_less s k j (by omega), hg.sub j (by omega) hb]
        have : j ≠ k := fun e => by subst e; exact hno hb
        simp; omega
      · rw [hra]; exact q1
    have h1 := re_trans hn hxa.1 hxa.2.1 hp (re_sym hn hp pn hxa.1 (key x.a hxa.1 hxi.1)) (key x.b hxa.2.2.1 hxi.2)
    rw [hi k x hx hbq] at h1; cases h1
  have h3 := pop_sub hsub
  have h4 := pop_sub hg.sub
  omega
set_option maxHeartbeats 2000000 in
theorem geP_least {n : Int} {ws : List Wy} {t am p : Int} (hn : NetIs n ws) (a0 : 0 ≤ am) (a1 : am < 2 ^ n.toNat) (hin : Ins ws am t) (hp : 0 ≤ p) (hpa : bit am p = true) (hj : joins ws t am = true) (c : Nat) (hc : c ≤ 10) : cntP (ge ws (span ws am) c) ws.length ≤ cntP (ge ws t c) ws.length := by
  have hS := spanP_joins hn a0 a1 hin hj
  have hSb := span_bd ws am
  have hpS := indepP_pop hn a0 a1 (span_ins ws am) hp hpa hSb.1 hSb.2 (span_gd hn).indep hS
  have h2 := hn.lo
  have h6 := hn.hi
  have hl9 := hn.len
  have pn : p < n := by have := set_sub a0 a1 hpa; omega
  have hfb := full_bd ws.length hl9
  have hgd := spTo_gd (am := am) hn c
  obtain ⟨U, hU⟩ : ∃ U, U = ior (spTo ws am c) (geTo ws t c ws.length) := ⟨_, rfl⟩
  have hUb : ∀ j : Nat, bit U j = (bit (spTo ws am c) j || (decide (j < ws.length) && ge ws t c j)) := fun j => by rw [hU, bit_ior, geTo_bit]
  have hU0 : 0 ≤ U := by rw [hU]; unfold ior; omega
  have hU1 : U ≤ full ws.length := by
    apply Classical.byContradiction
    intro hgt
    have h3 := spTo_bd ws am c
    have h4 : geTo ws t c ws.length < 2 ^ ws.length := by
      have : ∀ m, geTo ws t c m < 2 ^ m := fun m => by
        induction m with
        | zero => simp [geTo]
        | succ m ih =>
          have e1 : ((2 : Int) ^ (m + 1)) = 2 ^ m * 2 := Int.pow_succ 2 m
          have e2 : ((2 : Int) ^ m) = ((2 ^ m : Nat) : Int) := by simp
          have e3 : 1 ≤ 2 ^ m := Nat.one_le_two_pow
          rw [geTo]
          split
          · have := ior_bd (geTo ws t c m) (2 ^ m) (m + 1) (by omega) (by omega)
            omega
          · omega
      exact this _
    have := ior_bd (spTo ws am c) (geTo ws t c ws.length) ws.length (by unfold full at h3; omega) h4
    unfold full at hgt
    omega
  -- all places of am are joined by U
  have hUj : pop am ≤ pop (reach ws U p) := by
    refine pop_sub fun q hq hqa => ?_
    refine re_over hn hp pn hq (fun k x hx hb => ?_) ((joins_iff hn a0 a1).1 hj p q hp hq hpa hqa)
    have hxa := hn.at_ hx
    have hk := (List.getElem?_eq_some_iff.1 hx).1
    by_cases hxc : (c : Int) ≤ x.c
    · exact re_way hn hx (by rw [hUb, ge_at hx, hb]; simp [hk, hxc])
    · have hal := hin k x hx hb
      refine re_mono hn hxa.1 hxa.2.1 hxa.2.2.1 (fun q hq hbq => ?_) (hgd.joined k x hx ⟨x, hx, by omega⟩ hal.1 hal.2)
      rw [hU, bit_ior, hbq]; rfl
  have hUp := pop_reach (s := U) hn hp pn
  have e1 : cntP (fun k => bit U k) ws.length = cntP (fun k => bit (spTo ws am c) k) ws.length + cntP (ge ws t c) ws.length := cntP_two _ fun k hk => by
    simp only [hUb]
    obtain ⟨x, hx⟩ : ∃ x, ws[k]? = some x := ⟨_, List.getElem?_eq_getElem hk⟩
    cases hb : bit (spTo ws am c) k
    · simp [hk]
    · obtain ⟨y, hy, hyc⟩ := hgd.sub k hb
      rw [hx] at hy; injection hy with hy; subst hy
      have : decide ((c : Int) ≤ x.c) = false := by simp; omega
      rw [ge_at hx, this]; simp
  have e2 : cntP (fun k => bit (span ws am) k) ws.length = cntP (fun k => bit (spTo ws am c) k) ws.length + cntP (ge ws (span ws am) c) ws.length := cntP_two _ fun k hk => by
    obtain ⟨x, hx⟩ : ∃ x, ws[k]? = some x := ⟨_, List.getElem?_eq_getElem hk⟩
    have hi := spTo_span (am := am) hn hc (j := k)
    rw [ge_at hx]
    by_cases hxc : (c : Int) ≤ x.c
    · have hno : bit (spTo ws am c) k = false := by
        cases hb : bit (spTo ws am c) k
        · rfl
        · obtain ⟨_, y, hy, hyc⟩ := hi.1 hb
          rw [hx] at hy; injection hy with hy; subst hy; omega
      rw [hno]; simp [hxc]
    · have : bit (spTo ws am c) k = bit (span ws am) k := by
        rw [Bool.eq_iff_iff, hi]
        exact ⟨fun h => h.1, fun h => ⟨h, x, hx, by omega⟩⟩
      rw [this]; simp [hxc]
  rw [pop_cntP hl9 hU0 hU1] at hUp
  rw [pop_cntP hl9 hSb.1 hSb.2] at hpS
  omega
theorem spanP_least0 {n : Int} {ws : List Wy} {t am p : Int} (hn : NetIs n ws) (a0 : 0 ≤ am) (a1 : am < 2 ^ n.toNat) (hin : Ins ws am t) (hp : 0 ≤ p) (hpa : bit am p = true) (hj : joins ws t am = true) : cost ws (span ws am) ≤ cost ws t := by
  rw [cost_sum9 hn, cost_sum9 hn]
  have h1 := geP_least hn a0 a1 hin hp hpa hj 1 (by omega)
  have h2 := geP_least hn a0 a1 hin hp hpa hj 2 (by omega)
  have h3 := geP_least hn a0 a1 hin hp hpa hj 3 (by omega)
  have h4 := geP_least hn a0 a1 hin hp hpa hj 4 (by omega)
  have h5 := geP_least hn a0 a1 hin hp hpa hj 5 (by omega)
  have h6 := geP_least hn a0 a1 hin hp hpa hj 6 (by omega)
  have h7 := geP_least hn a0 a1 hin hp hpa hj 7 (by omega)
  have h8 := geP_least hn a0 a1 hin hp hpa hj 8 (by omega)
  have h9 := geP_least hn a0 a1 hin hp hpa hj 9 (by omega)
  have e : ∀ (s : Int) (k : Nat) (z : Int), (k : Int) = z → ge ws s (k : Int) = ge ws s z := fun s k z h => by rw [h]
  rw [e _ 1 1 rfl, e _ 1 1 rfl] at h1
  rw [e _ 2 2 rfl, e _ 2 2 rfl] at h2
  rw [e _ 3 3 rfl, e _ 3 3 rfl] at h3
  rw [e _ 4 4 rfl, e _ 4 4 rfl] at h4
  rw [e _ 5 5 rfl, e _ 5 5 rfl] at h5
  rw [e _ 6 6 rfl, e _ 6 6 rfl] at h6
  rw [e _ 7 7 rfl, e _ 7 7 rfl] at h7
  rw [e _ 8 8 rfl, e _ 8 8 rfl] at h8
  rw [e _ 9 9 rfl, e _ 9 9 rfl] at h9
  omega
/-- no ways cost nothing -/
theorem cost_none {ws : List Wy} {s : Int} (h : ∀ k : Nat, k < ws.length → bit s k = false) : cost ws s = 0 := by
  have : ∀ k, k ≤ ws.length → cost (ws.take k) s = 0 := fun k => by
    induction k with
    | zero => intro _; simp [cost, costFrom]
    | succ k ih =>
      intro hk
      obtain ⟨x, hx⟩ : ∃ x, ws[k]? = some x := ⟨_, List.getElem?_eq_getElem (by omega)⟩
      rw [cost_take ws s k x hx, ih (by omega), h k (by omega)]; simp
  have := this ws.length (Nat.le_refl _)
  rwa [List.take_length] at this
theorem ins_none {n : Int} {ws : List Wy} (hn : NetIs n ws) {s : Int} (h : Ins ws 0 s) : cost ws s = 0 := cost_none fun k hk => by
  cases hb : bit s k
  · rfl
  · obtain ⟨x, hx⟩ : ∃ x, ws[k]? = some x := ⟨_, List.getElem?_eq_getElem hk⟩
    have := (h k x hx hb).1
    rw [bit_zero_] at this; cases this
/-- what is taken costs no more than any ways between the places that join them -/
theorem spanP_least {n : Int} {ws : List Wy} {t am : Int} (hn : NetIs n ws) (a0 : 0 ≤ am) (a1 : am < 2 ^ n.toNat) (hin : Ins ws am t) (hj : joins ws t am = true) : cost ws (span ws am) ≤ cost ws t := by
  by_cases h : am = 0
  · subst h
    rw [ins_none hn (span_ins ws 0)]
    exact (cost_bds hn t).1
  · have hl := low_spec (e := am) (by omega) (by have := pow_bd n 6 (by have := hn.hi; omega); omega)
    exact spanP_least0 hn a0 a1 hin hl.1 hl.2.2.1 hj

/-! ### SpanOn, as a function of the set -/
noncomputable def so (ws : List Wy) (am : Int) : Int := if joins ws (span ws am) am then cost ws (span ws am) else -1
theorem so_le {n : Int} {ws : List Wy} {t am : Int} (hn : NetIs n ws) (a0 : 0 ≤ am) (a1 : am < 2 ^ n.toNat) (hin : Ins ws am t) (hj : joins ws t am = true) : 0 ≤ so ws am ∧ so ws am ≤ cost ws t := by
  have h := spanP_joins hn a0 a1 hin hj
  unfold so; rw [if_pos h]
  exact ⟨(cost_bds hn _).1, spanP_least hn a0 a1 hin hj⟩
theorem so_rc {n : Int} {ws : List Wy} {am : Int} (hn : NetIs n ws) (h : 0 ≤ so ws am) : joins ws (span ws am) am = true ∧ so ws am = cost ws (span ws am) ∧ 0 ≤ rc ws am ∧ rc ws am ≤ so ws am := by
  have hb := span_bd ws am
  unfold so at h ⊢
  split at h
  · rename_i hj
    rw [if_pos hj]
    have := rc_le hn hb.1 hb.2 hj
    exact ⟨hj, rfl, this.1, this.2⟩
  · omega
theorem so_ge {n : Int} {ws : List Wy} (hn : NetIs n ws) (am : Int) : -1 ≤ so ws am := by
  unfold so
  split
  · have := (cost_bds hn (span ws am)).1; omega
  · omega
theorem so_none {n : Int} {ws : List Wy} (hn : NetIs n ws) : so ws 0 = 0 := by
  unfold so
  rw [if_pos (joins_none _ _), ins_none hn (span_ins ws 0)]
end Go.Proofs.Ythadehgpeafniaa
namespace Go.Proofs.Ythadehgpeafniaa
open Go.RowKit

/-- a root joins its ends and all its places -/
theorem root_span {n : Int} {ws : List Wy} {e : Int} (hn : NetIs n ws) (e0 : 0 ≤ e) (e1 : e < 2 ^ n.toNat) (h : 0 ≤ best ws e) : joins ws (best ws e) (ior e (nds ws (best ws e))) = true := by
  have hl := hn.len
  have h6 := hn.hi
  have hbb := best_bd ws e
  have hfb := full_bd ws.length hl
  have hnb := nds_bd hn (best ws e)
  have hcb := ior_bd e (nds ws (best ws e)) _ e1 hnb.2.2
  have hpl := pow_bd (ws.length : Int) 9 (by omega)
  rw [Int.toNat_natCast] at hpl
  have hwy : ∀ (k : Nat) (x : Wy), ws[k]? = some x → bit (best ws e) k = true → e ≠ 0 := fun k x hx hb he => by
    have := best_needs hn h (List.getElem?_eq_some_iff.1 hx).1 hb
    rw [he, joins_none] at this; cases this
  rw [joins_iff hn hcb.1 hcb.2]
  by_cases he : e = 0
  · intro p q p0 q0 hp hq
    rw [bit_ior, he, bit_zero_, Bool.false_or, ← he, nds_iff hn _ p p0] at hp
    obtain ⟨k, x, hx, hb, _⟩ := hp
    exact absurd he (hwy k x hx hb)
  · obtain ⟨v, hv0, hve⟩ : ∃ v, 0 ≤ v ∧ bit e v = true := by
      have hl := low_spec (e := e) (by omega) (by have := pow_bd n 6 (by omega); omega)
      exact ⟨_, hl.1, hl.2.2.1⟩
    have hvn : v < n := by have := set_sub e0 e1 hve; have := hn.lo; omega
    have J := (joins_iff hn e0 e1).1 (best_joins h)
    have key : ∀ (k : Nat) (x : Wy), ws[k]? = some x → bit (best ws e) k = true → bit (reach ws (best ws e) v) x.a = true := fun k x hx hb => by
      cases hr : bit (reach ws (best ws e) v) x.a
      · exfalso
        have hk := (List.getElem?_eq_some_iff.1 hx).1
        have hnd := best_needs hn h hk hb
        have ht : ∀ q, 0 ≤ q → bit e q = true → bit (reach ws (best ws e - 2 ^ k) v) q = true := fun q hq hbq => by
          refine reach_in hn hv0 hvn hq (fun j z hz hbj hrj => ?_) (J v q hv0 hq hve hbq)
          have hj := (List.getElem?_eq_some_iff.1 hz).1
          rw [(lessb (j := j) h (by omega) (show k < 9 by omega) (by omega) hb).1, hbj]
          have : j ≠ k := fun e => by
            subst e
            rw [hx] at hz; injection hz with hz; subst hz
            rw [hr] at hrj; cases hrj
          simp [this]
        have : joins ws (best ws e - 2 ^ k) e = true := by
          rw [joins_iff hn e0 e1]
          intro p q p0 q0 hp hq
          have hpn : p < n := by have := set_sub e0 e1 hp; have := hn.lo; omega
          exact re_trans hn p0 hpn hv0 (re_sym hn hv0 hvn p0 (ht p p0 hp)) (ht q q0 hq)
        rw [hnd] at this; cases this
      · rfl
    have R := reach_is (s := best ws e) hn hv0 hvn
    have all : ∀ q, 0 ≤ q → bit (ior e (nds ws (best ws e))) q = true → bit (reach ws (best ws e) v) q = true := fun q hq hb => by
      rw [bit_ior, Bool.or_eq_true, nds_iff hn _ q hq] at hb
      rcases hb with hb | ⟨k, x, hx, hbk, rfl | rfl⟩
      · exact J v q hv0 hq hve hb
      · exact key k x hx hbk
      · rw [← R.closed k x hx hbk]; exact key k x hx hbk
    intro p q p0 q0 hp hq
    have hpn : p < n := by have := set_sub hcb.1 hcb.2 hp; have := hn.lo; omega
    exact re_trans hn p0 hpn hv0 (re_sym hn hv0 hvn p0 (all p p0 hp)) (all q q0 hq)
/-- the places of a root are a choice that costs what it does -/
theorem so_root {n : Int} {ws : List Wy} {e : Int} (hn : NetIs n ws) (e0 : 0 ≤ e) (e1 : e < 2 ^ n.toNat) (h : 0 ≤ rc ws e) : so ws (ior e (nds ws (best ws e))) = rc ws e := by
  have hb : 0 ≤ best ws e := by
    unfold rc at h
    split at h <;> omega
  have hc : rc ws e = cost ws (best ws e) := by unfold rc; rw [if_neg (by omega)]
  have hnb := nds_bd hn (best ws e)
  have hcb := ior_bd e (nds ws (best ws e)) _ e1 hnb.2.2
  have hin : Ins ws (ior e (nds ws (best ws e))) (best ws e) := fun k x hx hbk => by
    have hxa := hn.at_ hx
    rw [bit_ior, bit_ior, Bool.or_eq_true, Bool.or_eq_true, nds_iff hn _ x.a hxa.1, nds_iff hn _ x.b hxa.2.2.1]
    exact ⟨.inr ⟨k, x, hx, hbk, .inl rfl⟩, .inr ⟨k, x, hx, hbk, .inr rfl⟩⟩
  have h1 := so_le hn hcb.1 hcb.2 hin (root_span hn e0 e1 hb)
  have h2 := so_rc hn h1.1
  have h3 := rc_mono hn e0 e1 hcb.1 hcb.2 (fun q hq hbq => by rw [bit_ior, hbq]; rfl) h2.2.2.1
  omega
/-- each choice costs at least what a root does -/
theorem so_least {n : Int} {ws : List Wy} {e c : Int} (hn : NetIs n ws) (e0 : 0 ≤ e) (e1 : e < 2 ^ n.toNat) (c1 : c < 2 ^ n.toNat) (h : 0 ≤ so ws (ior e c)) : 0 ≤ rc ws e ∧ rc ws e ≤ so ws (ior e c) := by
  have hcb := ior_bd e c _ e1 c1
  have h2 := so_rc hn h
  have h3 := rc_mono hn e0 e1 hcb.1 hcb.2 (fun q hq hbq => by rw [bit_ior, hbq]; rfl) h2.2.2.1
  omega

/-! ### the least choice -/
noncomputable def okC (ws : List Wy) (e k : Int) : Bool := decide (iand k e = 0) && decide (so ws (ior e k) = rc ws e)
noncomputable def bcTo (ws : List Wy) (e : Int) : Nat → Int
  | 0 => -1
  | k + 1 => if okC ws e k = true ∧ (bcTo ws e k < 0 ∨ pop k < pop (bcTo ws e k)) then k else bcTo ws e k
theorem bcTo_bd (ws : List Wy) (e : Int) : ∀ k : Nat, -1 ≤ bcTo ws e k ∧ bcTo ws e k < k
  | 0 => by unfold bcTo; omega
  | k + 1 => by
    have := bcTo_bd ws e k
    rw [bcTo]; split <;> omega
theorem bcTo_ok (ws : List Wy) (e : Int) : ∀ k : Nat, (0 ≤ bcTo ws e k → okC ws e (bcTo ws e k) = true) ∧ ∀ s : Nat, s < k → okC ws e s = true → 0 ≤ bcTo ws e k ∧ pop (bcTo ws e k) ≤ pop s
  | 0 => ⟨fun h => by unfold bcTo at h; omega, fun s h => absurd h (by omega)⟩
  | k + 1 => by
    obtain ⟨h1, h2⟩ := bcTo_ok ws e k
    rw [bcTo]
    split
    · rename_i hc
      refine ⟨fun _ => hc.1, fun s hs ho => ⟨by omega, ?_⟩⟩
      by_cases hsk : s = k
      · subst hsk; omega
      · have h3 := h2 s (by omega) ho
        rcases hc.2 with h4 | h4 <;> omega
    · rename_i hc
      refine ⟨h1, fun s hs ho => ?_⟩
      by_cases hsk : s = k
      · subst hsk
        have h3 : ¬ (bcTo ws e s < 0 ∨ pop s < pop (bcTo ws e s)) := fun h => hc ⟨ho, h⟩
        omega
      · exact h2 s (by omega) ho
noncomputable def bc (n : Int) (ws : List Wy) (e : Int) : Int := bcTo ws e (2 ^ n.toNat)
theorem bc_bd {n : Int} (ws : List Wy) (e : Int) : -1 ≤ bc n ws e ∧ bc n ws e < 2 ^ n.toNat := by
  have := bcTo_bd ws e (2 ^ n.toNat)
  have e2 : ((2 : Int) ^ n.toNat) = ((2 ^ n.toNat : Nat) : Int) := by simp
  unfold bc; omega
theorem bc_ok {n : Int} {ws : List Wy} {e : Int} (h : 0 ≤ bc n ws e) : iand (bc n ws e) e = 0 ∧ so ws (ior e (bc n ws e)) = rc ws e := by
  have := (bcTo_ok ws e (2 ^ n.toNat)).1 h
  unfold okC at this
  rw [Bool.and_eq_true, decide_eq_true_eq, decide_eq_true_eq] at this
  exact this
theorem bc_least {n : Int} {ws : List Wy} {e s : Int} (s0 : 0 ≤ s) (s1 : s < 2 ^ n.toNat) (h1 : iand s e = 0) (h2 : so ws (ior e s) = rc ws e) : 0 ≤ bc n ws e ∧ pop (bc n ws e) ≤ pop s := by
  have e2 : ((2 : Int) ^ n.toNat) = ((2 ^ n.toNat : Nat) : Int) := by simp
  have := (bcTo_ok ws e (2 ^ n.toNat)).2 s.toNat (by omega) (by rw [Int.toNat_of_nonneg s0]; unfold okC; simp [h1, h2])
  rw [Int.toNat_of_nonneg s0] at this
  exact this
/-- the further places of a root are a choice -/
theorem bc_root {n : Int} {ws : List Wy} {e : Int} (hn : NetIs n ws) (e0 : 0 ≤ e) (e1 : e < 2 ^ n.toNat) (h : 0 ≤ rc ws e) : 0 ≤ bc n ws e ∧ pop (bc n ws e) ≤ pop (idiff (nds ws (best ws e)) e) := by
  have hnb := nds_bd hn (best ws e)
  have hd := idiff_bd (nds ws (best ws e)) e hnb.1
  refine bc_least hd.1 (by omega) ?_ ?_
  · refine set_ext (iand_bd _ _ hd.1).1 (Int.le_refl _) fun q hq => ?_
    rw [bit_iand, bit_idiff, bit_zero_]
    cases bit (nds ws (best ws e)) q <;> cases bit e q <;> rfl
  · have : ior e (idiff (nds ws (best ws e)) e) = ior e (nds ws (best ws e)) := by
      refine set_ext (ior_nn _ _) (ior_nn _ _) fun q hq => ?_
      rw [bit_ior, bit_ior, bit_idiff]
      cases bit (nds ws (best ws e)) q <;> cases bit e q <;> rfl
    rw [this]; exact so_root hn e0 e1 h
theorem bc_told {n : Int} {ws : List Wy} {e : Int} (hn : NetIs n ws) (e0 : 0 ≤ e) (e1 : e < 2 ^ n.toNat) (h : bc n ws e < 0) (hg : 0 ≤ rc ws e) : False := by
  have := (bc_root hn e0 e1 hg).1
  omega
/-- without one of its places it is none -/
theorem bc_needs {n : Int} {ws : List Wy} {e : Int} (hn : NetIs n ws) (h : 0 ≤ bc n ws e) {k : Nat} (hk : k < 9) (hb : bit (bc n ws e) k = true) : so ws (ior e (bc n ws e - 2 ^ k)) ≠ rc ws e := by
  intro hc
  have h6 := hn.hi
  have hbd := bc_bd (n := n) ws e
  have hp6 := pow_bd n 6 (by omega)
  have hok := (bc_ok h).1
  have hl := fun j (hj : j < 9) => lessb (j := j) h (by omega) hk hj hb
  have h2 := (hl 0 (by omega)).2
  have hpw : (1 : Int) ≤ 2 ^ k := by
    have e2 : ((2 : Int) ^ k) = ((2 ^ k : Nat) : Int) := by simp
    have := Nat.one_le_two_pow (n := k)
    omega
  have hle := bc_least (n := n) (s := bc n ws e - 2 ^ k) (by omega) (by omega) (by
    refine set_ext (iand_bd _ _ (by omega)).1 (Int.le_refl _) fun q hq => ?_
    rw [bit_iand, bit_zero_]
    cases hbq : bit (bc n ws e - 2 ^ k) q
    · rfl
    · have hq9 := set_sub (n := 9) (show 0 ≤ bc n ws e - 2 ^ k by omega) (by omega) hbq
      have h3 := (hl q.toNat (by omega)).1
      rw [Int.toNat_of_nonneg hq, hbq] at h3
      have h4 : bit (bc n ws e) q = true := by
        cases hh : bit (bc n ws e) q
        · rw [hh] at h3; simp at h3
        · rfl
      have h5 : bit (iand (bc n ws e) e) q = false := by rw [hok, bit_zero_]
      rw [bit_iand, h4] at h5
      exact h5) hc
  have hpp := pop_less h (by omega) hk hb
  omega
end Go.Proofs.Ythadehgpeafniaa
namespace Go.Proofs.Ythadehgpeafniaa
open Go.RowKit

/-- the numbers below c of the size s, behind a list -/
def smRow (s : Nat) (L : List Int) : Nat → List Int
  | 0 => L
  | c + 1 => if pop (c : Int) = (s : Int) then smRow s L c ++ [(c : Int)] else smRow s L c
/-- the numbers below N of sizes below s -/
def smTo (N : Nat) : Nat → List Int
  | 0 => []
  | s + 1 => smRow s (smTo N s) N
theorem smRow_yes {s c : Nat} {L : List Int} (h : pop (c : Int) = (s : Int)) : smRow s L (c + 1) = smRow s L c ++ [(c : Int)] := by rw [smRow, if_pos h]
theorem smRow_no {s c : Nat} {L : List Int} (h : pop (c : Int) ≠ (s : Int)) : smRow s L (c + 1) = smRow s L c := by rw [smRow, if_neg h]
def cntS (s : Nat) : Nat → Nat
  | 0 => 0
  | c + 1 => if pop (c : Int) = (s : Int) then cntS s c + 1 else cntS s c
def totS (s : Nat) : Nat → Nat
  | 0 => 0
  | c + 1 => if pop (c : Int) < (s : Int) then totS s c + 1 else totS s c
theorem totS_le (s : Nat) : ∀ c, totS s c ≤ c
  | 0 => Nat.le_refl _
  | c + 1 => by
    have := totS_le s c
    rw [totS]; split <;> omega
theorem totS_zero : ∀ c, totS 0 c = 0
  | 0 => rfl
  | c + 1 => by
    have h := (pop_bd (c : Int)).1
    rw [totS, if_neg (by omega)]; exact totS_zero c
theorem totS_succ (s : Nat) : ∀ c, totS (s + 1) c = totS s c + cntS s c
  | 0 => rfl
  | c + 1 => by
    have ih := totS_succ s c
    rw [totS, totS, cntS]
    by_cases h1 : pop (c : Int) < (s : Int)
    · rw [if_pos (show pop (c : Int) < ((s + 1 : Nat) : Int) by omega), if_pos h1, if_neg (by omega)]; omega
    · by_cases h2 : pop (c : Int) = (s : Int)
      · rw [if_pos (show pop (c : Int) < ((s + 1 : Nat) : Int) by omega), if_neg h1, if_pos h2]; omega
      · rw [if_neg (show ¬ pop (c : Int) < ((s + 1 : Nat) : Int) by omega), if_neg h1, if_neg h2]; omega
theorem cntS_mono (s : Nat) {c : Nat} : ∀ {d : Nat}, c ≤ d → cntS s c ≤ cntS s d
  | 0, h => by rw [show c = 0 by omega]; exact Nat.le_refl _
  | d + 1, h => by
    by_cases e : c = d + 1
    · subst e; exact Nat.le_refl _
    · have := cntS_mono s (c := c) (d := d) (by omega)
      have h2 : cntS s d ≤ cntS s (d + 1) := by rw [cntS]; split <;> omega
      omega
theorem smRow_len (s : Nat) (L : List Int) : ∀ c, (smRow s L c).length = L.length + cntS s c
  | 0 => rfl
  | c + 1 => by
    have ih := smRow_len s L c
    rw [cntS]
    by_cases h : pop (c : Int) = (s : Int)
    · rw [smRow_yes h, if_pos h, List.length_append, ih]; simp; omega
    · rw [smRow_no h, if_neg h, ih]
theorem smTo_len (N : Nat) : ∀ s, (smTo N s).length = totS s N
  | 0 => by rw [smTo, totS_zero]; rfl
  | s + 1 => by rw [smTo, smRow_len, smTo_len N s, totS_succ]
theorem smTo_le (N s : Nat) : (smTo N s).length ≤ N := by rw [smTo_len]; exact totS_le s N
theorem smRow_le {N c : Nat} (s : Nat) (h : c ≤ N) : (smRow s (smTo N s) c).length ≤ N := by
  have h1 := cntS_mono s h
  have h2 := totS_le (s + 1) N
  rw [smRow_len, smTo_len]
  rw [totS_succ] at h2
  omega
theorem smRow_mem {s N : Nat} {L : List Int} (hL : ∀ x ∈ L, 0 ≤ x ∧ x < (N : Int)) : ∀ c, c ≤ N → ∀ x ∈ smRow s L c, 0 ≤ x ∧ x < (N : Int)
  | 0, _, x, hx => hL x hx
  | c + 1, h, x, hx => by
    by_cases hp : pop (c : Int) = (s : Int)
    · rw [smRow_yes hp, List.mem_append, List.mem_singleton] at hx
      rcases hx with hx | rfl
      · exact smRow_mem hL c (by omega) x hx
      · omega
    · rw [smRow_no hp] at hx
      exact smRow_mem hL c (by omega) x hx
theorem smTo_mem (N : Nat) : ∀ s, ∀ x ∈ smTo N s, 0 ≤ x ∧ x < (N : Int)
  | 0, x, hx => by cases hx
  | s + 1, x, hx => smRow_mem (smTo_mem N s) N (Nat.le_refl _) x hx
theorem getD_mem {L : List Int} {i : Nat} (h : i < L.length) : L.getD i 0 ∈ L := by
  rw [List.getD_eq_getElem?_getD, List.getElem?_eq_getElem h]
  exact List.getElem_mem h
theorem smTo_at (N s : Nat) {i : Nat} (h : i < (smTo N s).length) : 0 ≤ (smTo N s).getD i 0 ∧ (smTo N s).getD i 0 < (N : Int) := smTo_mem N s _ (getD_mem h)

/-- what is found first, among the numbers of a kind -/
structure IsFst (ws : List Wy) (e : Int) (P : Nat → Prop) (o : Option Int) : Prop where
  no : o = none → ∀ j : Nat, P j → okC ws e (j : Int) = false
  yes : ∀ r, o = some r → ∃ x : Nat, r = (x : Int) ∧ P x ∧ okC ws e (x : Int) = true ∧ ∀ j : Nat, P j → okC ws e (j : Int) = true → pop (x : Int) < pop (j : Int) ∨ (pop (x : Int) = pop (j : Int) ∧ x ≤ j)
theorem IsFst.congr {ws : List Wy} {e : Int} {P Q : Nat → Prop} {o : Option Int} (h : IsFst ws e P o) (hpq : ∀ j, P j ↔ Q j) : IsFst ws e Q o := by
  have : P = Q := funext fun j => propext (hpq j)
  rw [← this]; exact h
theorem IsFst.none_ {ws : List Wy} {e : Int} {P : Nat → Prop} (h : ∀ j : Nat, P j → okC ws e (j : Int) = false) : IsFst ws e P none := ⟨fun _ => h, fun r hr => (by cases hr)⟩
theorem IsFst.some_ {ws : List Wy} {e : Int} {P : Nat → Prop} (x : Nat) (h1 : P x) (h2 : okC ws e (x : Int) = true) (h3 : ∀ j : Nat, P j → okC ws e (j : Int) = true → pop (x : Int) < pop (j : Int) ∨ (pop (x : Int) = pop (j : Int) ∧ x ≤ j)) : IsFst ws e P (some (x : Int)) := ⟨fun h => (by cases h), fun r hr => by injection hr with hr; exact ⟨x, hr.symm, h1, h2, h3⟩⟩
def UpTo (N s c : Nat) (j : Nat) : Prop := j < N ∧ (pop (j : Int) < (s : Int) ∨ (pop (j : Int) = (s : Int) ∧ j < c))
theorem UpTo.more {N s c j : Nat} (h : UpTo N s (c + 1) j) (hne : j ≠ c) : UpTo N s c j := ⟨h.1, by
  rcases h.2 with h | h
  · exact .inl h
  · exact .inr ⟨h.1, by omega⟩⟩
theorem UpTo.less {N s c j : Nat} (h : UpTo N s c j) : UpTo N s (c + 1) j := ⟨h.1, by
  rcases h.2 with h | h
  · exact .inl h
  · exact .inr ⟨h.1, by omega⟩⟩
theorem fst_step {ws : List Wy} {e : Int} {s N c : Nat} (hc : c < N) (hp : pop (c : Int) = (s : Int)) : ∀ o : Option Int, IsFst ws e (UpTo N s c) o → IsFst ws e (UpTo N s (c + 1)) (o.or ([(c : Int)].find? (okC ws e)))
  | none, ih => by
    rw [Option.none_or]
    cases ho : okC ws e (c : Int)
    · have : [(c : Int)].find? (okC ws e) = none := by simp [ho]
      rw [this]
      refine IsFst.none_ fun j hj => ?_
      by_cases hjc : j = c
      · subst hjc; exact ho
      · exact ih.no rfl j (hj.more hjc)
    · have : [(c : Int)].find? (okC ws e) = some (c : Int) := by simp [ho]
      rw [this]
      refine IsFst.some_ c ⟨hc, .inr ⟨hp, by omega⟩⟩ ho fun j hj hjo => ?_
      by_cases hjc : j = c
      · subst hjc; exact .inr ⟨rfl, Nat.le_refl _⟩
      · have := ih.no rfl j (hj.more hjc)
        rw [hjo] at this; cases this
  | some r, ih => by
    rw [Option.some_or]
    obtain ⟨x, rfl, hx, hxo, hxm⟩ := ih.yes r rfl
    refine IsFst.some_ x hx.less hxo fun j hj hjo => ?_
    by_cases hjc : j = c
    · subst hjc
      rcases hx.2 with h | h
      · exact .inl (by omega)
      · exact .inr ⟨by omega, by omega⟩
    · exact hxm j (hj.more hjc) hjo
theorem smRow_fst {ws : List Wy} {e : Int} {s N : Nat} {L : List Int} (hL : IsFst ws e (UpTo N s 0) (L.find? (okC ws e))) : ∀ c : Nat, c ≤ N → IsFst ws e (UpTo N s c) ((smRow s L c).find? (okC ws e)) := by
  intro c
  induction c with
  | zero => intro _; exact hL
  | succ c ih =>
    intro hc
    replace ih := ih (Nat.le_of_succ_le hc)
    by_cases hp : pop (c : Int) = (s : Int)
    · rw [smRow_yes hp, List.find?_append]
      exact fst_step (Nat.lt_of_succ_le hc) hp _ ih
    · rw [smRow_no hp]
      exact ih.congr fun j => ⟨fun h => h.less, fun h => ⟨h.1, by
        rcases h.2 with a | a
        · exact .inl a
        · refine .inr ⟨a.1, ?_⟩
          have : j ≠ c := fun e => by subst e; exact hp a.1
          omega⟩⟩
theorem smTo_fst (ws : List Wy) (e : Int) (N : Nat) : ∀ s : Nat, IsFst ws e (fun j => j < N ∧ pop (j : Int) < (s : Int)) ((smTo N s).find? (okC ws e)) := by
  intro s
  induction s with
  | zero => exact IsFst.none_ fun j hj => by have := (pop_bd (j : Int)).1; have := hj.2; omega
  | succ s ih =>
    have h0 : IsFst ws e (UpTo N s 0) ((smTo N s).find? (okC ws e)) := ih.congr fun j => ⟨fun h => ⟨h.1, .inl h.2⟩, fun h => ⟨h.1, by
      rcases h.2 with a | a
      · exact a
      · omega⟩⟩
    refine (smRow_fst h0 N (Nat.le_refl _)).congr fun j => ⟨fun h => ⟨h.1, by rcases h.2 with a | a <;> omega⟩, fun h => ⟨h.1, ?_⟩⟩
    have h2 := h.2
    by_cases hh : pop (j : Int) < (s : Int)
    · exact .inl hh
    · exact .inr ⟨by omega, h.1⟩
theorem pop_in_all : ∀ (m : Fin 7) (j : Fin 64), j.val < 2 ^ m.val → pop (j.val : Int) < (m.val + 1 : Nat) := by decide +kernel
theorem bcTo_min (ws : List Wy) (e : Int) : ∀ k : Nat, ∀ s : Nat, s < k → okC ws e s = true → 0 ≤ bcTo ws e k ∧ (pop (bcTo ws e k) < pop s ∨ (pop (bcTo ws e k) = pop s ∧ bcTo ws e k ≤ s))
  | 0, s, hs, _ => absurd hs (by omega)
  | k + 1, s, hs, ho => by
    have hbd := bcTo_bd ws e k
    by_cases hc : okC ws e k = true ∧ (bcTo ws e k < 0 ∨ pop k < pop (bcTo ws e k))
    · rw [bcTo, if_pos hc]
      by_cases hsk : s = k
      · subst hsk; exact ⟨by omega, .inr ⟨rfl, by omega⟩⟩
      · have h := bcTo_min ws e k s (by omega) ho
        refine ⟨by omega, .inl ?_⟩
        rcases hc.2 with h1 | h1
        · omega
        · rcases h.2 with h2 | h2 <;> omega
    · rw [bcTo, if_neg hc]
      by_cases hsk : s = k
      · subst hsk
        have h3 : ¬ (bcTo ws e s < 0 ∨ pop s < pop (bcTo ws e s)) := fun h => hc ⟨ho, h⟩
        refine ⟨by omega, ?_⟩
        by_cases h4 : pop (bcTo ws e s) = pop s
        · exact .inr ⟨h4, by omega⟩
        · exact .inl (by omega)
      · exact bcTo_min ws e k s (by omega) ho
/-- the first choice in that order is the least one -/
theorem bc_find {m : Nat} (hm : m ≤ 6) (ws : List Wy) (e : Int) : (smTo (2 ^ m) (m + 1)).find? (okC ws e) = if bcTo ws e (2 ^ m) < 0 then none else some (bcTo ws e (2 ^ m)) := by
  have h := smTo_fst ws e (2 ^ m) (m + 1)
  have hN : 2 ^ m ≤ 64 := Nat.pow_le_pow_right (n := 2) (by omega) hm
  have hin : ∀ j : Nat, j < 2 ^ m → pop (j : Int) < ((m + 1 : Nat) : Int) := fun j hj => pop_in_all ⟨m, by omega⟩ ⟨j, by omega⟩ hj
  have hbd := bcTo_bd ws e (2 ^ m)
  have hok := bcTo_ok ws e (2 ^ m)
  have hmin := bcTo_min ws e (2 ^ m)
  cases hf : (smTo (2 ^ m) (m + 1)).find? (okC ws e) with
  | none =>
    rw [hf] at h
    by_cases hb : bcTo ws e (2 ^ m) < 0
    · rw [if_pos hb]
    · exfalso
      obtain ⟨x, hx⟩ := Int.eq_ofNat_of_zero_le (show 0 ≤ bcTo ws e (2 ^ m) by omega)
      have h1 := hok.1 (by omega)
      rw [hx] at h1
      have h2 := h.no rfl x ⟨by omega, hin x (by omega)⟩
      rw [h1] at h2; cases h2
  | some r =>
    rw [hf] at h
    obtain ⟨x, rfl, hx, hxo, hxm⟩ := h.yes r rfl
    have h1 := hmin x hx.1 hxo
    rw [if_neg (by omega)]
    obtain ⟨y, hy⟩ := Int.eq_ofNat_of_zero_le h1.1
    have h2 := hok.1 h1.1
    rw [hy] at h1 h2 ⊢
    have h3 := hxm y ⟨by omega, hin y (by omega)⟩ h2
    rw [hy] at hbd
    have : x = y := by
      rcases h1.2 with a | a <;> rcases h3 with b | b <;> omega
    rw [this]
theorem find_at {p : Int → Bool} : ∀ {L : List Int} {i : Nat}, (∀ j, j < i → p (L.getD j 0) = false) → i < L.length → p (L.getD i 0) = true → L.find? p = some (L.getD i 0)
  | [], i, _, h, _ => absurd h (by simp)
  | x :: L, 0, _, _, h => by
    have h' : p x = true := by simpa using h
    simp [List.find?, h']
  | x :: L, i + 1, ha, hi, h => by
    have h0 : p x = false := by simpa using ha 0 (by omega)
    have := find_at (p := p) (L := L) (i := i) (fun j hj => by simpa using ha (j + 1) (by omega)) (by simpa using hi) (by simpa using h)
    simp only [List.find?, h0]
    rw [this]; simp
theorem find_none {p : Int → Bool} : ∀ {L : List Int}, (∀ j, j < L.length → p (L.getD j 0) = false) → L.find? p = none
  | [], _ => rfl
  | x :: L, ha => by
    have h0 : p x = false := by simpa using ha 0 (by simp)
    have := find_none (p := p) (L := L) (fun j hj => by simpa using ha (j + 1) (by simpa using hj))
    simp only [List.find?, h0]
    exact this
theorem bc_first {m : Nat} (hm : m ≤ 6) {ws : List Wy} {e : Int} {i : Nat} (ha : ∀ j, j < i → okC ws e ((smTo (2 ^ m) (m + 1)).getD j 0) = false) (hi : i < (smTo (2 ^ m) (m + 1)).length) (h : okC ws e ((smTo (2 ^ m) (m + 1)).getD i 0) = true) : bcTo ws e (2 ^ m) = (smTo (2 ^ m) (m + 1)).getD i 0 := by
  have h1 := bc_find hm ws e
  rw [find_at ha hi h] at h1
  split at h1
  · cases h1
  · injection h1 with h1; exact h1.symm
theorem bc_never {m : Nat} (hm : m ≤ 6) {ws : List Wy} {e : Int} (ha : ∀ j, j < (smTo (2 ^ m) (m + 1)).length → okC ws e ((smTo (2 ^ m) (m + 1)).getD j 0) = false) : bcTo ws e (2 ^ m) = -1 := by
  have h1 := bc_find hm ws e
  rw [find_none ha] at h1
  have hbd := bcTo_bd ws e (2 ^ m)
  split at h1
  · omega
  · cases h1
end Go.Proofs.Ythadehgpeafniaa
namespace Go.Proofs.Ythadehgpeafniaa
open Go.RowKit

/-- the least cost of a way between the first two places, among the first k ways; -1 if there is none -/
def dirTo (ws : List Wy) : Nat → Int
  | 0 => -1
  | k + 1 => match ws[k]? with
    | some x => if wayPl x = 3 ∧ (dirTo ws k < 0 ∨ x.c < dirTo ws k) then x.c else dirTo ws k
    | none => dirTo ws k
theorem dirTo_yes {ws : List Wy} {k : Nat} {x : Wy} (hx : ws[k]? = some x) (h : wayPl x = 3) (hc : dirTo ws k < 0 ∨ x.c < dirTo ws k) : dirTo ws (k + 1) = x.c := by
  rw [dirTo, hx]; simp only; rw [if_pos ⟨h, hc⟩]
theorem dirTo_no {ws : List Wy} {k : Nat} {x : Wy} (hx : ws[k]? = some x) (h : ¬ (wayPl x = 3 ∧ (dirTo ws k < 0 ∨ x.c < dirTo ws k))) : dirTo ws (k + 1) = dirTo ws k := by
  rw [dirTo, hx]; simp only; rw [if_neg h]
theorem dirTo_ge {n : Int} {ws : List Wy} (hn : NetIs n ws) : ∀ k, -1 ≤ dirTo ws k ∧ dirTo ws k ≤ 9
  | 0 => by unfold dirTo; omega
  | k + 1 => by
    have ih := dirTo_ge hn k
    cases hx : ws[k]? with
    | none => rw [dirTo, hx]; exact ih
    | some x =>
      have hxc := hn.at_ hx
      by_cases h : wayPl x = 3 ∧ (dirTo ws k < 0 ∨ x.c < dirTo ws k)
      · rw [dirTo_yes hx h.1 h.2]; omega
      · rw [dirTo_no hx h]; exact ih
theorem dirTo_ok {n : Int} {ws : List Wy} (hn : NetIs n ws) : ∀ k, (∀ (j : Nat) (x : Wy), j < k → ws[j]? = some x → wayPl x = 3 → 0 ≤ dirTo ws k ∧ dirTo ws k ≤ x.c) ∧ (0 ≤ dirTo ws k → ∃ (j : Nat) (x : Wy), ws[j]? = some x ∧ wayPl x = 3 ∧ dirTo ws k = x.c)
  | 0 => ⟨fun j x h => absurd h (by omega), fun h => by unfold dirTo at h; omega⟩
  | k + 1 => by
    obtain ⟨h1, h2⟩ := dirTo_ok hn k
    cases hx : ws[k]? with
    | none =>
      rw [dirTo, hx]
      refine ⟨fun j y hj hy => h1 j y ?_ hy, h2⟩
      have : j ≠ k := fun e => by subst e; rw [hx] at hy; cases hy
      omega
    | some x =>
      have hxc := hn.at_ hx
      by_cases h : wayPl x = 3 ∧ (dirTo ws k < 0 ∨ x.c < dirTo ws k)
      · rw [dirTo_yes hx h.1 h.2]
        refine ⟨fun j y hj hy hw => ?_, fun _ => ⟨k, x, hx, h.1, rfl⟩⟩
        by_cases e : j = k
        · subst e; rw [hx] at hy; injection hy with hy; subst hy; omega
        · have := h1 j y (by omega) hy hw
          rcases h.2 with h3 | h3 <;> omega
      · rw [dirTo_no hx h]
        refine ⟨fun j y hj hy hw => ?_, h2⟩
        by_cases e : j = k
        · subst e; rw [hx] at hy; injection hy with hy; subst hy
          have : ¬ (dirTo ws j < 0 ∨ x.c < dirTo ws j) := fun g => h ⟨hw, g⟩
          omega
        · exact h1 j y (by omega) hy hw
theorem cost_one {ws : List Wy} {k : Nat} {x : Wy} (hx : ws[k]? = some x) : cost ws (2 ^ k) = x.c := by
  have hz : ior 0 (2 ^ k) = 2 ^ k := by
    have : (1 : Int) ≤ 2 ^ k := by have e2 : ((2 : Int) ^ k) = ((2 ^ k : Nat) : Int) := by simp
                                   have := Nat.one_le_two_pow (n := k)
                                   omega
    unfold ior; simp; omega
  have := cost_add (u := 0) hx (bit_zero_ _)
  rw [hz, cost_zero] at this
  omega
theorem bit_three (q : Int) (hq : 0 ≤ q) : bit 3 q = (decide (q = 0) || decide (q = 1)) := by
  have e : (3 : Int) = ior (2 ^ (0 : Int).toNat) (2 ^ (1 : Int).toNat) := by decide
  rw [e, bit_ior, bit_shl _ _ (by omega) hq, bit_shl _ _ (by omega) hq]
theorem wayPl_three {n : Int} {ws : List Wy} (hn : NetIs n ws) {k : Nat} {x : Wy} (hx : ws[k]? = some x) : wayPl x = 3 ↔ bit 3 x.a = true ∧ bit 3 x.b = true := by
  obtain ⟨a0, a1, b0, b1, hne, _⟩ := hn.at_ hx
  have hb : ∀ q, 0 ≤ q → bit (wayPl x) q = (decide (q = x.a) || decide (q = x.b)) := fun q hq => by
    rw [show wayPl x = ior (2 ^ x.a.toNat) (2 ^ x.b.toNat) from rfl, bit_ior, bit_shl _ _ a0 hq, bit_shl _ _ b0 hq]
  constructor
  · intro h
    rw [← h, hb _ a0, hb _ b0]; simp
  · rintro ⟨h1, h2⟩
    rw [bit_three _ a0] at h1
    rw [bit_three _ b0] at h2
    simp only [Bool.or_eq_true, decide_eq_true_eq] at h1 h2
    refine set_ext (wayPl_bd hn hx).1 (by omega) fun q hq => ?_
    rw [hb q hq, bit_three q hq, Bool.eq_iff_iff]
    simp only [Bool.or_eq_true, decide_eq_true_eq]
    omega
/-- SpanOn of the first two places is the least cost of a way between them -/
theorem so_two {n : Int} {ws : List Wy} (hn : NetIs n ws) : so ws 3 = dirTo ws ws.length := by
  have h2 := hn.lo
  have h3 : (3 : Int) < 2 ^ n.toNat := by
    have : (2 : Int) ^ n.toNat = ((2 ^ n.toNat : Nat) : Int) := by simp
    have h4 := Nat.pow_le_pow_right (n := 2) (by omega) (show 2 ≤ n.toNat by omega)
    omega
  have hg := dirTo_ge hn ws.length
  obtain ⟨d1, d2⟩ := dirTo_ok hn ws.length
  have hs := so_ge hn 3
  -- a way between them
  have one : ∀ (j : Nat) (x : Wy), ws[j]? = some x → wayPl x = 3 → 0 ≤ so ws 3 ∧ so ws 3 ≤ x.c := fun j x hx hw => by
    have hxa := hn.at_ hx
    have hin : Ins ws 3 (2 ^ j) := fun k y hy hb => by
      rw [bit_pow j k (by omega)] at hb
      have : (k : Int) = j := by simpa using hb
      obtain rfl : k = j := by omega
      rw [hx] at hy; injection hy with hy; subst hy
      exact (wayPl_three hn hx).1 hw
    have hjn : joins ws (2 ^ j) 3 = true := by
      rw [joins_iff hn (by omega) h3]
      have h01 := re_way hn hx (s := 2 ^ j) (by rw [bit_pow j j (by omega)]; simp)
      have hw3 := (wayPl_three hn hx).1 hw
      rw [bit_three _ hxa.1, bit_three _ hxa.2.2.1] at hw3
      simp only [Bool.or_eq_true, decide_eq_true_eq] at hw3
      intro p q p0 q0 hp hq
      rw [bit_three _ p0] at hp
      rw [bit_three _ q0] at hq
      simp only [Bool.or_eq_true, decide_eq_true_eq] at hp hq
      by_cases hpq : p = q
      · subst hpq; exact (reach_is hn p0 (by omega)).has
      · by_cases hpa : p = x.a
        · have : q = x.b := by omega
          rw [hpa, this]; exact h01
        · have e1 : p = x.b := by omega
          have e2 : q = x.a := by omega
          rw [e1, e2]; exact re_sym hn hxa.1 hxa.2.1 hxa.2.2.1 h01
    have := so_le hn (by omega) h3 hin hjn
    rw [cost_one hx] at this
    exact this
  by_cases hd : 0 ≤ dirTo ws ws.length
  · obtain ⟨j, x, hx, hw, hc⟩ := d2 hd
    have h1 := one j x hx hw
    -- the other way round: some way of the span is between them
    have hso := so_rc hn h1.1
    have hj := (joins_iff hn (by omega) h3).1 hso.1 0 1 (by omega) (by omega) (by decide) (by decide)
    have hex : ∃ (k : Nat) (y : Wy), ws[k]? = some y ∧ bit (span ws 3) k = true := by
      apply Classical.byContradiction
      intro hno
      have R := reach_is (s := span ws 3) hn (p := 0) (Int.le_refl _) (by omega)
      have := R.least (fun q => decide (q = 0)) (by simp) (fun k y hy hb => absurd ⟨k, y, hy, hb⟩ hno) 1 (by omega) hj
      simp at this
    obtain ⟨k, y, hy, hb⟩ := hex
    have hyw := (wayPl_three hn hy).2 (span_ins ws 3 k y hy hb)
    have h4 := d1 k y (List.getElem?_eq_some_iff.1 hy).1 hy hyw
    have h5 := cost_mono hn (u := 2 ^ k) (s := span ws 3) (fun q hq hbq => by
      rw [bit_pow k q hq] at hbq
      obtain rfl : q = k := by simpa using hbq
      exact hb)
    rw [cost_one hy] at h5
    omega
  · have : ¬ 0 ≤ so ws 3 := fun h => by
      have hso := so_rc hn h
      have hj := (joins_iff hn (by omega) h3).1 hso.1 0 1 (by omega) (by omega) (by decide) (by decide)
      have R := reach_is (s := span ws 3) hn (p := 0) (Int.le_refl _) (by omega)
      have := R.least (fun q => decide (q = 0)) (by simp) (fun k y hy hb => by
        have hyw := (wayPl_three hn hy).2 (span_ins ws 3 k y hy hb)
        have := (d1 k y (List.getElem?_eq_some_iff.1 hy).1 hy hyw).1
        omega) 1 (by omega) hj
      simp at this
    omega
/-- of all places it is what a root costs -/
theorem so_all {n : Int} {ws : List Wy} (hn : NetIs n ws) : so ws (allPl n) = rc ws (allPl n) := by
  have hb := allPl_bd hn
  have h1 := so_ge hn (allPl n)
  have h2 := (rc_ge hn (allPl n)).1
  by_cases h : 0 ≤ rc ws (allPl n)
  · obtain ⟨s, s0, s1, hj, hc⟩ := rc_set hn h
    have h3 := so_le hn (by omega) hb.2.2 (fun k x hx _ => all_has hn hx) hj
    have h4 := (so_rc hn h3.1).2.2.2
    omega
  · by_cases h5 : 0 ≤ so ws (allPl n)
    · have := (so_rc hn h5).2.2.1; omega
    · omega
end Go.Proofs.Ythadehgpeafniaa
