/- The walk of a tree from the source, place by place: no place is come to twice, and all places are come to. Plain mathematics. -/
import Derived.Test.YtfpaalmbllhmaaaDoorUpD
set_option linter.unusedVariables false
set_option linter.unusedSimpArgs false
namespace Go.Proofs.YtfpaalmbllhmaaaDoor
open Go.RowKit

/-- way k is between v and z -/
def Ends (x : Wy) (v z : Int) : Prop := (v = x.a ∧ z = x.b) ∨ (v = x.b ∧ z = x.a)
theorem Ends.turn {x : Wy} {v z : Int} (h : Ends x v z) : Ends x z v := by
  rcases h with ⟨h1, h2⟩ | ⟨h1, h2⟩
  · exact .inr ⟨h2, h1⟩
  · exact .inl ⟨h2, h1⟩
theorem Ends.bd {n : Int} {ws : List Wy} (hn : NetIs n ws) {k : Nat} {x : Wy} (hx : ws[k]? = some x) {v z : Int} (h : Ends x v z) : 0 ≤ v ∧ v < n ∧ 0 ≤ z ∧ z < n ∧ v ≠ z := by
  have hb := hn.at_ hx
  rcases h with ⟨h1, h2⟩ | ⟨h1, h2⟩ <;> subst h1 h2 <;> exact ⟨by omega, by omega, by omega, by omega, by omega⟩

/-- the places on the way from the source to f: each further way of t at f leads to none of them -/
structure Path (n : Int) (ws : List Wy) (t P : Int) (f : Nat) : Prop where
  found : Found n ws t P
  has : bit P (f : Int) = true
  fresh : ∀ (k : Nat) (x : Wy) (z : Int), ws[k]? = some x → bit t k = true → Ends x f z → up ws t f ≠ k → bit P z = false
theorem Path.start {n : Int} {ws : List Wy} (hn : NetIs n ws) (t : Int) : Path n ws t 1 0 := by
  have hf := Found.start hn t
  refine ⟨hf, hf.zero, fun k x z hx hk he _ => ?_⟩
  have hb := he.bd hn hx
  rw [bit_src1 z hb.2.2.1]
  have := hb.2.2.2.2
  simp at this ⊢
  omega
theorem Path.ups {n : Int} {ws : List Wy} {t P : Int} {f : Nat} (ht : TreeFor n ws t) (h : Path n ws t P f) {k : Nat} {x : Wy} {z : Int} (hx : ws[k]? = some x) (hk : bit t k = true) (he : Ends x f z) (hu : up ws t f ≠ k) : Up ws t z k ∧ bit P z = false := by
  have hz := h.fresh k x z hx hk he hu
  exact ⟨h.found.up ht.net ht.indep hx hk he.turn h.has hz, hz⟩
theorem Path.step {n : Int} {ws : List Wy} {t P : Int} {f z k : Nat} (ht : TreeFor n ws t) (h : Path n ws t P f) {x : Wy} (hx : ws[k]? = some x) (hk : bit t k = true) (he : Ends x f z) (hu : up ws t f ≠ k) : Path n ws t (ior P (2 ^ z)) z := by
  obtain ⟨hup, hz⟩ := h.ups ht hx hk he hu
  have hn := ht.net
  have hb := he.bd hn hx
  have hr := ht.all (z : Int) hb.2.2.1 hb.2.2.2.1
  have hf := h.found.step hn hx hk he.turn h.has hz
  rw [Int.toNat_natCast] at hf
  refine ⟨hf, by rw [bit_ior, bit_pow z z (by omega)]; simp, fun k' x' z' hx' hk' he' hu' => ?_⟩
  have hb' := he'.bd hn hx'
  have hne : k' ≠ k := fun e => hu' (by rw [e]; exact up_is hn hb.2.2.1 hr hup)
  rw [bit_ior, bit_pow z z' hb'.2.2.1]
  have h1 : decide (z' = (z : Int)) = false := by have := hb'.2.2.2.2; simp; omega
  rw [h1, Bool.or_false]
  cases hc : bit P z' with
  | false => rfl
  | true =>
    exfalso
    have hco := h.found.come z' hb'.2.2.1 hc k' x' hx' hk' (by
      rcases he' with ⟨e1, e2⟩ | ⟨e1, e2⟩
      · rw [← e1, hz]; rfl
      · rw [← e1, hz]; simp)
    have hax := hn.at_ hx'
    have hcase : Up ws t z k' ∨ Up ws t z' k' := by
      rcases up_some hn ht.indep hx' hk' (ht.all x'.a hax.1 hax.2.1) with h2 | h2
      · rcases he' with ⟨e1, e2⟩ | ⟨e1, e2⟩
        · rw [← e1] at h2; exact .inl h2
        · rw [← e2] at h2; exact .inr h2
      · rcases he' with ⟨e1, e2⟩ | ⟨e1, e2⟩
        · rw [← e2] at h2; exact .inr h2
        · rw [← e1] at h2; exact .inl h2
    rcases hcase with h2 | h2
    · exact hne (up_one hn hb.2.2.1 hr h2 hup)
    · have := h2.out; rw [hco] at this; cases this
/-- what was walked: from each of its places but f each way of t leads to one of them, from f each of the first q ways, but for the one up -/
structure Clo (ws : List Wy) (t : Int) (f q : Nat) (Q : Nat → Bool) : Prop where
  has : Q f = true
  clo : ∀ (k : Nat) (x : Wy) (v z : Nat), ws[k]? = some x → bit t k = true → Ends x v z → Q v = true → (v = f → k < q ∧ up ws t f ≠ k) → Q z = true
theorem Clo.start (ws : List Wy) (t : Int) (f : Nat) : Clo ws t f 0 (fun j => decide (j = f)) :=
  ⟨by simp, fun k x v z _ _ _ hv hq => by have := (hq (of_decide_eq_true hv)).1; omega⟩
theorem Clo.skip {ws : List Wy} {t : Int} {f q : Nat} {Q : Nat → Bool} (h : Clo ws t f q Q) (hs : ∀ (x : Wy) (z : Nat), ws[q]? = some x → bit t q = true → Ends x f z → up ws t f ≠ q → False) : Clo ws t f (q + 1) Q :=
  ⟨h.has, fun k x v z hx hk he hv hq => by
    by_cases e : v = f ∧ k = q
    · obtain ⟨rfl, rfl⟩ := e
      exact (hs x z hx hk he (hq rfl).2).elim
    · exact h.clo k x v z hx hk he hv (fun e1 => ⟨by have := (hq e1).1; have : k ≠ q := fun e2 => e ⟨e1, e2⟩; omega, (hq e1).2⟩)⟩
theorem ends_same {x : Wy} {f z z' : Nat} (h : Ends x f z) (h' : Ends x f z') (hne : x.a ≠ x.b) : z = z' := by
  unfold Ends at h h'; omega
theorem Clo.step {n : Int} {ws : List Wy} {t : Int} {f q z : Nat} {Q Q2 : Nat → Bool} (hn : NetIs n ws) (h : Clo ws t f q Q) {x : Wy} (hx : ws[q]? = some x) (he : Ends x f z) (hz : up ws t z = q) (h2 : Clo ws t z ws.length Q2) : Clo ws t f (q + 1) (fun j => Q j || Q2 j) := by
  have hb := he.bd hn hx
  have hax := hn.at_ hx
  refine ⟨by simp [h.has], fun k y v u hy hk hey hv hq => ?_⟩
  have hkl : k < ws.length := (List.getElem?_eq_some_iff.1 hy).1
  simp only [Bool.or_eq_true] at hv ⊢
  rcases hv with hv | hv
  · by_cases e : v = f ∧ k = q
    · obtain ⟨rfl, rfl⟩ := e
      rw [hx] at hy; obtain rfl := Option.some.inj hy
      have := ends_same he hey hax.2.2.2.2.1
      subst this
      exact .inr h2.has
    · exact .inl (h.clo k y v u hy hk hey hv (fun e1 => ⟨by have := (hq e1).1; have : k ≠ q := fun e2 => e ⟨e1, e2⟩; omega, (hq e1).2⟩))
  · by_cases e : v = z ∧ k = q
    · obtain ⟨rfl, rfl⟩ := e
      rw [hx] at hy; obtain rfl := Option.some.inj hy
      have := ends_same he.turn hey hax.2.2.2.2.1
      subst this
      exact .inl h.has
    · exact .inr (h2.clo k y v u hy hk hey hv (fun e1 => ⟨hkl, fun e2 => e ⟨e1, by rw [hz] at e2; omega⟩⟩))
theorem Clo.all {n : Int} {ws : List Wy} {t : Int} {Q : Nat → Bool} (ht : TreeFor n ws t) (h : Clo ws t 0 ws.length Q) {v : Nat} (hv : (v : Int) < n) : Q v = true := by
  have hn := ht.net
  have hz := zero_lt hn
  have key := (reach_is (s := t) hn (Int.le_refl 0) hz).least (fun p => Q p.toNat) h.has (fun k x hx hk => by
    have hb := hn.at_ hx
    have hkl : k < ws.length := (List.getElem?_eq_some_iff.1 hx).1
    have e0 : up ws t ((0 : Nat) : Int) = -1 := up_src hn t
    have h1 : Ends x (x.a.toNat : Int) (x.b.toNat : Int) := .inl ⟨by omega, by omega⟩
    have a1 := h.clo k x _ _ hx hk h1
    have a2 := h.clo k x _ _ hx hk h1.turn
    show Q x.a.toNat = Q x.b.toNat
    cases ha : Q x.a.toNat <;> cases hb' : Q x.b.toNat
    · rfl
    · rw [ha, hb'] at a2; exact a2 rfl (fun _ => ⟨hkl, by rw [e0]; omega⟩)
    · rw [ha, hb'] at a1; exact (a1 rfl (fun _ => ⟨hkl, by rw [e0]; omega⟩)).symm
    · rfl) v (by omega) (ht.all v (by omega) hv)
  simpa using key
theorem bit_wayPl {n : Int} {ws : List Wy} (hn : NetIs n ws) {k : Nat} {x : Wy} (hx : ws[k]? = some x) (f : Nat) : bit (wayPl x) (f : Int) = (decide ((f : Int) = x.a) || decide ((f : Int) = x.b)) := by
  have hb := hn.at_ hx
  unfold wayPl shl1
  rw [bit_ior, bit_shl _ _ hb.1 (by omega), bit_shl _ _ hb.2.2.1 (by omega)]
end Go.Proofs.YtfpaalmbllhmaaaDoor
