/- Points on a grid: how far they are, their box, the middle of three. Plain mathematics. -/
import Derived.Test.YtgnjjiljipgbnaaDoorWC
set_option linter.unusedVariables false
set_option linter.unusedSimpArgs false
namespace Go.Proofs.YtgnjjiljipgbnaaDoor
open Go.RowKit

def ptIn (p : Int × Int) : Bool := inB p.1 0 20 && inB p.2 0 20
def pointsOk (ps : List (Int × Int)) : Bool := ps.all ptIn && inB (ps.length : Int) 1 6
def apart (p q : Int × Int) : Int := max (p.1 - q.1) (q.1 - p.1) + max (p.2 - q.2) (q.2 - p.2)
def ptAt (ps : List (Int × Int)) (k : Nat) : Int × Int := ps.getD k (0, 0)
def pointsFar (ps : List (Int × Int)) (a b : Int) : Int := if (pointsOk ps && (inB a 0 ((ps.length : Int) - 1) && inB b 0 ((ps.length : Int) - 1))) = true then apart (ptAt ps a.toNat) (ptAt ps b.toNat) else -1
/-- least and greatest of the first k, begun with x -/
def mnTo (f : Int × Int → Int) (x : Int) : List (Int × Int) → Int
  | [] => x
  | p :: ps => mnTo f (min x (f p)) ps
def mxTo (f : Int × Int → Int) (x : Int) : List (Int × Int) → Int
  | [] => x
  | p :: ps => mxTo f (max x (f p)) ps
def lowP (ps qs : List (Int × Int)) : Int × Int := (mnTo Prod.fst (ptAt ps 0).1 qs, mnTo Prod.snd (ptAt ps 0).2 qs)
def highP (ps qs : List (Int × Int)) : Int × Int := (mxTo Prod.fst (ptAt ps 0).1 qs, mxTo Prod.snd (ptAt ps 0).2 qs)
def boxOf (ps : List (Int × Int)) : Int := apart (lowP ps ps) (highP ps ps)
def halfRound (ps : List (Int × Int)) : Int := if pointsOk ps = true then boxOf ps else -1
def mid3 (a b c : Int) : Int := max (min a b) (min (max a b) c)
def midP (ps : List (Int × Int)) : Int × Int := (mid3 (ptAt ps 0).1 (ptAt ps 1).1 (ptAt ps 2).1, mid3 (ptAt ps 0).2 (ptAt ps 1).2 (ptAt ps 2).2)
def middleOk (ps : List (Int × Int)) : Bool := pointsOk ps && decide (ps.length = 3)
def middleOf (ps : List (Int × Int)) : Int × Int := if middleOk ps = true then midP ps else (0, 0)
def sumA (q : Int × Int) : List (Int × Int) → Int
  | [] => 0
  | p :: ps => apart p q + sumA q ps
def meetCost (ps : List (Int × Int)) (q : Int × Int) : Int := if (pointsOk ps && ptIn q) = true then sumA q ps else -1

theorem mnTo_append (f : Int × Int → Int) (x : Int) : ∀ (ps qs : List (Int × Int)), mnTo f x (ps ++ qs) = mnTo f (mnTo f x ps) qs
  | [], _ => rfl
  | p :: ps, qs => by rw [List.cons_append, mnTo, mnTo_append f _ ps qs, mnTo]

theorem mxTo_append (f : Int × Int → Int) (x : Int) : ∀ (ps qs : List (Int × Int)), mxTo f x (ps ++ qs) = mxTo f (mxTo f x ps) qs
  | [], _ => rfl
  | p :: ps, qs => by rw [List.cons_append, mxTo, mxTo_append f _ ps qs, mxTo]

theorem mnTo_take {f : Int × Int → Int} {x : Int} {ps : List (Int × Int)} {k : Nat} {p : Int × Int} (h : ps[k]? = some p) : mnTo f x (ps.take (k + 1)) = min (mnTo f x (ps.take k)) (f p) := by
  rw [List.take_add_one, h, mnTo_append]; rfl
theorem mxTo_take {f : Int × Int → Int} {x : Int} {ps : List (Int × Int)} {k : Nat} {p : Int × Int} (h : ps[k]? = some p) : mxTo f x (ps.take (k + 1)) = max (mxTo f x (ps.take k)) (f p) := by
  rw [List.take_add_one, h, mxTo_append]; rfl
theorem sumA_append (q : Int × Int) (ps qs : List (Int × Int)) : sumA q (ps ++ qs) = sumA q ps + sumA q qs := by
  induction ps with
  | nil => simp [sumA]
  | cons p ps ih => simp only [List.cons_append, sumA, ih]; omega
theorem sumA_take {q : Int × Int} {ps : List (Int × Int)} {k : Nat} {p : Int × Int} (h : ps[k]? = some p) : sumA q (ps.take (k + 1)) = sumA q (ps.take k) + apart p q := by
  rw [List.take_add_one, h, sumA_append]; simp [sumA]
theorem ptIn_t {p : Int × Int} (h : ptIn p = true) : 0 ≤ p.1 ∧ p.1 ≤ 20 ∧ 0 ≤ p.2 ∧ p.2 ≤ 20 := by
  unfold ptIn inB at h; simp at h; omega
theorem ptIn_mk {p : Int × Int} (h : 0 ≤ p.1 ∧ p.1 ≤ 20 ∧ 0 ≤ p.2 ∧ p.2 ≤ 20) : ptIn p = true := by
  unfold ptIn inB; simp; omega
theorem pointsOk_t {ps : List (Int × Int)} (h : pointsOk ps = true) : 1 ≤ ps.length ∧ ps.length ≤ 6 ∧ ∀ p, p ∈ ps → 0 ≤ p.1 ∧ p.1 ≤ 20 ∧ 0 ≤ p.2 ∧ p.2 ≤ 20 := by
  unfold pointsOk at h
  rw [Bool.and_eq_true, List.all_eq_true] at h
  obtain ⟨h1, h2⟩ := h
  unfold inB at h2
  simp at h2
  exact ⟨by omega, by omega, fun p hp => ptIn_t (h1 p hp)⟩
theorem pointsOk_mk {ps : List (Int × Int)} (h1 : 1 ≤ ps.length) (h2 : ps.length ≤ 6) (h3 : ∀ p, p ∈ ps → 0 ≤ p.1 ∧ p.1 ≤ 20 ∧ 0 ≤ p.2 ∧ p.2 ≤ 20) : pointsOk ps = true := by
  unfold pointsOk
  rw [Bool.and_eq_true, List.all_eq_true]
  refine ⟨fun p hp => ptIn_mk (h3 p hp), ?_⟩
  unfold inB; simp; omega
theorem ptIn_take {ps : List (Int × Int)} {k : Nat} {p : Int × Int} (h : ps[k]? = some p) : (ps.take (k + 1)).all ptIn = ((ps.take k).all ptIn && ptIn p) := by
  rw [List.take_add_one, h, List.all_append]; simp
theorem ptIn_false {ps : List (Int × Int)} {k : Nat} {p : Int × Int} (h : ps[k]? = some p) (hf : ptIn p = false) : ps.all ptIn = false := by
  rw [List.all_eq_false]
  exact ⟨p, List.mem_of_getElem? h, by rw [hf]; simp⟩
theorem ptAt_at {ps : List (Int × Int)} {k : Nat} {p : Int × Int} (h : ps[k]? = some p) : ptAt ps k = p := by unfold ptAt; rw [List.getD_eq_getElem?_getD, h]; rfl
theorem ptAt_mem {ps : List (Int × Int)} {k : Nat} (h : k < ps.length) : ptAt ps k ∈ ps := by
  have hx : ps[k]? = some ps[k] := List.getElem?_eq_getElem h
  rw [ptAt_at hx]; exact List.getElem_mem h

/-! ### apart -/
theorem apart_nn (p q : Int × Int) : 0 ≤ apart p q := by unfold apart; omega
theorem apart_sym (p q : Int × Int) : apart p q = apart q p := by unfold apart; omega
theorem apart_tri (p q r : Int × Int) : apart p r ≤ apart p q + apart q r := by unfold apart; omega
theorem apart_zero (p q : Int × Int) : apart p q = 0 ↔ p = q := by
  obtain ⟨p1, p2⟩ := p
  obtain ⟨q1, q2⟩ := q
  unfold apart
  simp only [Prod.mk.injEq]
  omega
theorem apart_bd {p q : Int × Int} (hp : 0 ≤ p.1 ∧ p.1 ≤ 20 ∧ 0 ≤ p.2 ∧ p.2 ≤ 20) (hq : 0 ≤ q.1 ∧ q.1 ≤ 20 ∧ 0 ≤ q.2 ∧ q.2 ≤ 20) : apart p q ≤ 40 := by unfold apart; omega

/-! ### the box -/
theorem mnTo_le (f : Int × Int → Int) : ∀ (ps : List (Int × Int)) (x : Int), mnTo f x ps ≤ x ∧ ∀ p, p ∈ ps → mnTo f x ps ≤ f p
  | [], x => ⟨Int.le_refl _, fun p h => by cases h⟩
  | q :: ps, x => by
    obtain ⟨h1, h2⟩ := mnTo_le f ps (min x (f q))
    rw [mnTo]
    refine ⟨by omega, fun p hp => ?_⟩
    rcases List.mem_cons.1 hp with rfl | hp
    · omega
    · exact h2 p hp
theorem mxTo_ge (f : Int × Int → Int) : ∀ (ps : List (Int × Int)) (x : Int), x ≤ mxTo f x ps ∧ ∀ p, p ∈ ps → f p ≤ mxTo f x ps
  | [], x => ⟨Int.le_refl _, fun p h => by cases h⟩
  | q :: ps, x => by
    obtain ⟨h1, h2⟩ := mxTo_ge f ps (max x (f q))
    rw [mxTo]
    refine ⟨by omega, fun p hp => ?_⟩
    rcases List.mem_cons.1 hp with rfl | hp
    · omega
    · exact h2 p hp
theorem mnTo_is (f : Int × Int → Int) : ∀ (ps : List (Int × Int)) (x : Int), mnTo f x ps = x ∨ ∃ p, p ∈ ps ∧ mnTo f x ps = f p
  | [], x => .inl rfl
  | q :: ps, x => by
    rw [mnTo]
    rcases mnTo_is f ps (min x (f q)) with h | ⟨p, h1, h2⟩
    · by_cases e : x ≤ f q
      · left; omega
      · right; exact ⟨q, List.mem_cons_self .., by omega⟩
    · right; exact ⟨p, List.mem_cons_of_mem _ h1, h2⟩
theorem mxTo_is (f : Int × Int → Int) : ∀ (ps : List (Int × Int)) (x : Int), mxTo f x ps = x ∨ ∃ p, p ∈ ps ∧ mxTo f x ps = f p
  | [], x => .inl rfl
  | q :: ps, x => by
    rw [mxTo]
    rcases mxTo_is f ps (max x (f q)) with h | ⟨p, h1, h2⟩
    · by_cases e : f q ≤ x
      · left; omega
      · right; exact ⟨q, List.mem_cons_self .., by omega⟩
    · right; exact ⟨p, List.mem_cons_of_mem _ h1, h2⟩
/-- the four sides of the box -/
structure Box (ps : List (Int × Int)) (a b c d : Int) : Prop where
  le1 : ∀ p, p ∈ ps → a ≤ p.1
  is1 : ∃ p, p ∈ ps ∧ p.1 = a
  ge1 : ∀ p, p ∈ ps → p.1 ≤ b
  js1 : ∃ p, p ∈ ps ∧ p.1 = b
  le2 : ∀ p, p ∈ ps → c ≤ p.2
  is2 : ∃ p, p ∈ ps ∧ p.2 = c
  ge2 : ∀ p, p ∈ ps → p.2 ≤ d
  js2 : ∃ p, p ∈ ps ∧ p.2 = d
theorem box_is {ps : List (Int × Int)} (h : 0 < ps.length) : ∃ a b c d, Box ps a b c d ∧ lowP ps ps = (a, c) ∧ highP ps ps = (b, d) ∧ boxOf ps = (b - a) + (d - c) := by
  have h0 := ptAt_mem h
  have k1 := mnTo_le Prod.fst ps (ptAt ps 0).1
  have k2 := mxTo_ge Prod.fst ps (ptAt ps 0).1
  have k3 := mnTo_le Prod.snd ps (ptAt ps 0).2
  have k4 := mxTo_ge Prod.snd ps (ptAt ps 0).2
  refine ⟨mnTo Prod.fst (ptAt ps 0).1 ps, mxTo Prod.fst (ptAt ps 0).1 ps, mnTo Prod.snd (ptAt ps 0).2 ps, mxTo Prod.snd (ptAt ps 0).2 ps, ⟨k1.2, ?_, k2.2, ?_, k3.2, ?_, k4.2, ?_⟩, rfl, rfl, ?_⟩
  · rcases mnTo_is Prod.fst ps (ptAt ps 0).1 with e | ⟨p, hp, e⟩
    · exact ⟨_, h0, e.symm⟩
    · exact ⟨p, hp, e.symm⟩
  · rcases mxTo_is Prod.fst ps (ptAt ps 0).1 with e | ⟨p, hp, e⟩
    · exact ⟨_, h0, e.symm⟩
    · exact ⟨p, hp, e.symm⟩
  · rcases mnTo_is Prod.snd ps (ptAt ps 0).2 with e | ⟨p, hp, e⟩
    · exact ⟨_, h0, e.symm⟩
    · exact ⟨p, hp, e.symm⟩
  · rcases mxTo_is Prod.snd ps (ptAt ps 0).2 with e | ⟨p, hp, e⟩
    · exact ⟨_, h0, e.symm⟩
    · exact ⟨p, hp, e.symm⟩
  · unfold boxOf apart lowP highP
    simp only
    omega
theorem box_far {ps : List (Int × Int)} {p q : Int × Int} (hp : p ∈ ps) (hq : q ∈ ps) : apart p q ≤ boxOf ps := by
  have h : 0 < ps.length := List.length_pos_of_mem hp
  obtain ⟨a, b, c, d, B, _, _, e⟩ := box_is h
  have := B.le1 p hp; have := B.le1 q hq; have := B.ge1 p hp; have := B.ge1 q hq
  have := B.le2 p hp; have := B.le2 q hq; have := B.ge2 p hp; have := B.ge2 q hq
  rw [e]; unfold apart; omega
theorem box_sub {ps qs : List (Int × Int)} (hq : 0 < qs.length) (h : ∀ p, p ∈ qs → p ∈ ps) : boxOf qs ≤ boxOf ps := by
  obtain ⟨a, b, c, d, B, _, _, e⟩ := box_is hq
  obtain ⟨a', b', c', d', B', _, _, e'⟩ := box_is (ps := ps) (List.length_pos_of_mem (h _ (ptAt_mem hq)))
  obtain ⟨p1, h1, f1⟩ := B.is1
  obtain ⟨p2, h2, f2⟩ := B.js1
  obtain ⟨p3, h3, f3⟩ := B.is2
  obtain ⟨p4, h4, f4⟩ := B.js2
  have := B'.le1 p1 (h p1 h1); have := B'.ge1 p2 (h p2 h2); have := B'.le2 p3 (h p3 h3); have := B'.ge2 p4 (h p4 h4)
  omega
theorem box_bd {ps : List (Int × Int)} (h : pointsOk ps = true) : 0 ≤ boxOf ps ∧ boxOf ps ≤ 40 := by
  obtain ⟨h1, h2, h3⟩ := pointsOk_t h
  obtain ⟨a, b, c, d, B, _, _, e⟩ := box_is (ps := ps) (by omega)
  obtain ⟨p1, k1, f1⟩ := B.is1
  obtain ⟨p2, k2, f2⟩ := B.js1
  obtain ⟨p3, k3, f3⟩ := B.is2
  obtain ⟨p4, k4, f4⟩ := B.js2
  have := h3 p1 k1; have := h3 p2 k2; have := h3 p3 k3; have := h3 p4 k4
  have := B.ge1 p1 k1; have := B.ge2 p3 k3
  omega
/-- two boxes that share a point -/
theorem box_join {ps qs rs : List (Int × Int)} {x : Int × Int} (hx : x ∈ qs) (hx' : x ∈ rs) (h : ∀ p, p ∈ ps → p ∈ qs ∨ p ∈ rs) (hp : 0 < ps.length) : boxOf ps ≤ boxOf qs + boxOf rs := by
  obtain ⟨a, b, c, d, B, _, _, e⟩ := box_is hp
  obtain ⟨a1, b1, c1, d1, B1, _, _, e1⟩ := box_is (ps := qs) (List.length_pos_of_mem hx)
  obtain ⟨a2, b2, c2, d2, B2, _, _, e2⟩ := box_is (ps := rs) (List.length_pos_of_mem hx')
  have x1 := B1.le1 x hx; have x2 := B1.ge1 x hx; have x3 := B1.le2 x hx; have x4 := B1.ge2 x hx
  have y1 := B2.le1 x hx'; have y2 := B2.ge1 x hx'; have y3 := B2.le2 x hx'; have y4 := B2.ge2 x hx'
  obtain ⟨p1, k1, f1⟩ := B.is1
  obtain ⟨p2, k2, f2⟩ := B.js1
  obtain ⟨p3, k3, f3⟩ := B.is2
  obtain ⟨p4, k4, f4⟩ := B.js2
  have g1 : min a1 a2 ≤ a := by
    rcases h p1 k1 with g | g
    · have := B1.le1 p1 g; omega
    · have := B2.le1 p1 g; omega
  have g2 : b ≤ max b1 b2 := by
    rcases h p2 k2 with g | g
    · have := B1.ge1 p2 g; omega
    · have := B2.ge1 p2 g; omega
  have g3 : min c1 c2 ≤ c := by
    rcases h p3 k3 with g | g
    · have := B1.le2 p3 g; omega
    · have := B2.le2 p3 g; omega
  have g4 : d ≤ max d1 d2 := by
    rcases h p4 k4 with g | g
    · have := B1.ge2 p4 g; omega
    · have := B2.ge2 p4 g; omega
  omega
theorem box_two {p q : Int × Int} : boxOf [p, q] = apart p q := by
  unfold boxOf lowP highP ptAt apart
  simp only [mnTo, mxTo, List.getD_cons_zero]
  omega
theorem box_one {p : Int × Int} : boxOf [p] = 0 := by
  unfold boxOf lowP highP ptAt apart
  simp only [mnTo, mxTo, List.getD_cons_zero]
  omega
/-! ### the sum of all -/
def sumG (g : Int × Int → Int) : List (Int × Int) → Int
  | [] => 0
  | p :: ps => g p + sumG g ps
theorem sumG_nn {g : Int × Int → Int} (hg : ∀ p, 0 ≤ g p) : ∀ ps, 0 ≤ sumG g ps
  | [] => by simp [sumG]
  | p :: ps => by have := sumG_nn hg ps; have := hg p; simp only [sumG]; omega
theorem sumG_one {g : Int × Int → Int} (hg : ∀ p, 0 ≤ g p) : ∀ {ps : List (Int × Int)} {p : Int × Int}, p ∈ ps → g p ≤ sumG g ps
  | [], p, h => by cases h
  | r :: ps, p, h => by
    have h1 := sumG_nn hg ps
    have h2 := hg r
    rcases List.mem_cons.1 h with rfl | h
    · simp only [sumG]; omega
    · have := sumG_one hg h; simp only [sumG]; omega
theorem sumG_two {g : Int × Int → Int} (hg : ∀ p, 0 ≤ g p) : ∀ {ps : List (Int × Int)} {p q : Int × Int}, p ∈ ps → q ∈ ps → p ≠ q → g p + g q ≤ sumG g ps
  | [], p, q, h, _, _ => by cases h
  | r :: ps, p, q, h, h', hne => by
    have h2 := hg r
    show g p + g q ≤ g r + sumG g ps
    rcases List.mem_cons.1 h with e | hm
    · rcases List.mem_cons.1 h' with e' | hm'
      · exact absurd (e.trans e'.symm) hne
      · have := sumG_one hg hm'; rw [e]; omega
    · rcases List.mem_cons.1 h' with e' | hm'
      · have := sumG_one hg hm; rw [e']; omega
      · have := sumG_two hg hm hm' hne; omega
theorem sumA_split (q : Int × Int) : ∀ ps, sumA q ps = sumG (fun p => max (p.1 - q.1) (q.1 - p.1)) ps + sumG (fun p => max (p.2 - q.2) (q.2 - p.2)) ps
  | [] => rfl
  | p :: ps => by have := sumA_split q ps; simp only [sumA, sumG, apart]; omega
/-- from nowhere it is less than half round -/
theorem box_meet {ps : List (Int × Int)} (h : 0 < ps.length) (q : Int × Int) : boxOf ps ≤ sumA q ps ∧ 0 ≤ sumA q ps := by
  have g1 : ∀ p : Int × Int, 0 ≤ max (p.1 - q.1) (q.1 - p.1) := fun p => by omega
  have g2 : ∀ p : Int × Int, 0 ≤ max (p.2 - q.2) (q.2 - p.2) := fun p => by omega
  have n1 := sumG_nn (g := fun p => max (p.1 - q.1) (q.1 - p.1)) g1 ps
  have n2 := sumG_nn (g := fun p => max (p.2 - q.2) (q.2 - p.2)) g2 ps
  rw [sumA_split]
  obtain ⟨a, b, c, d, B, _, _, e⟩ := box_is h
  obtain ⟨p1, k1, f1⟩ := B.is1
  obtain ⟨p2, k2, f2⟩ := B.js1
  obtain ⟨p3, k3, f3⟩ := B.is2
  obtain ⟨p4, k4, f4⟩ := B.js2
  have r1 : b - a ≤ sumG (fun p => max (p.1 - q.1) (q.1 - p.1)) ps := by
    by_cases e1 : p1 = p2
    · subst e1; omega
    · have := sumG_two (g := fun p => max (p.1 - q.1) (q.1 - p.1)) g1 k1 k2 e1
      (try simp only at this)
      omega
  have r2 : d - c ≤ sumG (fun p => max (p.2 - q.2) (q.2 - p.2)) ps := by
    by_cases e1 : p3 = p4
    · subst e1; omega
    · have := sumG_two (g := fun p => max (p.2 - q.2) (q.2 - p.2)) g2 k3 k4 e1
      (try simp only at this)
      omega
  omega
theorem sumA_bd {q : Int × Int} (hq : 0 ≤ q.1 ∧ q.1 ≤ 20 ∧ 0 ≤ q.2 ∧ q.2 ≤ 20) : ∀ {ps : List (Int × Int)}, (∀ p, p ∈ ps → 0 ≤ p.1 ∧ p.1 ≤ 20 ∧ 0 ≤ p.2 ∧ p.2 ≤ 20) → 0 ≤ sumA q ps ∧ sumA q ps ≤ 40 * ps.length
  | [], _ => by simp [sumA]
  | p :: ps, h => by
    have := sumA_bd hq (ps := ps) (fun r hr => h r (List.mem_cons_of_mem _ hr))
    have := apart_bd (h p (List.mem_cons_self ..)) hq
    have := apart_nn p q
    simp only [sumA, List.length_cons]
    omega
/-- a place farther along, at most as much more as there are points -/
theorem sumA_next (q : Int × Int) : ∀ ps : List (Int × Int), sumA (q.1, q.2 + 1) ps ≤ sumA q ps + ps.length ∧ sumA q ps - ps.length ≤ sumA (q.1, q.2 + 1) ps
  | [] => by simp [sumA]
  | p :: ps => by
    have := sumA_next q ps
    simp only [sumA, apart, List.length_cons]
    omega
theorem mid_row (a b c : Int) : max (a - mid3 a b c) (mid3 a b c - a) + (max (b - mid3 a b c) (mid3 a b c - b) + (max (c - mid3 a b c) (mid3 a b c - c) + 0)) = max (min (min (min a a) b) c - max (max (max a a) b) c) (max (max (max a a) b) c - min (min (min a a) b) c) := by
  unfold mid3
  rcases Int.le_total a b with h1 | h1 <;> rcases Int.le_total b c with h2 | h2 <;> rcases Int.le_total a c with h3 | h3 <;> omega
/-- three points from their middle one -/
theorem mid_meet {p q r : Int × Int} : sumA (mid3 p.1 q.1 r.1, mid3 p.2 q.2 r.2) [p, q, r] = boxOf [p, q, r] := by
  have h1 := mid_row p.1 q.1 r.1
  have h2 := mid_row p.2 q.2 r.2
  rw [sumA_split]
  unfold boxOf apart lowP highP ptAt
  simp only [sumG, mnTo, mxTo, List.getD_cons_zero]
  rw [h1, h2]
theorem three {ps : List (Int × Int)} (h : ps.length = 3) : ps = [ptAt ps 0, ptAt ps 1, ptAt ps 2] := by
  match ps, h with
  | [a, b, c], _ => rfl
theorem middle_t {ps : List (Int × Int)} (h : middleOk ps = true) : pointsOk ps = true ∧ ps.length = 3 ∧ middleOf ps = midP ps ∧ sumA (midP ps) ps = boxOf ps := by
  have h' := h
  unfold middleOk at h
  rw [Bool.and_eq_true, decide_eq_true_eq] at h
  refine ⟨h.1, h.2, by unfold middleOf; rw [if_pos h'], ?_⟩
  have e := three h.2
  have := mid_meet (p := ptAt ps 0) (q := ptAt ps 1) (r := ptAt ps 2)
  rw [← e] at this
  exact this
theorem mid_in {ps : List (Int × Int)} (h : middleOk ps = true) : 0 ≤ (midP ps).1 ∧ (midP ps).1 ≤ 20 ∧ 0 ≤ (midP ps).2 ∧ (midP ps).2 ≤ 20 := by
  obtain ⟨h1, h2, _, _⟩ := middle_t h
  obtain ⟨_, _, h3⟩ := pointsOk_t h1
  have k0 := h3 _ (ptAt_mem (ps := ps) (k := 0) (by omega))
  have k1 := h3 _ (ptAt_mem (ps := ps) (k := 1) (by omega))
  have k2 := h3 _ (ptAt_mem (ps := ps) (k := 2) (by omega))
  unfold midP mid3
  simp only
  omega
theorem points_turned (ps : List (Int × Int)) : pointsOk (ps.map Prod.swap) = pointsOk ps := by
  have h : (ps.map Prod.swap).all ptIn = ps.all ptIn := by
    rw [List.all_map]
    congr 1
    funext p
    show ptIn p.swap = ptIn p
    unfold ptIn
    rw [Bool.and_comm]
    rfl
  unfold pointsOk
  rw [h, List.length_map]
end Go.Proofs.YtgnjjiljipgbnaaDoor
