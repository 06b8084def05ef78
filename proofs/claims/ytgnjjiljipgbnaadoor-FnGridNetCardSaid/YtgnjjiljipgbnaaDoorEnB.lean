/- A walk round a root and back, cut at the ends: so trees between ends cost less than twice a root. Plain mathematics. -/
import Derived.Test.YtgnjjiljipgbnaaDoorEnA
import Derived.Test.YtgnjjiljipgbnaaDoorMJ
import Derived.Test.YtgnjjiljipgbnaaDoorME
set_option linter.unusedVariables false
set_option linter.unusedSimpArgs false
namespace Go.Proofs.YtgnjjiljipgbnaaDoor
open Go.RowKit

/-- the edges of a walk from v over L to w -/
def arcs (f : Nat → Nat → Int) : Nat → List Nat → Nat → List (Nat × Nat × Int)
  | v, [], w => [(v, w, f v w)]
  | v, x :: L, w => (v, x, f v x) :: arcs f x L w
theorem arcs_len (f : Nat → Nat → Int) : ∀ (L : List Nat) (v w : Nat), (arcs f v L w).length = L.length + 1
  | [], _, _ => rfl
  | x :: L, v, w => by rw [arcs, List.length_cons, arcs_len f L x w, List.length_cons]
/-- places that are all joined -/
structure Cls (K : Nat → Prop) (f : Nat → Nat → Int) : Prop where
  told : ∀ a b, K a → K b → 0 ≤ f a b
  tri : ∀ a b c, K a → K b → K c → f a b ≤ f a c + f c b
  sym : ∀ a b, K a → K b → f a b = f b a
section
variable {K : Nat → Prop} {f : Nat → Nat → Int}
theorem arcs_start (h : Cls K f) {v u w : Nat} (hv : K v) (hu : K u) (hw : K w) : ∀ L : List Nat, (∀ q, q ∈ L → K q) → sumE (arcs f v L w) ≤ f v u + sumE (arcs f u L w)
  | [], _ => by
    have := h.tri v w u hv hw hu
    simp only [arcs, sumE]; omega
  | x :: L, hL => by
    have := h.tri v x u hv (hL x (List.mem_cons_self ..)) hu
    simp only [arcs, sumE]; omega
theorem arcs_end (h : Cls K f) {u w : Nat} (hu : K u) (hw : K w) : ∀ (L : List Nat) (v : Nat), K v → (∀ q, q ∈ L → K q) → sumE (arcs f v L w) ≤ sumE (arcs f v L u) + f u w
  | [], v, hv, _ => by
    have := h.tri v w u hv hw hu
    simp only [arcs, sumE]; omega
  | x :: L, v, hv, hL => by
    have := arcs_end h hu hw L x (hL x (List.mem_cons_self ..)) (fun q hq => hL q (List.mem_cons_of_mem _ hq))
    simp only [arcs, sumE]; omega
theorem arcs_join (h : Cls K f) {u w : Nat} (hu : K u) (hw : K w) {L2 : List Nat} (h2 : ∀ q, q ∈ L2 → K q) : ∀ (L : List Nat) (v : Nat), K v → (∀ q, q ∈ L → K q) → sumE (arcs f v (L ++ L2) w) ≤ sumE (arcs f v L u) + sumE (arcs f u L2 w)
  | [], v, hv, _ => by
    have := arcs_start h hv hu hw L2 h2
    simp only [arcs, sumE, List.nil_append]; omega
  | x :: L, v, hv, hL => by
    have := arcs_join h hu hw h2 L x (hL x (List.mem_cons_self ..)) (fun q hq => hL q (List.mem_cons_of_mem _ hq))
    simp only [arcs, sumE, List.cons_append]; omega
theorem arcs_mem : ∀ (L : List Nat) (v w : Nat) (t : Nat × Nat × Int), t ∈ arcs f v L w → (t.1 = v ∨ t.1 ∈ L) ∧ (t.2.1 = w ∨ t.2.1 ∈ L) ∧ t.2.2 = f t.1 t.2.1
  | [], v, w, t, h => by
    simp only [arcs, List.mem_singleton] at h
    subst h
    exact ⟨.inl rfl, .inl rfl, rfl⟩
  | x :: L, v, w, t, h => by
    rw [arcs] at h
    rcases List.mem_cons.1 h with rfl | h
    · exact ⟨.inl rfl, .inr (List.mem_cons_self ..), rfl⟩
    · obtain ⟨h1, h2, h3⟩ := arcs_mem L x w t h
      refine ⟨.inr ?_, h2.imp id (List.mem_cons_of_mem _), h3⟩
      rcases h1 with h1 | h1
      · rw [h1]; exact List.mem_cons_self ..
      · exact List.mem_cons_of_mem _ h1
end

/-! ### how often a set is crossed -/
def crN (S : Nat → Bool) : List (Nat × Nat × Int) → Nat
  | [] => 0
  | t :: E => (if S t.1 = S t.2.1 then 0 else 1) + crN S E
theorem crN_even (f : Nat → Nat → Int) (S : Nat → Bool) : ∀ (L : List Nat) (v w : Nat), crN S (arcs f v L w) % 2 = if S v = S w then 0 else 1
  | [], v, w => by
    simp only [arcs, crN]
    split <;> rfl
  | x :: L, v, w => by
    have ih := crN_even f S L x w
    rw [arcs, crN]
    simp only
    cases hv : S v <;> cases hx : S x <;> cases hw : S w <;> rw [hx, hw] at ih <;> (try simp only [if_true, if_false, Bool.false_eq_true, Bool.true_eq_false] at ih ⊢) <;> (try simp at ih) <;> (try simp) <;> omega
theorem crN_one (f : Nat → Nat → Int) (S : Nat → Bool) : ∀ (L : List Nat) (v w : Nat), (∃ q, q ∈ L ∧ S q ≠ S v) → 1 ≤ crN S (arcs f v L w)
  | [], _, _, h => by obtain ⟨q, hq, _⟩ := h; cases hq
  | x :: L, v, w, ⟨q, hq, hS⟩ => by
    rw [arcs, crN]
    simp only
    by_cases e : S v = S x
    · rcases List.mem_cons.1 hq with rfl | hq
      · exact absurd e.symm hS
      · have := crN_one f S L x w ⟨q, hq, by rw [← e]; exact hS⟩
        omega
    · rw [if_neg e]; omega
theorem crN_erase (S : Nat → Bool) {t : Nat × Nat × Int} : ∀ {E : List (Nat × Nat × Int)}, t ∈ E → crN S (E.erase t) + 1 ≥ crN S E
  | [], h => by cases h
  | u :: E, h => by
    by_cases e : u = t
    · subst e
      rw [List.erase_cons_head, crN]; split <;> omega
    · rw [List.erase_cons_tail (by simpa using e), crN, crN]
      have h' : t ∈ E := by
        rcases List.mem_cons.1 h with h | h
        · exact absurd h.symm e
        · exact h
      have := crN_erase S h'
      omega
theorem crN_ex (S : Nat → Bool) : ∀ {E : List (Nat × Nat × Int)}, 1 ≤ crN S E → ∃ t, t ∈ E ∧ S t.1 ≠ S t.2.1
  | [], h => by rw [crN] at h; omega
  | t :: E, h => by
    rw [crN] at h
    by_cases e : S t.1 = S t.2.1
    · rw [if_pos e] at h
      obtain ⟨u, hu, hS⟩ := crN_ex S (E := E) (by omega)
      exact ⟨u, List.mem_cons_of_mem _ hu, hS⟩
    · exact ⟨t, List.mem_cons_self .., e⟩
/-- a closed walk hangs together without any one of its edges -/
theorem conn_tour {f : Nat → Nat → Int} {e I : Int} {v : Nat} {L : List Nat} (hm : ∀ q : Nat, bit e q = true ↔ q = v ∨ q ∈ L) (hI : ∃ i : Nat, bit I i = true ∧ bit e i = true) {t : Nat × Nat × Int} (ht : t ∈ arcs f v L v) : Conn ((arcs f v L v).erase t) I e := by
  intro S h1 ⟨p, hp, hSp⟩
  obtain ⟨i, hi, hie⟩ := hI
  have hSi := h1 i hi
  have hex : ∃ q, q ∈ L ∧ S q ≠ S v := by
    cases hv : S v
    · refine ⟨i, ?_, by rw [hSi]; simp⟩
      rcases (hm i).1 hie with rfl | h
      · rw [hv] at hSi; cases hSi
      · exact h
    · refine ⟨p, ?_, by rw [hSp]; simp⟩
      rcases (hm p).1 hp with rfl | h
      · rw [hv] at hSp; cases hSp
      · exact h
  have h3 := crN_one f S L v v hex
  have h4 := crN_even f S L v v
  rw [if_pos rfl] at h4
  have h5 := crN_erase S ht
  exact crN_ex S (by omega)
theorem avg {P T : Int} : ∀ (E : List (Nat × Nat × Int)), (∀ t, t ∈ E → P + t.2.2 ≤ T) → (E.length : Int) * P + sumE E ≤ E.length * T
  | [], _ => by simp [sumE]
  | t :: E, h => by
    have h1 := h t (List.mem_cons_self ..)
    have h2 := avg E (fun u hu => h u (List.mem_cons_of_mem _ hu))
    rw [sumE, List.length_cons, show ((E.length + 1 : Nat) : Int) = E.length + 1 from by omega, Int.add_mul, Int.add_mul]
    omega

/-! ### round a root -/
theorem pop_pos_all : ∀ s : Fin 64, s.val ≠ 0 → 1 ≤ pop (s.val : Int) := by decide +kernel
theorem pop_pos {s : Int} (s0 : 0 ≤ s) (s1 : s < 64) (h : s ≠ 0) : 1 ≤ pop s := by
  have := pop_pos_all ⟨s.toNat, by omega⟩ (by simp only; omega)
  simp only [Int.toNat_of_nonneg s0] at this
  exact this
theorem far_cls {m : Nat} {ws : List Wy} (hn : NetIs (m : Int) ws) {u : Nat} (hu : u < m) : Cls (fun q => q < m ∧ 0 ≤ farF ws m u q) (farF ws m) := by
  have h6 : m ≤ 6 := by have := hn.hi; omega
  have ht := farF_tri hn h6
  have told : ∀ a b, (a < m ∧ 0 ≤ farF ws m u a) → (b < m ∧ 0 ≤ farF ws m u b) → 0 ≤ farF ws m a b := fun a b ha hb =>
    (ht.tri a b u ha.1 hb.1 hu (by rw [farF_sym hn ha.1 hu]; exact ha.2) hb.2).1
  exact ⟨told, fun a b c ha hb hc => (ht.tri a b c ha.1 hb.1 hc.1 (told a c ha hc) (told c b hc hb)).2, fun a b ha hb => farF_sym hn ha.1 hb.1⟩
theorem tour {m : Nat} {ws : List Wy} (hn : NetIs (m : Int) ws) (d : Nat) : ∀ (e : Int) (v : Nat), pop e ≤ d → 0 ≤ e → e < 2 ^ ((m : Int)).toNat → e ≠ 0 → v < m → 0 ≤ rc ws (withp e v) →
    ∃ L : List Nat, (∀ q : Nat, q ∈ L ↔ bit e q = true) ∧ (L.length : Int) = pop e ∧ (∀ q, q ∈ L → q < m ∧ 0 ≤ farF ws m v q) ∧ sumE (arcs (farF ws m) v L v) ≤ 2 * rc ws (withp e v) := by
  have h6 : m ≤ 6 := by have := hn.hi; omega
  have hp6 := pow_bd (m : Int) 6 (by omega)
  induction d with
  | zero =>
    intro e v hd e0 e1 he
    have := pop_pos e0 (by omega) he
    omega
  | succ d ih =>
    intro e v hd e0 e1 he hv hr
    obtain ⟨u, hu, huv, hf⟩ := rc_falls hn e0 e1 hv hr
    have hvu : farF ws m v u = farF ws m u v := farF_sym hn hv hu
    have hC := far_cls hn hu
    have Ku : u < m ∧ 0 ≤ farF ws m u u := ⟨hu, by rw [farF_diag hn hu]; omega⟩
    have Kv : v < m ∧ 0 ≤ farF ws m u v := ⟨hv, huv⟩
    rcases hf with ⟨h1, h2⟩ | ⟨P, p0, p1, p2, p3, p4, p5, p6⟩
    · have heu : e = ior 0 (2 ^ ((u : Int)).toNat) := by
        refine set_ext e0 (ior_nn _ _) fun q hq => ?_
        rw [bit_ior, bit_zero_, Bool.false_or, Int.toNat_natCast, bit_pow u q hq, Bool.eq_iff_iff, decide_eq_true_eq]
        refine ⟨h1 q hq, fun h => ?_⟩
        subst h
        apply Classical.byContradiction
        intro hno
        refine he (set_none e0 e1 fun j j0 j1 => ?_)
        cases hb : bit e j
        · rfl
        · have := h1 j j0 hb
          subst this
          exact absurd hb hno
      have hpe : pop e = 1 := by
        have := pop_place (r := 0) (j := (u : Int)) (Int.le_refl _) (by omega) (by omega) (by omega) (bit_zero_ _)
        rw [heu, this, pop_zero]; omega
      refine ⟨[u], fun q => ?_, by rw [hpe]; rfl, fun q hq => ?_, ?_⟩
      · rw [List.mem_singleton, heu, bit_ior, bit_zero_, Bool.false_or, Int.toNat_natCast, bit_pow u q (by omega), decide_eq_true_eq]
        omega
      · rw [List.mem_singleton] at hq
        subst hq
        exact ⟨hu, by omega⟩
      · simp only [arcs, sumE]; omega
    · have hdb := idiff_bd e P e0
      have hpp := pop_part e0 (by omega) (show 0 ≤ P by omega) (by omega) p3
      have hP1 := pop_pos (show 0 ≤ P by omega) (by omega) (by omega)
      have hne : idiff e P ≠ 0 := fun h => by
        refine p2 (set_ext (by omega) e0 fun q hq => ?_)
        rw [Bool.eq_iff_iff]
        exact ⟨p3 q hq, (idiff_zero e0).1 h q hq⟩
      have hD1 := pop_pos hdb.1 (by omega) hne
      obtain ⟨L1, a1, a2, a3, a4⟩ := ih P u (by omega) (by omega) p1 (by omega) hu p4
      obtain ⟨L2, b1, b2, b3, b4⟩ := ih (idiff e P) u (by omega) hdb.1 (by omega) hne hu p5
      have hL : ∀ q, q ∈ L1 ++ L2 → q < m ∧ 0 ≤ farF ws m u q := fun q hq => by
        rcases List.mem_append.1 hq with h | h
        · exact a3 q h
        · exact b3 q h
      refine ⟨L1 ++ L2, fun q => ?_, by rw [List.length_append]; omega, fun q hq => ⟨(hL q hq).1, hC.told v q Kv (hL q hq)⟩, ?_⟩
      · rw [List.mem_append, a1, b1, bit_idiff]
        constructor
        · rintro (h | h)
          · exact p3 q (by omega) h
          · rw [Bool.and_eq_true] at h; exact h.1
        · intro h
          cases hb : bit P (q : Int)
          · exact .inr (by rw [h]; rfl)
          · exact .inl rfl
      · have c1 := arcs_start hC Kv Ku Kv (L1 ++ L2) hL
        have c2 := arcs_end hC Ku Kv (L1 ++ L2) u Ku hL
        have c3 := arcs_join hC Ku Ku (L2 := L2) b3 L1 u Ku a3
        omega
end Go.Proofs.YtgnjjiljipgbnaaDoor
