/- Trees between ends: the nearest end is linked next; that costs no more than any edges between the ends that hang together. Plain mathematics. -/
import Derived.Test.YtgnjjiljipgbnaaDoorMJ
set_option linter.unusedVariables false
set_option linter.unusedSimpArgs false
namespace Go.Proofs.YtgnjjiljipgbnaaDoor
open Go.RowKit

/-! ### edges -/
def sumE : List (Nat × Nat × Int) → Int
  | [] => 0
  | t :: F => t.2.2 + sumE F
theorem sumE_erase {t : Nat × Nat × Int} : ∀ {F : List (Nat × Nat × Int)}, t ∈ F → sumE (F.erase t) + t.2.2 = sumE F
  | [], h => by cases h
  | u :: F, h => by
    by_cases e : u = t
    · subst e
      rw [List.erase_cons_head, sumE]; omega
    · rw [List.erase_cons_tail (by simpa using e), sumE, sumE]
      have h' : t ∈ F := by
        rcases List.mem_cons.1 h with h | h
        · exact absurd h.symm e
        · exact h
      have := sumE_erase h'
      omega
/-- with all of I at one, the edges come to all of e: each set that has I, and not all of e, is crossed by one -/
def Conn (F : List (Nat × Nat × Int)) (I e : Int) : Prop := ∀ S : Nat → Bool, (∀ p : Nat, bit I p = true → S p = true) → (∃ p : Nat, bit e p = true ∧ S p = false) → ∃ t, t ∈ F ∧ S t.1 ≠ S t.2.1
/-- edges between places of e that cost what the table tells, or more -/
def InE (f : Nat → Nat → Int) (e : Int) (F : List (Nat × Nat × Int)) : Prop := ∀ t, t ∈ F → bit e t.1 = true ∧ bit e t.2.1 = true ∧ 0 ≤ f t.1 t.2.1 ∧ f t.1 t.2.1 ≤ t.2.2 ∧ f t.2.1 t.1 = f t.1 t.2.1
theorem InE.nn {f : Nat → Nat → Int} {e : Int} : ∀ {F : List (Nat × Nat × Int)}, InE f e F → 0 ≤ sumE F
  | [], _ => Int.le_refl _
  | t :: F, h => by
    have h1 := h t (List.mem_cons_self ..)
    have h2 := InE.nn (F := F) (fun u hu => h u (List.mem_cons_of_mem _ hu))
    rw [sumE]; omega
/-- what is come to from y by edges that don't cross I -/
def Bq (F : List (Nat × Nat × Int)) (I : Int) (y q : Nat) : Prop := ∀ T : Nat → Bool, T y = true → (∀ t, t ∈ F → bit I t.1 = bit I t.2.1 → T t.1 = T t.2.1) → T q = true
theorem bq_out {F : List (Nat × Nat × Int)} {I : Int} {y q : Nat} (hy : bit I y = false) (h : Bq F I y q) : bit I q = false := by
  have := h (fun p => !bit I p) (by simp [hy]) (fun t _ e => by simp [e])
  simpa using this
theorem conn_less {F : List (Nat × Nat × Int)} {I e : Int} {y : Nat} {t : Nat × Nat × Int} {u i : Nat} (hc : Conn F I e) (ht : t ∈ F) (hx : bit I t.1 ≠ bit I t.2.1) (hu : Bq F I y u) (hi : bit I i = true) (hui : (t.1 = u ∧ t.2.1 = i) ∨ (t.1 = i ∧ t.2.1 = u)) : Conn (F.erase t) (ior I (2 ^ y)) e := by
  intro S h1 h2
  have hI : ∀ p : Nat, bit I p = true → S p = true := fun p hp => h1 p (by rw [bit_ior, hp]; rfl)
  have hy : S y = true := h1 y (by rw [bit_ior, bit_pow y y (by omega)]; simp)
  obtain ⟨t', ht', hS⟩ := hc S hI h2
  by_cases e1 : t' = t
  · subst e1
    apply Classical.byContradiction
    intro hno
    have hSu : S u = true := hu S hy (fun t'' ht'' hb => by
      have hne : t'' ≠ t' := fun e => by subst e; exact hx hb
      apply Classical.byContradiction
      intro hd
      exact hno ⟨t'', (List.mem_erase_of_ne hne).2 ht'', hd⟩)
    have hSi : S i = true := hI i hi
    rcases hui with ⟨h3, h4⟩ | ⟨h3, h4⟩
    · rw [h3, h4, hSu, hSi] at hS; exact hS rfl
    · rw [h3, h4, hSu, hSi] at hS; exact hS rfl
  · exact ⟨t', (List.mem_erase_of_ne e1).2 ht', hS⟩
/-- the cheapest link to a place that is not linked is as good as some edge -/
theorem prim_step {f : Nat → Nat → Int} {e I : Int} {F : List (Nat × Nat × Int)} {x y : Nat} (hc : Conn F I e) (hin : InE f e F) (hy : bit I y = false) (hye : bit e y = true)
    (hmin : ∀ a b : Nat, bit I a = true → bit e b = true → bit I b = false → 0 ≤ f a b → f x y ≤ f a b) : ∃ F', Conn F' (ior I (2 ^ y)) e ∧ InE f e F' ∧ sumE F' + f x y ≤ sumE F := by
  obtain ⟨t, ht, hS⟩ := hc (fun q => !@decide (Bq F I y q) (Classical.propDecidable _)) (fun p hp => by
    have : ¬ Bq F I y p := fun h => by rw [bq_out hy h] at hp; cases hp
    simp [this]) ⟨y, hye, by
    have : Bq F I y y := fun T h _ => h
    simp [this]⟩
  have hx : bit I t.1 ≠ bit I t.2.1 := fun h => by
    apply hS
    have : Bq F I y t.1 ↔ Bq F I y t.2.1 := ⟨fun g T h1 h2 => by rw [← h2 t ht h]; exact g T h1 h2, fun g T h1 h2 => by rw [h2 t ht h]; exact g T h1 h2⟩
    simp [this]
  obtain ⟨b1, b2, b3, b4, b5⟩ := hin t ht
  have hE : InE f e (F.erase t) := fun u hu => hin u (List.mem_of_mem_erase hu)
  have hs := sumE_erase ht
  by_cases h1 : Bq F I y t.1
  · have o1 := bq_out hy h1
    have i2 : bit I t.2.1 = true := by
      cases h : bit I t.2.1
      · rw [o1, h] at hx; exact absurd rfl hx
      · rfl
    have := hmin t.2.1 t.1 i2 b1 o1 (by omega)
    exact ⟨F.erase t, conn_less hc ht hx h1 i2 (.inl ⟨rfl, rfl⟩), hE, by omega⟩
  · have h2 : Bq F I y t.2.1 := by
      apply Classical.byContradiction
      intro h2
      apply hS
      simp [h1, h2]
    have o2 := bq_out hy h2
    have i1 : bit I t.1 = true := by
      cases h : bit I t.1
      · rw [o2, h] at hx; exact absurd rfl hx
      · rfl
    have := hmin t.1 t.2.1 i1 b2 o2 b3
    exact ⟨F.erase t, conn_less hc ht hx h2 i1 (.inr ⟨rfl, rfl⟩), hE, by omega⟩

/-! ### which link is next -/
def okP (f : Nat → Nat → Int) (I e : Int) (a b : Nat) : Bool := (bit I a && (bit e b && !bit I b)) && decide (0 ≤ f a b)
theorem okP_t {f : Nat → Nat → Int} {I e : Int} {a b : Nat} (h : okP f I e a b = true) : bit I a = true ∧ bit e b = true ∧ bit I b = false ∧ 0 ≤ f a b := by
  unfold okP at h
  rw [Bool.and_eq_true, Bool.and_eq_true, Bool.and_eq_true, decide_eq_true_eq] at h
  exact ⟨h.1.1, h.1.2.1, by simpa using h.1.2.2, h.2⟩
theorem okP_mk {f : Nat → Nat → Int} {I e : Int} {a b : Nat} (h1 : bit I a = true) (h2 : bit e b = true) (h3 : bit I b = false) (h4 : 0 ≤ f a b) : okP f I e a b = true := by
  unfold okP; simp [h1, h2, h3, h4]
def bet (f : Nat → Nat → Int) (o : Option (Nat × Nat)) (a b : Nat) : Bool := match o with
  | none => true
  | some p => decide (f a b < f p.1 p.2)
def bstR (f : Nat → Nat → Int) (I e : Int) (a : Nat) (o : Option (Nat × Nat)) : Nat → Option (Nat × Nat)
  | 0 => o
  | b + 1 => if (okP f I e a b && bet f (bstR f I e a o b) a b) = true then some (a, b) else bstR f I e a o b
def bstA (f : Nat → Nat → Int) (I e : Int) (m : Nat) : Nat → Option (Nat × Nat)
  | 0 => none
  | a + 1 => bstR f I e a (bstA f I e m a) m
/-- o is the best of the pairs of Q -/
def BestP (f : Nat → Nat → Int) (I e : Int) (Q : Nat → Nat → Prop) (o : Option (Nat × Nat)) : Prop :=
  (o = none ∧ ∀ a b, Q a b → okP f I e a b = false) ∨ ∃ x y, o = some (x, y) ∧ okP f I e x y = true ∧ Q x y ∧ ∀ a b, Q a b → okP f I e a b = true → f x y ≤ f a b
theorem BestP.congr {f : Nat → Nat → Int} {I e : Int} {Q Q' : Nat → Nat → Prop} {o : Option (Nat × Nat)} (h : BestP f I e Q o) (hq : ∀ a b, Q a b ↔ Q' a b) : BestP f I e Q' o := by
  rcases h with ⟨h1, h2⟩ | ⟨x, y, h1, h2, h3, h4⟩
  · exact .inl ⟨h1, fun a b h => h2 a b ((hq a b).2 h)⟩
  · exact .inr ⟨x, y, h1, h2, (hq x y).1 h3, fun a b h => h4 a b ((hq a b).2 h)⟩
theorem bstR_best {f : Nat → Nat → Int} {I e : Int} {Q : Nat → Nat → Prop} {a : Nat} {o : Option (Nat × Nat)} (h : BestP f I e Q o) : ∀ b, BestP f I e (fun i j => Q i j ∨ (i = a ∧ j < b)) (bstR f I e a o b)
  | 0 => h.congr fun i j => ⟨.inl, fun h => h.elim id (fun h => by omega)⟩
  | b + 1 => by
    have ih := bstR_best (a := a) h b
    rw [bstR]
    cases hok : okP f I e a b
    · rw [Bool.false_and, if_neg (by simp)]
      rcases ih with ⟨h1, h2⟩ | ⟨x, y, h1, h2, h3, h4⟩
      · refine .inl ⟨h1, fun i j hq => ?_⟩
        by_cases hj : i = a ∧ j = b
        · rw [hj.1, hj.2]; exact hok
        · exact h2 i j (hq.elim .inl fun g => .inr ⟨g.1, by omega⟩)
      · refine .inr ⟨x, y, h1, h2, h3.elim .inl (fun g => .inr ⟨g.1, by omega⟩), fun i j hq ho => ?_⟩
        by_cases hj : i = a ∧ j = b
        · rw [hj.1, hj.2, hok] at ho; cases ho
        · exact h4 i j (hq.elim .inl fun g => .inr ⟨g.1, by omega⟩) ho
    · rw [Bool.true_and]
      rcases ih with ⟨h1, h2⟩ | ⟨x, y, h1, h2, h3, h4⟩
      · rw [h1]
        refine .inr ⟨a, b, by simp [bet], hok, .inr ⟨rfl, by omega⟩, fun i j hq ho => ?_⟩
        by_cases hj : i = a ∧ j = b
        · rw [hj.1, hj.2]; exact Int.le_refl _
        · rw [h2 i j (hq.elim .inl fun g => .inr ⟨g.1, by omega⟩)] at ho; cases ho
      · rw [h1]
        by_cases hlt : f a b < f x y
        · refine .inr ⟨a, b, by simp [bet, hlt], hok, .inr ⟨rfl, by omega⟩, fun i j hq ho => ?_⟩
          by_cases hj : i = a ∧ j = b
          · rw [hj.1, hj.2]; exact Int.le_refl _
          · have := h4 i j (hq.elim .inl fun g => .inr ⟨g.1, by omega⟩) ho
            omega
        · refine .inr ⟨x, y, by simp [bet, hlt], h2, h3.elim .inl (fun g => .inr ⟨g.1, by omega⟩), fun i j hq ho => ?_⟩
          by_cases hj : i = a ∧ j = b
          · rw [hj.1, hj.2]; omega
          · exact h4 i j (hq.elim .inl fun g => .inr ⟨g.1, by omega⟩) ho
theorem bstA_best {f : Nat → Nat → Int} {I e : Int} {m : Nat} : ∀ a, BestP f I e (fun i j => i < a ∧ j < m) (bstA f I e m a)
  | 0 => .inl ⟨rfl, fun i j h => by omega⟩
  | a + 1 => by
    rw [bstA]
    refine (bstR_best (a := a) (bstA_best a) m).congr fun i j => ?_
    constructor
    · rintro (h | h) <;> omega
    · intro h
      by_cases e1 : i = a
      · exact .inr ⟨e1, h.2⟩
      · exact .inl ⟨by omega, h.2⟩

/-! ### the links -/
def lks (f : Nat → Nat → Int) (e : Int) (m : Nat) : Nat → Int → Option (List (Nat × Nat))
  | 0, I => if I = e then some [] else none
  | d + 1, I => if I = e then some [] else match bstA f I e m m with
    | none => none
    | some p => (lks f e m d (ior I (2 ^ p.2))).map (fun L => p :: L)
def sumL (f : Nat → Nat → Int) : List (Nat × Nat) → Int
  | [] => 0
  | p :: L => f p.1 p.2 + sumL f L
theorem lks_end (f : Nat → Nat → Int) (e : Int) (m d : Nat) : lks f e m d e = some [] := by
  cases d with
  | zero => rw [lks, if_pos rfl]
  | succ d => rw [lks, if_pos rfl]
theorem lks_some {f : Nat → Nat → Int} {e I : Int} {m d x y : Nat} (hne : I ≠ e) (h : bstA f I e m m = some (x, y)) : lks f e m (d + 1) I = (lks f e m d (ior I (2 ^ y))).map (fun L => (x, y) :: L) := by
  rw [lks, if_neg hne, h]
theorem lks_none {f : Nat → Nat → Int} {e I : Int} {m d : Nat} (hne : I ≠ e) (h : bstA f I e m m = none) : lks f e m (d + 1) I = none := by
  rw [lks, if_neg hne, h]
/-- a step of the links: which, and that there is one left -/
theorem lks_step {f : Nat → Nat → Int} {e I : Int} {m d : Nat} {L : List (Nat × Nat)} (hne : I ≠ e) (h : lks f e m d I = some L) : ∃ d' x y L', d = d' + 1 ∧ bstA f I e m m = some (x, y) ∧ lks f e m d' (ior I (2 ^ y)) = some L' ∧ L = (x, y) :: L' ∧ x < m ∧ y < m ∧ okP f I e x y = true := by
  cases d with
  | zero => rw [lks, if_neg hne] at h; cases h
  | succ d =>
    have hb := bstA_best (f := f) (I := I) (e := e) (m := m) m
    rcases hb with ⟨h1, _⟩ | ⟨x, y, h1, h2, h3, _⟩
    · rw [lks_none hne h1] at h; cases h
    · rw [lks_some hne h1] at h
      cases hl : lks f e m d (ior I (2 ^ y)) with
      | none => rw [hl] at h; cases h
      | some L' =>
        rw [hl] at h
        injection h with h
        exact ⟨d, x, y, L', rfl, h1, hl, h.symm, h3.1, h3.2, h2⟩
/-- a link more, and edges less -/
theorem prim_next {f : Nat → Nat → Int} {e : Int} {m : Nat} (hm6 : m ≤ 6) (e0 : 0 ≤ e) (e1 : e < 2 ^ m) {I : Int} {F : List (Nat × Nat × Int)} (i0 : 0 ≤ I) (i1 : I < 2 ^ m) (hsub : ∀ q, 0 ≤ q → bit I q = true → bit e q = true) (hc : Conn F I e) (hin : InE f e F) (hIe : I ≠ e) :
    ∃ x y F', bstA f I e m m = some (x, y) ∧ pop (ior I (2 ^ y)) = pop I + 1 ∧ 0 ≤ ior I (2 ^ y) ∧ ior I (2 ^ y) < 2 ^ m ∧ (∀ q, 0 ≤ q → bit (ior I (2 ^ y)) q = true → bit e q = true) ∧ Conn F' (ior I (2 ^ y)) e ∧ InE f e F' ∧ sumE F' + f x y ≤ sumE F := by
  have hp64 := Nat.pow_le_pow_right (n := 2) (by omega) hm6
  have e2 : ((2 : Int) ^ m) = ((2 ^ m : Nat) : Int) := by simp
  have hex : ∃ p : Nat, bit e p = true ∧ bit I p = false := by
    apply Classical.byContradiction
    intro hno
    refine hIe (set_ext i0 e0 fun q hq => ?_)
    obtain ⟨k, rfl⟩ := Int.eq_ofNat_of_zero_le hq
    rw [Bool.eq_iff_iff]
    refine ⟨hsub k hq, fun h => ?_⟩
    cases hb : bit I (k : Int)
    · exact absurd ⟨k, h, hb⟩ hno
    · rfl
  obtain ⟨t, ht, hS⟩ := hc (fun p => bit I p) (fun p h => h) hex
  obtain ⟨b1, b2, b3, b4, b5⟩ := hin t ht
  have hb := bstA_best (f := f) (I := I) (e := e) (m := m) m
  have lt1 : t.1 < m := by have := set_sub e0 e1 b1; omega
  have lt2 : t.2.1 < m := by have := set_sub e0 e1 b2; omega
  rcases hb with ⟨h1, h2⟩ | ⟨x, y, h1, h2, h3, h4⟩
  · exfalso
    cases hA : bit I t.1 <;> cases hB : bit I t.2.1
    · simp only [hA, hB] at hS; exact hS rfl
    · have h5 := h2 t.2.1 t.1 ⟨lt2, lt1⟩
      rw [okP_mk hB b1 hA (by omega)] at h5; cases h5
    · have h5 := h2 t.1 t.2.1 ⟨lt1, lt2⟩
      rw [okP_mk hA b2 hB b3] at h5; cases h5
    · simp only [hA, hB] at hS; exact hS rfl
  · obtain ⟨g1, g2, g3, g4⟩ := okP_t h2
    obtain ⟨F', c', n', s'⟩ := prim_step (x := x) hc hin g3 g2 (fun a b ha hb hb' hf => h4 a b ⟨by have := set_sub i0 i1 ha; omega, by have := set_sub e0 e1 hb; omega⟩ (okP_mk ha hb hb' hf))
    have hpl := pop_place (r := I) (j := (y : Int)) i0 (by omega) (by omega) (by omega) g3
    rw [Int.toNat_natCast] at hpl
    have hpy : (2 : Int) ^ y < 2 ^ m := by
      have := Nat.pow_lt_pow_right (a := 2) (by omega) h3.2
      have e3 : ((2 : Int) ^ y) = ((2 ^ y : Nat) : Int) := by simp
      omega
    have hib := ior_bd I (2 ^ y) m i1 hpy
    have hsub' : ∀ q, 0 ≤ q → bit (ior I (2 ^ y)) q = true → bit e q = true := fun q hq h => by
      rw [bit_ior, bit_pow y q hq, Bool.or_eq_true, decide_eq_true_eq] at h
      rcases h with h | rfl
      · exact hsub q hq h
      · exact g2
    exact ⟨x, y, F', h1, hpl, hib.1, hib.2, hsub', c', n', s'⟩
/-- they cost no more than edges that hang together -/
theorem prim_le {f : Nat → Nat → Int} {e : Int} {m : Nat} (hm6 : m ≤ 6) (e0 : 0 ≤ e) (e1 : e < 2 ^ m) (d : Nat) : ∀ (I : Int) (F : List (Nat × Nat × Int)), 0 ≤ I → I < 2 ^ m → (∀ q, 0 ≤ q → bit I q = true → bit e q = true) → pop e ≤ pop I + d → Conn F I e → InE f e F → ∃ L, lks f e m d I = some L ∧ sumL f L ≤ sumE F := by
  induction d with
  | zero =>
    intro I F i0 i1 hsub hd hc hin
    by_cases hIe : I = e
    · subst hIe
      exact ⟨[], lks_end f I m 0, hin.nn⟩
    · obtain ⟨x, y, F', h1, h2, h3, h4, h5, h6, h7, h8⟩ := prim_next hm6 e0 e1 i0 i1 hsub hc hin hIe
      have := pop_sub h5
      omega
  | succ d ih =>
    intro I F i0 i1 hsub hd hc hin
    by_cases hIe : I = e
    · subst hIe
      exact ⟨[], lks_end f I m _, hin.nn⟩
    · obtain ⟨x, y, F', h1, h2, h3, h4, h5, h6, h7, h8⟩ := prim_next hm6 e0 e1 i0 i1 hsub hc hin hIe
      obtain ⟨L, hL, hle⟩ := ih (ior I (2 ^ y)) F' h3 h4 h5 (by omega) h6 h7
      refine ⟨(x, y) :: L, by rw [lks_some hIe h1, hL]; rfl, ?_⟩
      rw [sumL]
      show f x y + sumL f L ≤ sumE F
      omega
/-- each link is between what is linked and what is not; all are linked in the end -/
def LinkOk (e : Int) : Int → List (Nat × Nat) → Prop
  | I, [] => I = e
  | I, p :: L => bit I p.1 = true ∧ bit I p.2 = false ∧ bit e p.2 = true ∧ LinkOk e (ior I (2 ^ p.2)) L
theorem lks_ok {f : Nat → Nat → Int} {e : Int} {m : Nat} : ∀ (L : List (Nat × Nat)) (d : Nat) (I : Int), lks f e m d I = some L → LinkOk e I L
  | L, d, I, h => by
    by_cases hIe : I = e
    · subst hIe
      rw [lks_end] at h
      injection h with h
      subst h; rfl
    · obtain ⟨d', x, y, L', rfl, _, h2, rfl, _, _, h5⟩ := lks_step hIe h
      obtain ⟨g1, g2, g3, _⟩ := okP_t h5
      exact ⟨g1, g3, g2, lks_ok L' d' _ h2⟩
theorem lks_len {f : Nat → Nat → Int} {e : Int} {m : Nat} (hm6 : m ≤ 6) : ∀ (L : List (Nat × Nat)) (d : Nat) (I : Int), 0 ≤ I → I < 2 ^ m → lks f e m d I = some L → (L.length : Int) + pop I = pop e ∧ ∀ p, p ∈ L → p.1 < m ∧ p.2 < m
  | L, d, I, i0, i1, h => by
    by_cases hIe : I = e
    · subst hIe
      rw [lks_end] at h
      injection h with h
      subst h
      exact ⟨by simp, fun p hp => by cases hp⟩
    · obtain ⟨d', x, y, L', rfl, _, h2, rfl, hx, hy, h5⟩ := lks_step hIe h
      obtain ⟨g1, g2, g3, _⟩ := okP_t h5
      have hp64 := Nat.pow_le_pow_right (n := 2) (by omega) hm6
      have e2 : ((2 : Int) ^ m) = ((2 ^ m : Nat) : Int) := by simp
      have hpl := pop_place (r := I) (j := (y : Int)) i0 (by omega) (by omega) (by omega) g3
      rw [Int.toNat_natCast] at hpl
      have hpy : (2 : Int) ^ y < 2 ^ m := by
        have := Nat.pow_lt_pow_right (a := 2) (by omega) hy
        have e3 : ((2 : Int) ^ y) = ((2 ^ y : Nat) : Int) := by simp
        omega
      have hib := ior_bd I (2 ^ y) m i1 hpy
      obtain ⟨k1, k2⟩ := lks_len hm6 L' d' _ hib.1 hib.2 h2
      refine ⟨by rw [List.length_cons]; omega, fun p hp => ?_⟩
      rcases List.mem_cons.1 hp with rfl | hp
      · exact ⟨hx, hy⟩
      · exact k2 p hp
/-- links are a root's, or dearer -/
theorem lks_rc {m : Nat} {ws : List Wy} (hn : NetIs (m : Int) ws) {e : Int} : ∀ (L : List (Nat × Nat)) (d : Nat) (I : Int), 0 ≤ I → I < 2 ^ ((m : Int)).toNat → 0 ≤ rc ws I → lks (farF ws m) e m d I = some L → 0 ≤ rc ws e ∧ rc ws e ≤ rc ws I + sumL (farF ws m) L ∧ 0 ≤ sumL (farF ws m) L
  | L, d, I, i0, i1, hr, h => by
    by_cases hIe : I = e
    · subst hIe
      rw [lks_end] at h
      injection h with h
      subst h
      exact ⟨hr, by simp [sumL], by simp [sumL]⟩
    · obtain ⟨d', x, y, L', rfl, _, h2, rfl, hx, hy, h5⟩ := lks_step hIe h
      obtain ⟨g1, g2, g3, g4⟩ := okP_t h5
      have hw : withp I x = I := withp_has i0 g1
      have hg := rc_grow hn i0 i1 hx hy (by rw [hw]; exact hr) g4
      rw [hw] at hg
      have hb := withp_bd i0 i1 hy
      have := lks_rc hn L' d' (withp I y) hb.1 hb.2 hg.1 h2
      refine ⟨this.1, ?_, ?_⟩
      · rw [sumL]; simp only; omega
      · rw [sumL]; simp only; omega
end Go.Proofs.YtgnjjiljipgbnaaDoor
