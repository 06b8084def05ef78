/- The program's points: the greatest and the least of numbers, three numbers sorted, PointsOk, PointsFar, HalfRound, MiddleOf, MeetCost. -/
import Derived.Test.YtgnjjiljipgbnaaPoD
import Derived.Test.YtgnjjiljipgbnaaUpA
set_option linter.unusedSimpArgs false
set_option linter.unusedVariables false
attribute [local go_sem ↓] Go.wp_at_zero Go.wp_at_succ
namespace Go.Proofs.Ytgnjjiljipgbnaa
open Go.ChangeShapes Go.WideShapes Go.ChangeAt Go.RowKit

/-! ### the greatest and the least of some numbers -/
def grI (L : List Int) : Int := L.foldl max (L.getD 0 0)
def leI (L : List Int) : Int := L.foldl min (L.getD 0 0)
def grTo (L : List Int) (k : Nat) : Int := (L.take k).foldl max (L.getD 0 0)
def leTo (L : List Int) (k : Nat) : Int := (L.take k).foldl min (L.getD 0 0)
theorem grTo_one {L : List Int} (h : 0 < L.length) : grTo L 1 = L.getD 0 0 := by
  match L, h with
  | x :: L, _ => simp [grTo]
theorem leTo_one {L : List Int} (h : 0 < L.length) : leTo L 1 = L.getD 0 0 := by
  match L, h with
  | x :: L, _ => simp [leTo]
theorem grTo_step {L : List Int} {k : Nat} {x : Int} (h : L[k]? = some x) : grTo L (k + 1) = max (grTo L k) x := by
  unfold grTo; rw [List.take_add_one, h, List.foldl_append]; rfl
theorem leTo_step {L : List Int} {k : Nat} {x : Int} (h : L[k]? = some x) : leTo L (k + 1) = min (leTo L k) x := by
  unfold leTo; rw [List.take_add_one, h, List.foldl_append]; rfl
theorem grTo_all (L : List Int) : grTo L L.length = grI L := by unfold grTo grI; rw [List.take_length]
theorem leTo_all (L : List Int) : leTo L L.length = leI L := by unfold leTo leI; rw [List.take_length]
theorem mxTo_fold (f : Int × Int → Int) : ∀ (ps : List (Int × Int)) (x : Int), mxTo f x ps = (ps.map f).foldl max x
  | [], _ => rfl
  | p :: ps, x => by rw [mxTo, mxTo_fold f ps]; rfl
theorem mnTo_fold (f : Int × Int → Int) : ∀ (ps : List (Int × Int)) (x : Int), mnTo f x ps = (ps.map f).foldl min x
  | [], _ => rfl
  | p :: ps, x => by rw [mnTo, mnTo_fold f ps]; rfl
theorem first_map (f : Int × Int → Int) {ps : List (Int × Int)} (h : 0 < ps.length) : (ps.map f).getD 0 0 = f (ptAt ps 0) := by
  match ps, h with
  | p :: ps, _ => rfl
theorem grI_map (f : Int × Int → Int) {ps : List (Int × Int)} (h : 0 < ps.length) : grI (ps.map f) = mxTo f (f (ptAt ps 0)) ps := by
  unfold grI; rw [first_map f h, mxTo_fold]
theorem leI_map (f : Int × Int → Int) {ps : List (Int × Int)} (h : 0 < ps.length) : leI (ps.map f) = mnTo f (f (ptAt ps 0)) ps := by
  unfold leI; rw [first_map f h, mnTo_fold]
theorem fold_max_in : ∀ (L : List Int) (a : Int), 0 ≤ a → a ≤ 20 → (∀ x, x ∈ L → 0 ≤ x ∧ x ≤ 20) → 0 ≤ L.foldl max a ∧ L.foldl max a ≤ 20
  | [], a, h0, h1, _ => ⟨h0, h1⟩
  | x :: L, a, h0, h1, h => by
    have hx := h x (List.mem_cons_self ..)
    exact fold_max_in L (max a x) (by omega) (by omega) (fun y hy => h y (List.mem_cons_of_mem _ hy))
theorem fold_min_in : ∀ (L : List Int) (a : Int), 0 ≤ a → a ≤ 20 → (∀ x, x ∈ L → 0 ≤ x ∧ x ≤ 20) → 0 ≤ L.foldl min a ∧ L.foldl min a ≤ 20
  | [], a, h0, h1, _ => ⟨h0, h1⟩
  | x :: L, a, h0, h1, h => by
    have hx := h x (List.mem_cons_self ..)
    exact fold_min_in L (min a x) (by omega) (by omega) (fun y hy => h y (List.mem_cons_of_mem _ hy))
theorem first_in {L : List Int} (h : ∀ x, x ∈ L → 0 ≤ x ∧ x ≤ 20) : 0 ≤ L.getD 0 0 ∧ L.getD 0 0 ≤ 20 := by
  match L with
  | [] => simp
  | x :: L => exact h x (List.mem_cons_self ..)
theorem grI_in {L : List Int} (h : ∀ x, x ∈ L → 0 ≤ x ∧ x ≤ 20) : 0 ≤ grI L ∧ grI L ≤ 20 := fold_max_in L _ (first_in h).1 (first_in h).2 h
theorem leI_in {L : List Int} (h : ∀ x, x ∈ L → 0 ≤ x ∧ x ≤ 20) : 0 ≤ leI L ∧ leI L ≤ 20 := fold_min_in L _ (first_in h).1 (first_in h).2 h
def spreadI (L : List Int) : Int := grI L - leI L
theorem spread_two (a b : Int) : spreadI [a, b] = max (a - b) (b - a) := by
  unfold spreadI grI leI
  simp only [List.foldl_cons, List.foldl_nil, List.getD_cons_zero]
  omega
theorem box_spread {ps : List (Int × Int)} (h : 0 < ps.length) : boxOf ps = spreadI (ps.map Prod.fst) + spreadI (ps.map Prod.snd) := by
  obtain ⟨a, b, c, d, _, h1, h2, h3⟩ := box_is h
  unfold lowP at h1
  unfold highP at h2
  unfold spreadI
  rw [grI_map Prod.fst h, leI_map Prod.fst h, grI_map Prod.snd h, leI_map Prod.snd h]
  simp only [Prod.mk.injEq] at h1 h2
  omega
theorem map_in {f : Int × Int → Int} {ps : List (Int × Int)} (h : ∀ p, p ∈ ps → 0 ≤ f p ∧ f p ≤ 20) : ∀ x, x ∈ ps.map f → 0 ≤ x ∧ x ≤ 20 := by
  intro x hx
  obtain ⟨p, hp, rfl⟩ := List.mem_map.1 hx
  exact h p hp
set_option maxHeartbeats 1000000 in
theorem slMax_any (A : Option Addr) (cap : Nat) (L : List Int) (w : World) (hr : RI w w.heap.size A L) (hl : 0 < L.length) (hm : L.length ≤ 1048576) :
    Calls Try.prog 52 #[.slice A L.length cap] w fun e w' => e = .returned (.int .i64 (grI L)) ∧ Below w.heap.size w w' := by
  have HR := Lib.hid hr
  obtain ⟨M, hM⟩ : ∃ M, grI L = M := ⟨_, rfl⟩
  have HALL : Hid (grTo L L.length = M) := by show _ = _; rw [grTo_all, hM]
  rw [hM]
  obtain ⟨b, o, rfl, hB, c0⟩ := hr.at_ hl
  have H1 : Hid (grTo L 1 = L.getD 0 0) := grTo_one hl
  have nl : ¬ (L.length : Int) < 1 := by omega
  obtain ⟨x0, hx0⟩ : ∃ x, L.getD 0 0 = x := ⟨_, rfl⟩
  rw [hx0] at c0 H1
  simp only [Nat.add_zero] at c0
  clear hr hM hx0
  go_enter Try.func52, Try.ntmps52
  go_wp2_with fail
  go_loopw [3, 4] (fun m i wr => ∃ k : Nat, 1 ≤ k ∧ k ≤ L.length ∧ i = .int .i64 k ∧ m = .int .i64 (grTo L k) ∧ Below w.heap.size w wr) (fun _ i _ => L.length - (intOf i).toNat)
  case atStart => exact ⟨1, Nat.le_refl _, hl, rfl, by rw [H1.out], Below.refl _ _⟩
  case round =>
    clear c0 H1
    obtain ⟨k, hk1, hk, rfl, rfl, hb⟩ := hrel
    have HB := Lib.hid hb
    have hk0 : (0 : Int) ≤ (k : Int) := by omega
    by_cases hlk : k < L.length
    · obtain ⟨x, hx⟩ : ∃ x, L[k]? = some x := ⟨_, List.getElem?_eq_getElem hlk⟩
      obtain ⟨b', o', e9, hB', c1⟩ := HR.out.below hb k x hx
      injection e9 with e9; injection e9 with e91 e92; subst e91; subst e92
      have HS : Hid (grTo L (k + 1) = max (grTo L k) x) := grTo_step hx
      have hk2 : (k : Int) < (L.length : Int) := by omega
      obtain ⟨g, hg⟩ : ∃ g, grTo L k = g := ⟨_, rfl⟩
      rw [hg] at HS ⊢
      obtain ⟨G, hG⟩ : ∃ G, max g x = G := ⟨_, rfl⟩
      rw [hG] at HS
      obtain ⟨m1, m2, m3, m4⟩ := maxforms hG
      have m5 : (if x > g then x else g) = G := by omega
      clear hx hb hg
      go_wp2_with fail
      go_roundw
      case rel => exact ⟨k + 1, by omega, by omega, by go_num, by rw [HS.out]; try (first | rfl | omega), HB.out⟩
      case measure => (simp [intOf]) <;> omega
    · obtain rfl : k = L.length := by omega
      clear hb
      go_wp2_with fail
      go_ret
      exact ⟨ret_int HALL.out, HB.out⟩

set_option maxHeartbeats 1000000 in
theorem slMin_any (A : Option Addr) (cap : Nat) (L : List Int) (w : World) (hr : RI w w.heap.size A L) (hl : 0 < L.length) (hm : L.length ≤ 1048576) :
    Calls Try.prog 53 #[.slice A L.length cap] w fun e w' => e = .returned (.int .i64 (leI L)) ∧ Below w.heap.size w w' := by
  have HR := Lib.hid hr
  obtain ⟨M, hM⟩ : ∃ M, leI L = M := ⟨_, rfl⟩
  have HALL : Hid (leTo L L.length = M) := by show _ = _; rw [leTo_all, hM]
  rw [hM]
  obtain ⟨b, o, rfl, hB, c0⟩ := hr.at_ hl
  have H1 : Hid (leTo L 1 = L.getD 0 0) := leTo_one hl
  have nl : ¬ (L.length : Int) < 1 := by omega
  obtain ⟨x0, hx0⟩ : ∃ x, L.getD 0 0 = x := ⟨_, rfl⟩
  rw [hx0] at c0 H1
  simp only [Nat.add_zero] at c0
  clear hr hM hx0
  go_enter Try.func53, Try.ntmps53
  go_wp2_with fail
  go_loopw [3, 4] (fun m i wr => ∃ k : Nat, 1 ≤ k ∧ k ≤ L.length ∧ i = .int .i64 k ∧ m = .int .i64 (leTo L k) ∧ Below w.heap.size w wr) (fun _ i _ => L.length - (intOf i).toNat)
  case atStart => exact ⟨1, Nat.le_refl _, hl, rfl, by rw [H1.out], Below.refl _ _⟩
  case round =>
    clear c0 H1
    obtain ⟨k, hk1, hk, rfl, rfl, hb⟩ := hrel
    have HB := Lib.hid hb
    have hk0 : (0 : Int) ≤ (k : Int) := by omega
    by_cases hlk : k < L.length
    · obtain ⟨x, hx⟩ : ∃ x, L[k]? = some x := ⟨_, List.getElem?_eq_getElem hlk⟩
      obtain ⟨b', o', e9, hB', c1⟩ := HR.out.below hb k x hx
      injection e9 with e9; injection e9 with e91 e92; subst e91; subst e92
      have HS : Hid (leTo L (k + 1) = min (leTo L k) x) := leTo_step hx
      have hk2 : (k : Int) < (L.length : Int) := by omega
      obtain ⟨g, hg⟩ : ∃ g, leTo L k = g := ⟨_, rfl⟩
      rw [hg] at HS ⊢
      obtain ⟨G, hG⟩ : ∃ G, min g x = G := ⟨_, rfl⟩
      rw [hG] at HS
      obtain ⟨m1, m2, m3, m4⟩ := minforms hG
      have m5 : (if x < g then x else g) = G := by omega
      clear hx hb hg
      go_wp2_with fail
      go_roundw
      case rel => exact ⟨k + 1, by omega, by omega, by go_num, by rw [HS.out]; try (first | rfl | omega), HB.out⟩
      case measure => (simp [intOf]) <;> omega
    · obtain rfl : k = L.length := by omega
      clear hb
      go_wp2_with fail
      go_ret
      exact ⟨ret_int HALL.out, HB.out⟩


set_option maxHeartbeats 1000000 in
theorem spread_any (A : Option Addr) (cap : Nat) (L : List Int) (w : World) (hr : RI w w.heap.size A L) (hl : 0 < L.length) (hm : L.length ≤ 1048576) (hin : ∀ x, x ∈ L → 0 ≤ x ∧ x ≤ 20) :
    Calls Try.prog 44 #[.slice A L.length cap] w fun e w' => e = .returned (.int .i64 (spreadI L)) ∧ Below w.heap.size w w' := by
  have HR := Lib.hid hr
  obtain ⟨g0, g1⟩ := grI_in hin
  obtain ⟨l0, l1⟩ := leI_in hin
  unfold spreadI
  obtain ⟨G, hG⟩ : ∃ G, grI L = G := ⟨_, rfl⟩
  obtain ⟨E, hE⟩ : ∃ E, leI L = E := ⟨_, rfl⟩
  have HG := Lib.hid hG
  have HE := Lib.hid hE
  rw [hG] at g0 g1 ⊢
  rw [hE] at l0 l1 ⊢
  have HW1 : Hid (IntKind.i64.wrap (G - E) = G - E) := IntWalk.i64_in _ ⟨by omega, by omega⟩
  have HW2 : Hid (wrap64 (G - E) = G - E) := IntWalk.wrap64_in _ ⟨by omega, by omega⟩
  clear hr hG hE g0 g1 l0 l1
  go_enter Try.func44, Try.ntmps44
  go_wp2_with fail
  refine (slMax_any _ _ _ _ HR.out hl hm).mono ?_; rintro e w1 ⟨rfl, hb1⟩
  rw [HG.out]
  obtain ⟨hc1, hf1⟩ := bcell hb1
  have HK1 := Lib.hid hb1
  have HB1 := Lib.hid (bstep (B := w.heap.size) (W := w) (by (try have hp := HB0.out); go_grown) (by go_size) hb1); clear hb1
  have hs1 := HB1.out.size
  go_wp2_with fail
  refine (slMin_any _ _ _ _ (HR.out.later HB1.out) hl hm).mono ?_; rintro e w2 ⟨rfl, hb2⟩
  rw [HE.out]
  obtain ⟨hc2, hf2⟩ := bcell hb2
  have HK2 := Lib.hid hb2
  have HB2 := Lib.hid (bstep (B := w.heap.size) (W := w) (by have hp := HB1.out; go_grown) (by go_size) hb2); clear hb2
  have hw1 := HW1.out
  have hw2 := HW2.out
  go_wp2_with fail
  go_ret
  exact ⟨rfl, HB2.out⟩
theorem ri_two {w : World} {b : Nat} {x y : Int} (h0 : w.cell? ⟨b, 0, none⟩ = some (.int .i64 x)) (h1 : w.cell? ⟨b, 1, none⟩ = some (.int .i64 y)) (hb : b < w.heap.size) : RI w w.heap.size (some ⟨b, 0, none⟩) [x, y] := by
  intro i z hz
  match i, hz with
  | 0, hz => obtain rfl := Option.some.inj hz; exact ⟨b, 0, rfl, hb, h0⟩
  | 1, hz => obtain rfl := Option.some.inj hz; exact ⟨b, 0, rfl, hb, h1⟩
theorem spread2_any (x y : Int) (b cap : Nat) (w : World) (h0 : w.cell? ⟨b, 0, none⟩ = some (.int .i64 x)) (h1 : w.cell? ⟨b, 1, none⟩ = some (.int .i64 y)) (hb : b < w.heap.size) (hx : 0 ≤ x ∧ x ≤ 20) (hy : 0 ≤ y ∧ y ≤ 20) :
    Calls Try.prog 44 #[.slice (some ⟨b, 0, none⟩) 2 cap] w fun e w' => e = .returned (.int .i64 (max (x - y) (y - x))) ∧ Below w.heap.size w w' := by
  have h := spread_any (some ⟨b, 0, none⟩) cap [x, y] w (ri_two h0 h1 hb) (by simp) (by simp) (fun z hz => by
    rcases List.mem_cons.1 hz with rfl | hz
    · exact hx
    · rcases List.mem_cons.1 hz with rfl | hz
      · exact hy
      · cases hz)
  rw [spread_two] at h
  exact h
theorem lineOk_any (x : Int) (w : World) :
    Calls Try.prog 50 #[.int .i64 x] w fun e w' => e = .returned (.bool (inB x 0 20)) ∧ w = w' := by
  unfold inB
  go_enter Try.func50, Try.ntmps50
  go_wp2
  all_goals
    go_ret
    exact ⟨ret_bool (by first | (simp [*]; done) | (rw [Bool.eq_iff_iff]; simp only [Bool.and_eq_true, Bool.or_eq_true, Bool.not_eq_true', bne_iff_ne, beq_iff_eq, decide_eq_true_eq, decide_eq_false_iff_not, beq_eq_false_iff_ne, ne_eq, Bool.true_and, Bool.and_true, Bool.false_and, Bool.and_false, Bool.true_or, Bool.false_or, Bool.or_false, true_and, and_true, Bool.false_eq_true, false_iff, iff_false, true_iff, iff_true, iff_self]; done) | (rw [Bool.eq_iff_iff]; simp only [Bool.and_eq_true, Bool.or_eq_true, Bool.not_eq_true', bne_iff_ne, beq_iff_eq, decide_eq_true_eq, decide_eq_false_iff_not, beq_eq_false_iff_ne, ne_eq, Bool.true_and, Bool.and_true, Bool.false_and, Bool.and_false, Bool.true_or, Bool.false_or, Bool.or_false, true_and, and_true, Bool.false_eq_true, false_iff, iff_false, true_iff, iff_true]; omega)), rfl⟩
set_option maxHeartbeats 1000000 in
theorem onGrid_any (p : Int × Int) (w : World) :
    Calls Try.prog 37 #[.agg #[.int .i64 p.1, .int .i64 p.2]] w fun e w' => e = .returned (.bool (ptIn p)) ∧ Below w.heap.size w w' := by
  obtain ⟨p1, p2⟩ := p
  unfold ptIn
  simp only
  cases h1 : inB p1 0 20
  · have H1 := Lib.hid h1
    clear h1
    go_enter Try.func37, Try.ntmps37
    go_wp2_with fail
    refine (lineOk_any _ _).mono ?_; rintro e w1 ⟨rfl, rfl⟩; rw [H1.out]
    go_wp2_with fail
    go_ret
    exact ⟨rfl, (Below.refl _ _).alloc (Nat.le_refl _) _⟩
  · have H1 := Lib.hid h1
    cases h2 : inB p2 0 20
    all_goals
      have H2 := Lib.hid h2
      clear h1 h2
      go_enter Try.func37, Try.ntmps37
      go_wp2_with fail
      refine (lineOk_any _ _).mono ?_; rintro e w1 ⟨rfl, rfl⟩; rw [H1.out]
      go_wp2_with fail
      refine (lineOk_any _ _).mono ?_; rintro e w1 ⟨rfl, rfl⟩; rw [H2.out]
      go_wp2_with fail
      go_ret
      exact ⟨rfl, (Below.refl _ _).alloc (Nat.le_refl _) _⟩
theorem hasPoint_any (A : Option Addr) (m cap : Nat) (x : Int) (w : World) (hm : m ≤ 1073741824) :
    Calls Try.prog 40 #[.slice A m cap, .int .i64 x] w fun e w' => e = .returned (.bool (inB x 0 ((m : Int) - 1))) ∧ w = w' := by
  unfold inB
  go_enter Try.func40, Try.ntmps40
  go_wp2
  all_goals
    go_ret
    exact ⟨ret_bool (by first | (simp [*]; done) | (rw [Bool.eq_iff_iff]; simp only [Bool.and_eq_true, Bool.or_eq_true, Bool.not_eq_true', bne_iff_ne, beq_iff_eq, decide_eq_true_eq, decide_eq_false_iff_not, beq_eq_false_iff_ne, ne_eq, Bool.true_and, Bool.and_true, Bool.false_and, Bool.and_false, Bool.true_or, Bool.false_or, Bool.or_false, true_and, and_true, Bool.false_eq_true, false_iff, iff_false, true_iff, iff_true, iff_self]; done) | (rw [Bool.eq_iff_iff]; simp only [Bool.and_eq_true, Bool.or_eq_true, Bool.not_eq_true', bne_iff_ne, beq_iff_eq, decide_eq_true_eq, decide_eq_false_iff_not, beq_eq_false_iff_ne, ne_eq, Bool.true_and, Bool.and_true, Bool.false_and, Bool.and_false, Bool.true_or, Bool.false_or, Bool.or_false, true_and, and_true, Bool.false_eq_true, false_iff, iff_false, true_iff, iff_true]; omega)), rfl⟩
theorem pts_none {ps : List (Int × Int)} (h : ps.length < 1 ∨ 6 < ps.length) : pointsOk ps = false := by
  unfold pointsOk
  rw [Bool.and_eq_false_iff]
  right
  unfold inB
  simp
  omega
set_option maxHeartbeats 2000000 in
theorem PointsOk_any (Ap : Option Addr) (cp : Nat) (ps : List (Int × Int)) (w : World) (hp : RC w w.heap.size Ap ps) (hpm : ps.length ≤ 1073741824) :
    Calls Try.prog 15 #[.slice Ap ps.length cp] w fun e w' => e = .returned (.bool (pointsOk ps)) ∧ Below w.heap.size w w' := by
  have HP := Lib.hid hp
  by_cases hl1 : ps.length < 1
  · rw [pts_none (.inl hl1)]
    have e1 : (ps.length : Int) < 1 := by omega
    clear hp hl1
    go_enter Try.func15, Try.ntmps15
    go_wp2_with fail
    go_ret
    exact ⟨rfl, Below.refl _ _⟩
  · by_cases hl6 : 6 < ps.length
    · rw [pts_none (.inr hl6)]
      have e1 : ¬ (ps.length : Int) < 1 := by omega
      have e2 : (6 : Int) < (ps.length : Int) := by omega
      clear hp hl1 hl6
      go_enter Try.func15, Try.ntmps15
      go_wp2_with fail
      go_ret
      exact ⟨rfl, Below.refl _ _⟩
    · have e1 : ¬ (ps.length : Int) < 1 := by omega
      have e2 : ¬ (6 : Int) < (ps.length : Int) := by omega
      have HFALSE : Hid (ps.all ptIn = false → pointsOk ps = false) := fun h => by unfold pointsOk; rw [h]; rfl
      have HTRUE : Hid (ps.all ptIn = true → pointsOk ps = true) := fun h => by unfold pointsOk inB; rw [h]; simp; omega
      obtain ⟨an, han⟩ : ∃ a, pointsOk ps = a := ⟨_, rfl⟩
      rw [han] at HFALSE HTRUE ⊢
      clear hp han hl1 hl6
      go_enter Try.func15, Try.ntmps15
      go_wp2_with fail
      go_loopw [15] (fun i wr => ∃ k : Nat, k ≤ ps.length ∧ i = .int .i64 k ∧ (ps.take k).all ptIn = true ∧ Below w.heap.size w wr) (fun i _ => ps.length - (intOf i).toNat)
      case atStart => exact ⟨0, Nat.zero_le _, rfl, rfl, Below.refl _ _⟩
      case round =>
        clear e1 e2
        obtain ⟨k, hk, rfl, hall, hb⟩ := hrel
        have HB0 := Lib.hid hb
        have hk0 : (0 : Int) ≤ (k : Int) := by omega
        by_cases hlk : k < ps.length
        · obtain ⟨⟨pa, pb⟩, hx⟩ : ∃ x, ps[k]? = some x := ⟨_, List.getElem?_eq_getElem hlk⟩
          obtain ⟨b, o, rfl, hB, c0, c1⟩ := (HP.out.below hb) k _ hx
          simp only at c0 c1
          have hk1 : (k : Int) < (ps.length : Int) := by omega
          have hsz := hb.size
          have HTK := Lib.hid (ptIn_take hx)
          have HFA : Hid (ptIn (pa, pb) = false → an = false) := fun h => HFALSE.out (ptIn_false hx h)
          rw [hall, Bool.true_and] at HTK
          clear hx hall hb
          cases h1 : ptIn (pa, pb)
          · have HF : Hid (an = false) := HFA.out h1
            have H1 := Lib.hid h1
            clear h1 HTK HFA
            go_wp2_with fail
            refine (onGrid_any (pa, pb) _).mono ?_; rintro e w1 ⟨rfl, hb1⟩
            rw [H1.out]
            obtain ⟨hc1, hf1⟩ := bcell hb1
            have HK1 := Lib.hid hb1
            have HB1 := Lib.hid (bstep (B := w.heap.size) (W := w) (by (try have hp := HB0.out); go_grown) (by go_size) hb1); clear hb1
            go_wp2_with fail
            go_ret
            exact ⟨ret_bool HF.out.symm, HB1.out⟩
          · have H1 := Lib.hid h1
            have HT2 : Hid ((ps.take (k + 1)).all ptIn = true) := by show _ = _; rw [HTK.out, h1]
            clear h1 HTK HFA
            go_wp2_with fail
            refine (onGrid_any (pa, pb) _).mono ?_; rintro e w1 ⟨rfl, hb1⟩
            rw [H1.out]
            obtain ⟨hc1, hf1⟩ := bcell hb1
            have HK1 := Lib.hid hb1
            have HB1 := Lib.hid (bstep (B := w.heap.size) (W := w) (by (try have hp := HB0.out); go_grown) (by go_size) hb1); clear hb1
            go_wp2_with fail
            go_roundw
            case rel => exact ⟨k + 1, by omega, by go_num, HT2.out, HB1.out⟩
            case measure => (simp [intOf]) <;> omega
        · obtain rfl : k = ps.length := by omega
          rw [List.take_length] at hall
          have HAN : Hid (an = true) := HTRUE.out hall
          clear hall hb
          go_wp2_with fail
          go_ret
          exact ⟨ret_bool HAN.out.symm, HB0.out⟩
end Go.Proofs.Ytgnjjiljipgbnaa
