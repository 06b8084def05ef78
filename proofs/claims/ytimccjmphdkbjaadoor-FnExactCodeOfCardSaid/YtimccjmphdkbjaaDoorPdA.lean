/- Rows of numbers in a block of their own; the first place at which a row is 1. The model's codes of trees: CodeOk, TreesMany. -/
import Derived.Test.YtimccjmphdkbjaaDoorPcN
import Derived.Test.YtimccjmphdkbjaaDoorUpA
import Derived.Test.YtimccjmphdkbjaaDoorWC
set_option linter.unusedSimpArgs false
set_option linter.unusedVariables false
namespace Go.Proofs.YtimccjmphdkbjaaDoor
open Go.ChangeShapes Go.WideShapes Go.ChangeAt Go.RowKit

/-- a row of m numbers that fills a block -/
structure RowG (w : World) (b : Nat) (t : TypeId) (m : Nat) (f : Nat → Int) : Prop where
  blk : ∃ vs, w.heap[b]? = some (.cells vs t (0, 0)) ∧ vs.size = m ∧ ∀ i, i < m → vs[i]? = some (.int .i64 (f i))
theorem RowG.keep {w w' : World} {b : Nat} {t : TypeId} {m : Nat} {f : Nat → Int} (h : RowG w b t m f) (hb : w'.heap[b]? = w.heap[b]?) : RowG w' b t m f := by
  obtain ⟨vs, h1, h2⟩ := h.blk
  exact ⟨vs, hb.trans h1, h2⟩
theorem RowG.lt {w : World} {b : Nat} {t : TypeId} {m : Nat} {f : Nat → Int} (h : RowG w b t m f) : b < w.heap.size := by
  obtain ⟨vs, h1, _⟩ := h.blk
  exact (Array.getElem?_eq_some_iff.1 h1).1
theorem RowG.below {w w' : World} {B b : Nat} {t : TypeId} {m : Nat} {f : Nat → Int} (h : RowG w b t m f) (hb : Below B w w') (hB : b < B) : RowG w' b t m f := h.keep (hb.block b hB)
theorem RowG.alloc {w : World} {b : Nat} {t : TypeId} {m : Nat} {f : Nat → Int} (h : RowG w b t m f) (o : Obj) : RowG (w.alloc o) b t m f := h.keep (heap_alloc_old w o h.lt)
theorem RowG.grown {w w' : World} {b : Nat} {t : TypeId} {m : Nat} {f : Nat → Int} {row : Option Nat} (h : RowG w b t m f) (hg : w.grownBy w' row) (hne : row ≠ some b) : RowG w' b t m f := h.keep (hg.block b h.lt (fun e => hne e.symm))
theorem RowG.cell {w : World} {b : Nat} {t : TypeId} {m : Nat} {f : Nat → Int} (h : RowG w b t m f) {j : Nat} (hj : j < m) : w.cell? ⟨b, j, none⟩ = some (.int .i64 (f j)) := by
  obtain ⟨vs, h1, h2, h3⟩ := h.blk
  rw [cell_of_row _ _ j _ _ (0, 0) h1]
  exact h3 j hj
theorem RowG.frozen {w : World} {b : Nat} {t : TypeId} {m : Nat} {f : Nat → Int} (h : RowG w b t m f) (j : Nat) : w.frozen? ⟨b, j, none⟩ = false := by
  obtain ⟨vs, h1, h2⟩ := h.blk
  simp [World.frozen?, h1]
theorem RowG.put {w : World} {b : Nat} {t : TypeId} {m : Nat} {f : Nat → Int} (h : RowG w b t m f) {a : Nat} (ha : a < m) (x : Int) : RowG (w.setCell ⟨b, a, none⟩ (.int .i64 x)) b t m (fun i => if i = a then x else f i) := by
  obtain ⟨vs, h1, h2, h3⟩ := h.blk
  refine ⟨vs.setIfInBounds a (.int .i64 x), ?_, by simpa using h2, ?_⟩
  · simp [World.setCell, Array.getElem?_modify, h1]
  · intro i hi
    by_cases hia : i = a
    · subst hia
      rw [if_pos rfl]
      simp [Array.getElem?_setIfInBounds]; omega
    · rw [if_neg hia, Array.getElem?_setIfInBounds, if_neg (by omega)]
      exact h3 i hi
theorem RowG.congr {w : World} {b : Nat} {t : TypeId} {m : Nat} {f g : Nat → Int} (h : RowG w b t m f) (hfg : ∀ i, i < m → f i = g i) : RowG w b t m g := by
  obtain ⟨vs, h1, h2, h3⟩ := h.blk
  exact ⟨vs, h1, h2, fun i hi => by rw [h3 i hi, hfg i hi]⟩
theorem RowG.made (w : World) (t : TypeId) (m : Nat) : RowG (w.alloc (.cells (Array.replicate m (.int .i64 0)) t)) w.heap.size t m (fun _ => 0) :=
  ⟨_, heap_alloc_new w _, by simp, fun i hi => by simp [hi]⟩

/-! ### the first place at which a row is 1 -/
theorem leafFrom_spec (f : Int → Int) : ∀ g k : Nat, k ≤ leafFrom f g k ∧ leafFrom f g k ≤ k + g ∧ (∀ j : Nat, k ≤ j → j < leafFrom f g k → f j ≠ 1) ∧ (leafFrom f g k < k + g → f (leafFrom f g k : Nat) = 1)
  | 0, k => ⟨Nat.le_refl _, Nat.le_refl _, fun j h1 h2 => by simp only [leafFrom] at h2; omega, fun h => by simp only [leafFrom] at h; omega⟩
  | g + 1, k => by
    unfold leafFrom
    by_cases h : f k = 1
    · rw [if_pos h]
      exact ⟨Nat.le_refl _, by omega, fun j h1 h2 => by omega, fun _ => h⟩
    · rw [if_neg h]
      obtain ⟨a, b, c, d⟩ := leafFrom_spec f g (k + 1)
      refine ⟨by omega, by omega, fun j h1 h2 => ?_, fun h9 => d (by omega)⟩
      by_cases e : j = k
      · subst e; exact h
      · exact c j (by omega) h2
theorem leafFrom_congr {f f' : Int → Int} : ∀ (g k : Nat), (∀ j : Nat, j < k + g → f j = f' j) → leafFrom f g k = leafFrom f' g k
  | 0, k, _ => rfl
  | g + 1, k, h => by
    unfold leafFrom
    rw [h k (by omega), leafFrom_congr g (k + 1) (fun j hj => h j (by omega))]
/-! ### counts -/
theorem foldl_add {α : Type} (g : α → Int) : ∀ (L : List α) (a b : Int), L.foldl (fun c x => c + g x) (a + b) = a + L.foldl (fun c x => c + g x) b
  | [], _, _ => rfl
  | x :: L, a, b => by simp only [List.foldl_cons]; rw [Int.add_assoc, foldl_add g L a]
theorem degL_take {L : List (Int × Int)} {k : Nat} {p : Int × Int} (h : L[k]? = some p) (v : Int) : degL (L.take (k + 1)) v = degL (L.take k) v + ((if p.1 = v then 1 else 0) + (if p.2 = v then 1 else 0)) := by
  unfold degL; rw [List.take_add_one, h, List.foldl_append]; rfl
theorem cntL_take {c : List Int} {k : Nat} {x : Int} (h : c[k]? = some x) (v : Int) : cntL (c.take (k + 1)) v = cntL (c.take k) v + (if x = v then 1 else 0) := by
  unfold cntL; rw [List.take_add_one, h, List.foldl_append]; rfl
theorem nextL_take {L : List (Int × Int)} {k : Nat} {p : Int × Int} (h : L[k]? = some p) (l : Int) : nextL (L.take (k + 1)) l = nextL (L.take k) l ++ (if p.1 = l ∨ p.2 = l then [] else [p]) := by
  unfold nextL
  rw [List.take_add_one, h, List.filter_append]
  congr 1
  by_cases h1 : p.1 = l <;> by_cases h2 : p.2 = l <;> simp [h1, h2]
theorem outL_take {L : List (Int × Int)} {k : Nat} {p : Int × Int} (h : L[k]? = some p) (l : Int) : outL (L.take (k + 1)) l = outL (L.take k) l ++ (if p.1 = l then [p.2] else if p.2 = l then [p.1] else []) := by
  unfold outL
  rw [List.take_add_one, h, List.filterMap_append]
  congr 1
  by_cases h1 : p.1 = l <;> by_cases h2 : p.2 = l <;> simp [h1, h2]
theorem degL_bd (L : List (Int × Int)) (v : Int) : 0 ≤ degL L v ∧ degL L v ≤ 2 * L.length := by
  have key : ∀ (L : List (Int × Int)) (a : Int), a ≤ L.foldl (fun c p => c + ((if p.1 = v then 1 else 0) + (if p.2 = v then 1 else 0))) a ∧ L.foldl (fun c p => c + ((if p.1 = v then 1 else 0) + (if p.2 = v then 1 else 0))) a ≤ a + 2 * L.length := by
    intro L
    induction L with
    | nil => intro a; simp
    | cons p L ih =>
      intro a
      obtain ⟨h1, h2⟩ := ih (a + ((if p.1 = v then 1 else 0) + (if p.2 = v then 1 else 0)))
      simp only [List.foldl_cons, List.length_cons]
      constructor
      · refine Int.le_trans ?_ h1
        split <;> split <;> omega
      · refine Int.le_trans h2 ?_
        split <;> split <;> omega
  have := key L 0
  unfold degL
  omega
theorem cntL_bd (c : List Int) (v : Int) : 1 ≤ cntL c v ∧ cntL c v ≤ 1 + c.length := by
  have key : ∀ (c : List Int) (a : Int), a ≤ c.foldl (fun a x => a + (if x = v then 1 else 0)) a ∧ c.foldl (fun a x => a + (if x = v then 1 else 0)) a ≤ a + c.length := by
    intro c
    induction c with
    | nil => intro a; simp
    | cons x c ih =>
      intro a
      obtain ⟨h1, h2⟩ := ih (a + (if x = v then 1 else 0))
      simp only [List.foldl_cons, List.length_cons]
      constructor
      · refine Int.le_trans ?_ h1
        split <;> omega
      · refine Int.le_trans h2 ?_
        split <;> omega
  have := key c 1
  unfold cntL
  omega
end Go.Proofs.YtimccjmphdkbjaaDoor
attribute [local go_sem ↓] Go.wp_at_zero Go.wp_at_succ
namespace Go.Proofs.YtimccjmphdkbjaaDoor
open Go.ChangeShapes Go.WideShapes Go.ChangeAt Go.RowKit

def inP (n x : Int) : Bool := decide (0 ≤ x) && decide (x < n)
theorem codeOk_is (n : Int) (c : List Int) : codeOk n c = (c.all (inP n) && (inB n 2 6 && decide ((c.length : Int) = n - 2))) := by
  unfold codeOk codeB inB
  by_cases h2 : 2 ≤ n
  · by_cases h6 : n ≤ 6
    · obtain ⟨m, rfl⟩ := Int.eq_ofNat_of_zero_le (show 0 ≤ n by omega)
      rw [decide_eq_true h2, decide_eq_true h6, Int.toNat_natCast]
      have e1 : decide (c.length + 2 = m) = decide ((c.length : Int) = (m : Int) - 2) := by rw [decide_eq_decide]; omega
      rw [e1]
      have e2 : (c.all fun x => decide (0 ≤ x) && decide (x < (m : Int))) = c.all (inP (m : Int)) := rfl
      rw [e2]
      cases c.all (inP (m : Int)) <;> cases decide ((c.length : Int) = (m : Int) - 2) <;> rfl
    · rw [decide_eq_false h6]; simp
  · rw [decide_eq_false h2]; simp
theorem inP_take {n : Int} {L : List Int} {k : Nat} (h : k < L.length) : (L.take (k + 1)).all (inP n) = ((L.take k).all (inP n) && inP n (L.getD k 0)) := by
  have hx : L[k]? = some L[k] := List.getElem?_eq_getElem h
  rw [List.take_add_one, hx, getD_at hx, List.all_append]; simp
theorem inP_false {n : Int} {L : List Int} {k : Nat} (h : k < L.length) (hf : inP n (L.getD k 0) = false) : L.all (inP n) = false := by
  have hx : L[k]? = some L[k] := List.getElem?_eq_getElem h
  rw [getD_at hx] at hf
  rw [List.all_eq_false]
  exact ⟨L[k], List.getElem_mem h, by rw [hf]; simp⟩
set_option maxHeartbeats 2000000 in
theorem sCodeOk_any (n : Int) (Ar : Option Addr) (cr : Nat) (c : List Int) (w : World) (hi : RI w w.heap.size Ar c) (hlm : c.length ≤ 1073741824) :
    Calls Tryd.prog 52 #[.int .i64 n, .slice Ar c.length cr] w fun en w' => en = .returned (.bool (codeOk n c)) ∧ w = w' := by
  have HI := Lib.hid hi
  obtain ⟨an, han⟩ : ∃ a, codeOk n c = a := ⟨_, rfl⟩
  have HF : Hid (c.all (inP n) = false → an = false) := fun h => by rw [← han, codeOk_is, h]; rfl
  have HT : Hid (c.all (inP n) = true → an = (inB n 2 6 && decide ((c.length : Int) = n - 2))) := fun h => by rw [← han, codeOk_is, h, Bool.true_and]
  rw [han]
  clear hi han
  go_enter Tryd.func52, Tryd.ntmps52
  go_wp2_with fail
  go_loopw [5] (fun i wr => ∃ k : Nat, k ≤ c.length ∧ i = .int .i64 k ∧ (c.take k).all (inP n) = true ∧ w = wr) (fun i _ => c.length - (intOf i).toNat)
  case atStart => exact ⟨0, Nat.zero_le _, rfl, rfl, rfl⟩
  case round =>
    obtain ⟨k, hk, rfl, hall, rfl⟩ := hrel
    have hk0 : (0 : Int) ≤ (k : Int) := by omega
    by_cases hlk : k < c.length
    · have hk1 : (k : Int) < (c.length : Int) := by omega
      obtain ⟨b, o, rfl, hb, qk⟩ := HI.out.at_ hlk
      have HTK := Lib.hid (inP_take (n := n) hlk)
      have HFA : Hid (inP n (c.getD k 0) = false → c.all (inP n) = false) := inP_false hlk
      rw [hall, Bool.true_and] at HTK
      obtain ⟨x, hx⟩ : ∃ x, c.getD k 0 = x := ⟨_, rfl⟩
      rw [hx] at qk HTK HFA
      clear hx
      by_cases h0 : x < 0
      · have HFF : Hid (an = false) := HF.out (HFA.out (by unfold inP; rw [decide_eq_false (by omega : ¬ 0 ≤ x)]; rfl))
        clear HTK HFA hall
        go_wp2_with fail
        go_ret
        exact ⟨ret_bool HFF.out.symm, rfl⟩
      · by_cases h1 : n ≤ x
        · have HFF : Hid (an = false) := HF.out (HFA.out (by unfold inP; rw [decide_eq_false (by omega : ¬ x < n)]; simp))
          clear HTK HFA hall
          go_wp2_with fail
          go_ret
          exact ⟨ret_bool HFF.out.symm, rfl⟩
        · have HT1 : Hid ((c.take (k + 1)).all (inP n) = true) := by show _ = _; rw [HTK.out]; unfold inP; rw [decide_eq_true (by omega : 0 ≤ x), decide_eq_true (by omega : x < n)]; rfl
          clear HTK HFA hall
          go_wp2_with fail
          go_roundw
          case rel => exact ⟨k + 1, by omega, by go_num, HT1.out, by first | rfl | trivial⟩
          case measure => (simp [intOf]) <;> omega
    · obtain rfl : k = c.length := by omega
      rw [List.take_length] at hall
      have hat := HT.out hall
      cases hin : inB n 2 6
      · have HIN := Lib.hid hin
        have HAN : Hid (an = false) := by show _ = _; rw [hat, hin]; rfl
        clear hat hin hall
        go_wp2_with fail
        refine (l1In_any n 2 6 _).mono ?_; rintro e2 w2 ⟨rfl, rfl⟩; rw [HIN.out]
        go_wp2_with fail
        go_ret
        exact ⟨ret_bool HAN.out.symm, rfl⟩
      · have HIN := Lib.hid hin
        obtain ⟨n2, n6⟩ := inB_t hin
        have HW1 : Hid (IntKind.i64.wrap (n - 2) = n - 2) := IntWalk.i64_in _ ⟨by omega, by omega⟩
        have HW2 : Hid (wrap64 (n - 2) = n - 2) := IntWalk.wrap64_in _ ⟨by omega, by omega⟩
        have HAN : Hid (((c.length : Int) == n - 2) = an) := by show _ = _; rw [hat, hin, Bool.true_and]; rw [Bool.eq_iff_iff]; simp
        clear hat hin hall
        have hw1 := HW1.out
        have hw2 := HW2.out
        go_wp2_with fail
        refine (l1In_any n 2 6 _).mono ?_; rintro e2 w2 ⟨rfl, rfl⟩; rw [HIN.out]
        go_wp2_with fail
        clear hw1 hw2
        go_ret
        exact ⟨ret_bool HAN.out, rfl⟩
theorem pow_bd6 {n : Int} (h2 : 2 ≤ n) (h6 : n ≤ 6) : ∀ k : Nat, k ≤ 4 → 1 ≤ n ^ k ∧ n ^ k ≤ 1296 := by
  intro k hk
  have h1 : (2 : Int) ^ k ≤ n ^ k := by
    rcases (by omega : n = 2 ∨ n = 3 ∨ n = 4 ∨ n = 5 ∨ n = 6) with rfl | rfl | rfl | rfl | rfl <;>
    rcases (by omega : k = 0 ∨ k = 1 ∨ k = 2 ∨ k = 3 ∨ k = 4) with rfl | rfl | rfl | rfl | rfl <;> decide
  rcases (by omega : n = 2 ∨ n = 3 ∨ n = 4 ∨ n = 5 ∨ n = 6) with rfl | rfl | rfl | rfl | rfl <;>
  rcases (by omega : k = 0 ∨ k = 1 ∨ k = 2 ∨ k = 3 ∨ k = 4) with rfl | rfl | rfl | rfl | rfl <;> decide
set_option maxHeartbeats 1000000 in
theorem sTreesMany_any (n : Int) (w : World) :
    Calls Tryd.prog 24 #[.int .i64 n] w fun en w' => en = .returned (.int .i64 (treesMany n)) ∧ w = w' := by
  unfold treesMany
  cases hin : inB n 2 6
  · have HIN := Lib.hid hin
    rw [if_neg (by rintro ⟨a, b⟩; unfold inB at hin; simp at hin; omega)]
    clear hin
    go_enter Tryd.func24, Tryd.ntmps24
    go_wp2_with fail
    refine (l1In_any n 2 6 _).mono ?_; rintro e2 w2 ⟨rfl, rfl⟩; rw [HIN.out]
    go_wp2_with fail
    go_ret
    exact ⟨rfl, rfl⟩
  · have HIN := Lib.hid hin
    obtain ⟨n2, n6⟩ := inB_t hin
    rw [if_pos ⟨n2, n6⟩]
    have HPB := Lib.hid (pow_bd6 n2 n6)
    obtain ⟨m, hm⟩ : ∃ m : Nat, (n - 2).toNat = m := ⟨_, rfl⟩
    have hmn : n = (m : Int) + 2 := by omega
    have HMN := Lib.hid hmn
    have hm4 : m ≤ 4 := by omega
    rw [hm]
    clear hin hm hmn
    go_enter Tryd.func24, Tryd.ntmps24
    go_wp2_with fail
    refine (l1In_any n 2 6 _).mono ?_; rintro e2 w2 ⟨rfl, rfl⟩; rw [HIN.out]
    go_wp2_with fail
    go_loopw [3, 4] (fun c i wr => ∃ k : Nat, k ≤ m ∧ i = .int .i64 ((k : Int) + 2) ∧ c = .int .i64 (n ^ k) ∧ w = wr) (fun _ i _ => m + 2 - (intOf i).toNat)
    case atStart => exact ⟨0, Nat.zero_le _, rfl, by rw [Int.pow_zero], rfl⟩
    case round =>
      obtain ⟨k, hk, hi2, hc2, rfl⟩ := hrel
      have hpb := HPB.out k (by omega)
      obtain ⟨Y, hY⟩ : ∃ Y, n ^ k = Y := ⟨_, rfl⟩
      rw [hY] at hc2
      subst hi2
      subst hc2
      have HYE := Lib.hid hY
      clear hY
      have HS : Hid (n ^ k * n = n ^ (k + 1)) := (Int.pow_succ n k).symm
      have hps : k < m → n ^ (k + 1) ≤ 1296 := fun h => (HPB.out (k + 1) (by omega)).2
      have hps0 : k < m → 1 ≤ n ^ (k + 1) := fun h => (HPB.out (k + 1) (by omega)).1
      rw [← HS.out] at hps hps0
      by_cases hlt : k < m
      · have h1 := hps hlt
        have h2 := hps0 hlt
        have hkn : (k : Int) + 2 < n := by have := HMN.out; omega
        have HW1 : Hid (IntKind.i64.wrap (n ^ k * n) = n ^ k * n) := IntWalk.i64_in _ ⟨by omega, by omega⟩
        have HW2 : Hid (wrap64 (n ^ k * n) = n ^ k * n) := IntWalk.wrap64_in _ ⟨by omega, by omega⟩
        rw [HYE.out] at HW1 HW2 HS
        clear hpb hps hps0 h1 h2
        have hw1 := HW1.out
        have hw2 := HW2.out
        go_wp2_with fail
        clear hw1 hw2
        go_roundw
        case rel => exact ⟨k + 1, by omega, by go_num, by rw [← HS.out], by first | rfl | trivial⟩
        case measure => (simp [intOf]) <;> omega
      · obtain rfl : k = m := by omega
        have hkn : ¬ (k : Int) + 2 < n := by have := HMN.out; omega
        clear hpb hps hps0
        go_wp2_with fail
        go_ret
        exact ⟨ret_int HYE.out.symm, rfl⟩
end Go.Proofs.YtimccjmphdkbjaaDoor
