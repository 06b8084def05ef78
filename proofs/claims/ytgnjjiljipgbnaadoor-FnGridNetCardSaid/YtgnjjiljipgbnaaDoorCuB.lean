/- The model's cuts: CutWays, PartsEnds, PacksOk, PackSum. -/
import Derived.Test.YtgnjjiljipgbnaaDoorCuA
import Derived.Test.YtgnjjiljipgbnaaDoorCuM
import Derived.Test.YtgnjjiljipgbnaaDoorMD
import Derived.Test.YtgnjjiljipgbnaaDoorMG
set_option linter.unusedSimpArgs false
set_option linter.unusedVariables false
attribute [local go_sem ↓] Go.wp_at_zero Go.wp_at_succ
namespace Go.Proofs.YtgnjjiljipgbnaaDoor
open Go.ChangeShapes Go.WideShapes Go.ChangeAt Go.RowKit

def cutWays (n : Int) (ws : List Wy) (P : Int) : Int := if (netOk n ws && plOk n P) = true then cw ws P else -1
def partsEnds (n : Int) (ws : List Wy) (e P : Int) : Bool := netOk n ws && (plOk n e && (plOk n P && parts e P))
/-- a cut that is as it may be -/
def cutOk (n e : Int) (c : Int × Int) : Bool := plOk n c.1 && (parts e c.1 && inB c.2 0 81)
/-- no way of the first k is taken too often -/
def loadsTo (ws : List Wy) (cs : List (Int × Int)) : Nat → Bool
  | 0 => true
  | k + 1 => loadsTo ws cs k && match ws[k]? with
    | some x => decide (wload ws k cs ≤ x.c)
    | none => true
def packsOk (n : Int) (ws : List Wy) (e : Int) (cs : List (Int × Int)) : Bool := netOk n ws && (plOk n e && (decide (cs.length ≤ 8) && (cs.all (cutOk n e) && loadsTo ws cs ws.length)))
def packSum (n : Int) (ws : List Wy) (e : Int) (cs : List (Int × Int)) : Int := if packsOk n ws e cs = true then wsum cs else -1
theorem loadsTo_at {ws : List Wy} {cs : List (Int × Int)} {k : Nat} {x : Wy} (hx : ws[k]? = some x) : loadsTo ws cs (k + 1) = (loadsTo ws cs k && decide (wload ws k cs ≤ x.c)) := by rw [loadsTo, hx]
theorem loadsTo_false {ws : List Wy} {cs : List (Int × Int)} {k : Nat} (h : loadsTo ws cs k = false) : ∀ d, loadsTo ws cs (k + d) = false
  | 0 => h
  | d + 1 => by rw [Nat.add_succ, loadsTo, loadsTo_false h d]; rfl
theorem loadsTo_iff (ws : List Wy) (cs : List (Int × Int)) : ∀ k, loadsTo ws cs k = true ↔ ∀ j, j < k → ∀ x, ws[j]? = some x → wload ws j cs ≤ x.c
  | 0 => by rw [loadsTo]; simp
  | k + 1 => by
    have ih := loadsTo_iff ws cs k
    rw [loadsTo, Bool.and_eq_true, ih]
    constructor
    · rintro ⟨h1, h2⟩ j hj x hx
      by_cases e : j = k
      · subst e; rw [hx] at h2; simpa using h2
      · exact h1 j (by omega) x hx
    · intro h
      refine ⟨fun j hj => h j (by omega), ?_⟩
      cases hx : ws[k]? with
      | none => rfl
      | some x => simp only; exact decide_eq_true (h k (by omega) x hx)
theorem packsOk_t {n : Int} {ws : List Wy} {e : Int} {cs : List (Int × Int)} (h : packsOk n ws e cs = true) : netOk n ws = true ∧ plOk n e = true ∧ cs.length ≤ 8 ∧ (∀ c, c ∈ cs → plOk n c.1 = true) ∧ Packs ws e cs := by
  unfold packsOk at h
  simp only [Bool.and_eq_true, decide_eq_true_eq, List.all_eq_true] at h
  obtain ⟨h1, h2, h3, h4, h5⟩ := h
  refine ⟨h1, h2, h3, fun c hc => ?_, ⟨fun c hc => ?_, fun k x hx => (loadsTo_iff ws cs _).1 h5 k (List.getElem?_eq_some_iff.1 hx).1 x hx⟩⟩
  · have := h4 c hc
    unfold cutOk at this
    rw [Bool.and_eq_true] at this
    exact this.1
  · have := h4 c hc
    unfold cutOk at this
    rw [Bool.and_eq_true, Bool.and_eq_true] at this
    refine ⟨this.2.1, ?_⟩
    have h9 := this.2.2
    unfold inB at h9
    simpa using h9
theorem packsOk_mk {n : Int} {ws : List Wy} {e : Int} {cs : List (Int × Int)} (h1 : netOk n ws = true) (h2 : plOk n e = true) (h3 : cs.length ≤ 8) (h4 : ∀ c, c ∈ cs → plOk n c.1 = true) (h5 : Packs ws e cs) : packsOk n ws e cs = true := by
  unfold packsOk
  simp only [Bool.and_eq_true, decide_eq_true_eq, List.all_eq_true]
  refine ⟨h1, h2, h3, fun c hc => ?_, (loadsTo_iff ws cs _).2 fun j _ x hx => h5.load j x hx⟩
  have := h5.part c hc
  unfold cutOk
  rw [Bool.and_eq_true, Bool.and_eq_true]
  refine ⟨h4 c hc, this.1, ?_⟩
  unfold inB; simp; omega
theorem wload_take (ws : List Wy) (k : Nat) {cs : List (Int × Int)} {j : Nat} {c : Int × Int} (h : cs[j]? = some c) : wload ws k (cs.take (j + 1)) = wload ws k (cs.take j) + if cutB ws c.1 k = true then c.2 else 0 := by
  rw [List.take_add_one, h, wload_append]; simp [wload]
theorem wsum_take {cs : List (Int × Int)} {j : Nat} {c : Int × Int} (h : cs[j]? = some c) : wsum (cs.take (j + 1)) = wsum (cs.take j) + c.2 := by
  rw [List.take_add_one, h, wsum_append]; simp [wsum]
theorem cutOk_take {n e : Int} {cs : List (Int × Int)} {j : Nat} {c : Int × Int} (h : cs[j]? = some c) : (cs.take (j + 1)).all (cutOk n e) = ((cs.take j).all (cutOk n e) && cutOk n e c) := by
  rw [List.take_add_one, h, List.all_append]; simp
theorem cutOk_false {n e : Int} {cs : List (Int × Int)} {j : Nat} {c : Int × Int} (h : cs[j]? = some c) (hc : cutOk n e c = false) : cs.all (cutOk n e) = false := by
  rw [List.all_eq_false]
  exact ⟨c, List.mem_of_getElem? h, by rw [hc]; simp⟩
theorem wload_bd {ws : List Wy} {k : Nat} : ∀ {cs : List (Int × Int)}, (∀ c, c ∈ cs → 0 ≤ c.2 ∧ c.2 ≤ 81) → 0 ≤ wload ws k cs ∧ wload ws k cs ≤ 81 * cs.length
  | [], _ => by simp [wload]
  | c :: cs, h => by
    have ih := wload_bd (ws := ws) (k := k) (cs := cs) fun d hd => h d (List.mem_cons_of_mem _ hd)
    have := h c (List.mem_cons_self ..)
    rw [wload, List.length_cons]
    split <;> omega
theorem wsum_bd : ∀ {cs : List (Int × Int)}, (∀ c, c ∈ cs → 0 ≤ c.2 ∧ c.2 ≤ 81) → 0 ≤ wsum cs ∧ wsum cs ≤ 81 * cs.length
  | [], _ => by simp [wsum]
  | c :: cs, h => by
    have ih := wsum_bd (cs := cs) fun d hd => h d (List.mem_cons_of_mem _ hd)
    have := h c (List.mem_cons_self ..)
    rw [wsum, List.length_cons]
    omega
end Go.Proofs.YtgnjjiljipgbnaaDoor
