/- AllRoots: the list, told by plain functions. -/
import Derived.Test.YtbbomajgmgmigaaDoorRN
import Derived.Test.YtbbomajgmgmigaaDoorRq
set_option linter.unusedSimpArgs false
set_option linter.unusedVariables false
namespace Go.Proofs.YtbbomajgmgmigaaDoor
open Go.ChangeShapes Go.WideShapes Go.ChangeAt Go.RowKit

/-- none of the first k ways of s is needless -/
noncomputable def lnTo (ws : List Wy) (e s : Int) : Nat → Bool
  | 0 => true
  | k + 1 => lnTo ws e s k && (!bit s k || !joins ws (s - 2 ^ k) e)
theorem lnTo_iff (ws : List Wy) (e s : Int) : ∀ k, lnTo ws e s k = true ↔ ∀ j : Nat, j < k → bit s j = true → joins ws (s - 2 ^ j) e = false
  | 0 => by simp [lnTo]
  | k + 1 => by
    rw [lnTo, Bool.and_eq_true, lnTo_iff ws e s k, Bool.or_eq_true, Bool.not_eq_true', Bool.not_eq_true']
    constructor
    · rintro ⟨h1, h2⟩ j hj hb
      by_cases e : j = k
      · subst e
        rcases h2 with h2 | h2
        · rw [h2] at hb; cases hb
        · exact h2
      · exact h1 j (by omega) hb
    · intro h
      refine ⟨fun j hj hb => h j (by omega) hb, ?_⟩
      cases hb : bit s k
      · exact .inl rfl
      · exact .inr (h k (by omega) hb)
theorem lnTo_lean (ws : List Wy) (e s : Int) : lnTo ws e s ws.length = true ↔ Lean_ ws s e := lnTo_iff ws e s ws.length
/-- a root: it costs c, joins, and has nothing needless -/
noncomputable def rt (ws : List Wy) (e c s : Int) : Bool := (cost ws s == c) && (joins ws s e && lnTo ws e s ws.length)
theorem rt_iff (ws : List Wy) (e c s : Int) : rt ws e c s = true ↔ cost ws s = c ∧ joins ws s e = true ∧ Lean_ ws s e := by
  unfold rt
  rw [Bool.and_eq_true, Bool.and_eq_true, beq_iff_eq, lnTo_lean]
noncomputable def rtTo (ws : List Wy) (e c : Int) : Nat → List Int
  | 0 => []
  | k + 1 => if rt ws e c k = true then rtTo ws e c k ++ [(k : Int)] else rtTo ws e c k
theorem rtTo_len (ws : List Wy) (e c : Int) : ∀ k, (rtTo ws e c k).length ≤ k
  | 0 => by simp [rtTo]
  | k + 1 => by
    have ih := rtTo_len ws e c k
    rw [rtTo]
    split
    · simp; omega
    · omega
theorem rtTo_yes {ws : List Wy} {e c : Int} {k : Nat} (h : rt ws e c k = true) : rtTo ws e c (k + 1) = rtTo ws e c k ++ [(k : Int)] := by rw [rtTo, if_pos h]
theorem rtTo_no {ws : List Wy} {e c : Int} {k : Nat} (h : rt ws e c k = false) : rtTo ws e c (k + 1) = rtTo ws e c k := by rw [rtTo, if_neg (by rw [h]; simp)]
noncomputable def rootsOf (n : Int) (ws : List Wy) (e : Int) : List Int := if rootCost n ws e < 0 then [] else rtTo ws e (rootCost n ws e) (2 ^ ws.length)
theorem rootCost_told {n : Int} {ws : List Wy} {e : Int} (h : ¬ rootCost n ws e < 0) : netOk n ws = true ∧ plOk n e = true ∧ 0 ≤ best ws e ∧ rootCost n ws e = cost ws (best ws e) ∧ rootOf n ws e = best ws e := by
  cases hk : netOk n ws && plOk n e
  · rw [rootCost_not hk] at h; omega
  · have h1 := rootCost_is hk
    have h2 := hk
    rw [Bool.and_eq_true] at h2
    by_cases hb : best ws e < 0
    · rw [if_pos hb] at h1; omega
    · rw [if_neg hb] at h1
      refine ⟨h2.1, h2.2, by omega, h1, ?_⟩
      unfold rootOf
      rw [if_pos hk]
theorem rootsOf_len {n : Int} {ws : List Wy} {e : Int} : (rootsOf n ws e).length ≤ 512 := by
  unfold rootsOf
  split
  · simp
  · rename_i h
    have hn := netOk_t (rootCost_told h).1
    have hl := hn.len
    have h1 := rtTo_len ws e (rootCost n ws e) (2 ^ ws.length)
    have h2 : 2 ^ ws.length ≤ 2 ^ 9 := Nat.pow_le_pow_right (by omega) hl
    omega
/-- a new row of numbers -/
def NewInts (L : List Int) (w : World) (e : Ending) (w' : World) : Prop :=
  ∃ A1 c1, e = .returned (.slice A1 L.length c1) ∧ RowF w' w.heap.size w'.heap.size A1 L.length (fun j => L.getD j 0) ∧ Below w.heap.size w w'
theorem newInts_nil {w w' : World} {e : Ending} {A1 : Option Addr} {c1 : Nat} (he : e = .returned (.slice A1 0 c1)) (hb : Below w.heap.size w w') : NewInts [] w e w' :=
  ⟨A1, c1, he, RowF.none _ _ _ _ _ (Nat.le_refl _), hb⟩
def rlCells (L : List Int) : List Value := L.map (fun x => .int .i64 x)
theorem rlCells_at {L : List Int} {j : Nat} (h : j < L.length) : (rlCells L)[j]? = some (.int .i64 (L.getD j 0)) := by
  unfold rlCells
  rw [List.getElem?_map, List.getElem?_eq_getElem h, List.getD_eq_getElem?_getD, List.getElem?_eq_getElem h]
  rfl
theorem rlCells_snoc (L : List Int) (x : Int) : rlCells (L ++ [x]) = rlCells L ++ [.int .i64 x] := by unfold rlCells; rw [List.map_append]; rfl
theorem rlCells_len (L : List Int) : (rlCells L).length = L.length := by unfold rlCells; simp
theorem rt_th {n : Int} {ws : List Wy} (hn : NetIs n ws) {e c s : Int} (s0 : 0 ≤ s) (s1 : s ≤ full ws.length) (e0 : 0 ≤ e) (e1 : e < 2 ^ n.toNat) : rt ws e c s = ((cost ws s == c) && (joins ws s e && (thS ws e s ws.length == s))) := by
  unfold rt
  have : lnTo ws e s ws.length = (thS ws e s ws.length == s) := by
    rw [Bool.eq_iff_iff, lnTo_lean, beq_iff_eq]
    exact (thS_iff hn s0 s1 e0 e1).symm
  rw [this]
theorem rootsOf_is {n : Int} {ws : List Wy} {e C : Int} {N : Nat} (hC : rootCost n ws e = C) (h : ¬ C < 0) (hN : 2 ^ ws.length = N) : rootsOf n ws e = rtTo ws e C N := by
  unfold rootsOf
  rw [hC, if_neg h, hN]
theorem rootsOf_no {n : Int} {ws : List Wy} {e C : Int} (hC : rootCost n ws e = C) (h : C < 0) : rootsOf n ws e = [] := by
  unfold rootsOf
  rw [hC, if_pos h]
end Go.Proofs.YtbbomajgmgmigaaDoor
