/- From the walk of a law to its statement: arguments that are cuts. -/
import Derived.Test.YtimccjmphdkbjaaDoorLift
import Derived.Test.YtimccjmphdkbjaaDoorCuA
set_option linter.unusedSimpArgs false
set_option linter.unusedVariables false
namespace Go.Proofs.YtimccjmphdkbjaaDoor
open Go.ChangeShapes Go.WideShapes Go.ChangeAt Go.RowKit Go.Deep Go.Joins
section
variable {H : Type} {enc : TypeId × Value → H} {P : Program} {w : World}
/-- a slice of structs of two numbers -/
theorem open_cutCells {t e : TypeId} {f0 f1 : Field} {fuel : Nat} {vs : List Value} {x : DataW H × List MemPlace} (ht : P.underlying t = some (.slice e)) (he : P.underlying e = some (.struct #[f0, f1]))
    (hone : oneCellFields P #[f0, f1] = true) (hC : P.cellsOf e = 2) (h0 : P.underlying f0.type = some (.int .i64)) (h1 : P.underlying f1.type = some (.int .i64))
    (h : DataW.trod enc P w 0 (fun _ => true) true fuel t vs = some x) :
    ∃ (A : Option Addr) (cap : Nat) (cs : List (Int × Int)), vs = [.slice A cs.length cap] ∧ cs.length ≤ cap ∧ cap ≤ maxLen ∧ RC w w.heap.size A cs := by
  rcases open_slice ht h with ⟨rfl, _⟩ | ⟨a, len, cap, m, n, D, Pl, rfl, _, hl, hm, hmm, _, hi⟩
  · exact ⟨none, 0, [], rfl, Nat.le_refl _, Nat.zero_le _, fun i x hx => by simp at hx⟩
  · simp only [if_true] at hmm
    obtain ⟨o0, k0⟩ := hone_of hone 0 f0 rfl
    obtain ⟨o1, k1⟩ := hone_of hone 1 f1 rfl
    have key : ∀ i : Nat, ∃ x : Int × Int, i < len → w.cell? (a.add (i * 2)) = some (.int .i64 x.1) ∧ w.cell? (a.add (i * 2 + 1)) = some (.int .i64 x.2) := by
      intro i
      by_cases hlt : i < len
      · obtain ⟨cs', hc, htr⟩ := hi i (by omega)
        rw [hC] at hc
        obtain ⟨y0, y1, n', _, hcl, g0, g1⟩ := trod_struct2 he htr
        obtain ⟨_, hlen, hat⟩ := World.cells?_some hc
        rw [o0, k0] at g0
        rw [o1, k1] at g1
        match cs', hlen with
        | [u0, u1], _ =>
          obtain ⟨z0, e0, _, _⟩ := DataW.trod_int h0 g0
          obtain ⟨z1, e1, _, _⟩ := DataW.trod_int h1 g1
          have a0 := hat 0 (by omega)
          have a1 := hat 1 (by omega)
          rw [add_add] at a0 a1
          simp at e0 e1 a0 a1
          subst e0; subst e1
          exact ⟨⟨z0, z1⟩, fun _ => ⟨a0, a1⟩⟩
      · exact ⟨⟨0, 0⟩, fun hh => absurd hh hlt⟩
    obtain ⟨f, hf⟩ := Classical.axiomOfChoice key
    refine ⟨some a, cap, (List.range len).map f, by simp, by simpa using hl, hm, fun i x hx => ?_⟩
    have hil : i < len := by have := (List.getElem?_eq_some_iff.1 hx).1; simpa using this
    have hxf : f i = x := by simpa [hil] using hx
    subst hxf
    obtain ⟨c0, c1⟩ := hf i hil
    have hzero := (hf 0 (by omega)).1
    obtain ⟨b, o, rfl⟩ := plain_of_cell (a := a) (by simpa using hzero)
    rw [add_at] at c0 c1
    exact ⟨b, o, rfl, World.block_lt_of_cell? w _ c0, c0, by simpa [Nat.add_assoc] using c1⟩
/-- cuts by value -/
theorem open_cuts {t e : TypeId} {f0 f1 : Field} {v : Value} {d : DataW H} {p : List MemPlace} (ht : P.underlying t = some (.slice e)) (he : P.underlying e = some (.struct #[f0, f1]))
    (hone : oneCellFields P #[f0, f1] = true) (hC : P.cellsOf e = 2) (h0 : P.underlying f0.type = some (.int .i64)) (h1 : P.underlying f1.type = some (.int .i64))
    {r : Reach} {b0 : Nat} (hv : Value.okWide P w r b0 t v) (h : DataW.Trod enc P w 0 (fun _ => true) true t v d p) :
    ∃ (A : Option Addr) (cap : Nat) (cs : List (Int × Int)), v = .slice A cs.length cap ∧ cs.length ≤ cap ∧ cap ≤ maxLen ∧ RC w w.heap.size A cs := by
  obtain ⟨a0, len0, cap0, rfl⟩ := okWide_slice ht hv
  obtain ⟨fuel, hf⟩ := h
  obtain ⟨A, cap, cs, hcs, hl, hm, hr⟩ := open_cutCells ht he hone hC h0 h1 hf
  simp [Value.cells] at hcs
  obtain ⟨rfl, rfl, rfl⟩ := hcs
  exact ⟨_, _, cs, rfl, hl, hm, hr⟩
end
end Go.Proofs.YtimccjmphdkbjaaDoor
