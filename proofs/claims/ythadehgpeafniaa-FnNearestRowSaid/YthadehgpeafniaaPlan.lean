/- The order in which a region's operations are taken, laid down ahead as a list: so that each step is written once. -/
import Derived.Deep.RegionHeld
namespace Go.Proofs.Ythadehgpeafniaa
open Go
section
variable {P : Program} {ops : Array Oper} {Q : Exit → Act → World → Prop} {md : Region.Mode} {S : World → Prop}
/-- what is left to be taken: each operation's number, and whether its guard lets it -/
def Plan (_ : List (Nat × Bool)) (p : Prop) : Prop := p
theorem plan_start (is : List (Nat × Bool)) {p : Prop} (h : Plan is p) : p := h
theorem plan_end {p : Prop} (h : p) : Plan [] p := h
theorem plan_take {is : List (Nat × Bool)} {i : Nat} {oi : Oper} {v : Value} {fuel : Nat} {listed : Array Bool} {a : Act} {w : World} (hi : ops[i]? = some oi)
    (hs : Region.noSelect ops = true) (hf : Region.free md ops listed i = true) (hr : (Region.ready md ops listed).contains i = true)
    (hQ : ∀ c a w, Q (.panic c) (a.put oi.dst v) w → Q (.panic c) a w) (hy : YieldsIf P ops S oi v a) (hS : S w)
    (h : Plan is (wpAnyH P md ops Q S fuel (listed.setIfInBounds i true) (a.put oi.dst v) w)) : Plan ((i, true) :: is) (wpAnyH P md ops Q S (fuel + 1) listed a w) := wpAnyH_take hi hs hf hr hQ hy hS h
theorem plan_bar {is : List (Nat × Bool)} {i : Nat} {oi : Oper} {fuel : Nat} {listed : Array Bool} {a : Act} {w : World} (hi : ops[i]? = some oi)
    (hs : Region.noSelect ops = true) (hf : Region.free md ops listed i = true) (hr : (Region.ready md ops listed).contains i = true)
    (hQ : ∀ c a w, Q (.panic c) (a.put oi.dst undef) w → Q (.panic c) a w) (hy : YieldsIf P ops S oi undef a) (hS : S w)
    (h : Plan is (wpAnyH P md ops Q S fuel (listed.setIfInBounds i true) (a.put oi.dst undef) w)) : Plan ((i, false) :: is) (wpAnyH P md ops Q S (fuel + 1) listed a w) := wpAnyH_take hi hs hf hr hQ hy hS h
end
end Go.Proofs.Ythadehgpeafniaa
