/- NodesOf, of the program and of its model. LeavesOf, of the program and of its model. ReachOf, of the program and of its model. ReachOf of the model. -/
import Derived.Test.YthadehgpeafniabWC
import Derived.Test.YthadehgpeafniabMA
set_option linter.unusedSimpArgs false
set_option linter.unusedVariables false
namespace Go.Proofs.Ythadehgpeafniab
open Go.ChangeShapes Go.WideShapes Go.ChangeAt Go.RowKit

theorem full_wrap (len : Nat) (h : len ≤ 20) : wrap64 (wrap64 (2 ^ len) - 1) = full len := by
  have hp := pow_bd (len : Int) 20 (by omega)
  rw [Int.toNat_natCast] at hp
  have e1 : wrap64 (2 ^ len) = 2 ^ len := IntWalk.wrap64_in _ ⟨by omega, by omega⟩
  rw [e1]
  exact IntWalk.wrap64_in _ ⟨by omega, by omega⟩

end Go.Proofs.Ythadehgpeafniab
namespace Go.Proofs.Ythadehgpeafniab
open Go.ChangeShapes Go.WideShapes Go.ChangeAt Go.RowKit

/-- the places of the first k ways, as far as they are of the set -/
def nodesTo (ws : List Wy) (s : Int) : Nat → Int
  | 0 => 0
  | k + 1 => match ws[k]? with
    | some x => if bit s k then ior (nodesTo ws s k) (wayPl x) else nodesTo ws s k
    | none => nodesTo ws s k
theorem nodesTo_yes {ws : List Wy} {s : Int} {k : Nat} {x : Wy} (hx : ws[k]? = some x) (hb : bit s k = true) : nodesTo ws s (k + 1) = ior (nodesTo ws s k) (wayPl x) := by
  simp only [nodesTo, hx, hb, if_true]
theorem nodesTo_no {ws : List Wy} {s : Int} {k : Nat} {x : Wy} (hx : ws[k]? = some x) (hb : bit s k = false) : nodesTo ws s (k + 1) = nodesTo ws s k := by
  simp [nodesTo, hx, hb]
theorem wayPl_bd {n : Int} {ws : List Wy} (hn : NetIs n ws) {x : Wy} {k : Nat} (hx : ws[k]? = some x) : 0 ≤ wayPl x ∧ wayPl x < 64 := by
  have h := hn.at_ hx
  have hh := hn.hi
  have ha := shl1_bd x.a (by omega)
  have hb := shl1_bd x.b (by omega)
  exact ior_bd _ _ 6 (by omega) (by omega)
theorem nodesTo_bd {n : Int} {ws : List Wy} (hn : NetIs n ws) (s : Int) : ∀ k, 0 ≤ nodesTo ws s k ∧ nodesTo ws s k < 64
  | 0 => by simp [nodesTo]
  | k + 1 => by
    have ih := nodesTo_bd hn s k
    cases hx : ws[k]? with
    | none => simp only [nodesTo, hx]; exact ih
    | some x =>
      cases hb : bit s k
      · rw [nodesTo_no hx hb]; exact ih
      · rw [nodesTo_yes hx hb]
        have := wayPl_bd hn hx
        exact ior_bd _ _ 6 (by omega) (by omega)
def nodesOf (n : Int) (ws : List Wy) (s : Int) : Int := if setOk n ws s = true then nodesTo ws s ws.length else -1

theorem ior_assoc (a b c : Int) : ior (ior a b) c = ior a (ior b c) := by
  unfold ior
  simp only [Int.toNat_natCast]
  rw [Nat.or_assoc]

theorem or_shl (m : Int) (x : Wy) (h0 : 0 ≤ m) (h1 : m < 64) (ha0 : 0 ≤ x.a) (ha1 : x.a ≤ 5) (hb0 : 0 ≤ x.b) (hb1 : x.b ≤ 5) :
    bits .or .i64 (bits .or .i64 m (wrap64 (2 ^ x.a.toNat))) (wrap64 (2 ^ x.b.toNat)) = ior m (wayPl x) := by
  rw [wrap_shl1 _ ha1, wrap_shl1 _ hb1]
  have sa := shl1_bd x.a ha1
  have sb := shl1_bd x.b hb1
  have e3 := ior_bd m (shl1 x.a) 6 (by omega) (by omega)
  rw [bits_or m _ (by omega) (by omega) (by omega) (by omega), bits_or _ _ (by omega) (by omega) (by omega) (by omega), ior_assoc]
  rfl


end Go.Proofs.Ythadehgpeafniab
namespace Go.Proofs.Ythadehgpeafniab
open Go.ChangeShapes Go.WideShapes Go.ChangeAt Go.RowKit

/-- the places of the first k ways, as far as they are of the set, and those that are met again -/
def lvTo (ws : List Wy) (s : Int) : Nat → Int × Int
  | 0 => (0, 0)
  | k + 1 => match ws[k]? with
    | some x => if bit s k then (ior (lvTo ws s k).1 (wayPl x), ior (lvTo ws s k).2 (iand (lvTo ws s k).1 (wayPl x))) else lvTo ws s k
    | none => lvTo ws s k
theorem lvTo_yes {ws : List Wy} {s : Int} {k : Nat} {x : Wy} (hx : ws[k]? = some x) (hb : bit s k = true) :
    (lvTo ws s (k + 1)).1 = ior (lvTo ws s k).1 (wayPl x) ∧ (lvTo ws s (k + 1)).2 = ior (lvTo ws s k).2 (iand (lvTo ws s k).1 (wayPl x)) := by
  simp only [lvTo, hx, hb, if_true]; exact ⟨trivial, trivial⟩
theorem lvTo_no {ws : List Wy} {s : Int} {k : Nat} {x : Wy} (hx : ws[k]? = some x) (hb : bit s k = false) : lvTo ws s (k + 1) = lvTo ws s k := by
  simp [lvTo, hx, hb]
theorem lvTo_bd {n : Int} {ws : List Wy} (hn : NetIs n ws) (s : Int) : ∀ k, (0 ≤ (lvTo ws s k).1 ∧ (lvTo ws s k).1 < 64) ∧ (0 ≤ (lvTo ws s k).2 ∧ (lvTo ws s k).2 < 64)
  | 0 => by simp [lvTo]
  | k + 1 => by
    have ih := lvTo_bd hn s k
    cases hx : ws[k]? with
    | none => simp only [lvTo, hx]; exact ih
    | some x =>
      cases hb : bit s k
      · rw [lvTo_no hx hb]; exact ih
      · rw [(lvTo_yes hx hb).1, (lvTo_yes hx hb).2]
        have hw := wayPl_bd hn hx
        have ha := iand_bd (lvTo ws s k).1 (wayPl x) ih.1.1
        exact ⟨ior_bd _ _ 6 (by omega) (by omega), ior_bd _ _ 6 (by omega) (by omega)⟩
/-- the places with just one way -/
def lvs (ws : List Wy) (s : Int) : Int := idiff (lvTo ws s ws.length).1 (lvTo ws s ws.length).2
def leavesOf (n : Int) (ws : List Wy) (s : Int) : Int := if setOk n ws s = true then lvs ws s else -1


theorem two_shl (x : Wy) (ha0 : 0 ≤ x.a) (ha1 : x.a ≤ 5) (hb0 : 0 ≤ x.b) (hb1 : x.b ≤ 5) :
    bits .or .i64 (wrap64 (2 ^ x.a.toNat)) (wrap64 (2 ^ x.b.toNat)) = wayPl x := by
  rw [wrap_shl1 _ ha1, wrap_shl1 _ hb1]
  have sa := shl1_bd x.a ha1
  have sb := shl1_bd x.b hb1
  exact bits_or _ _ (by omega) (by omega) (by omega) (by omega)


end Go.Proofs.Ythadehgpeafniab
namespace Go.Proofs.Ythadehgpeafniab
open Go.ChangeShapes Go.WideShapes Go.ChangeAt Go.RowKit

theorem wayPl_is (x : Wy) : wayPl x = ior (2 ^ x.a.toNat) (2 ^ x.b.toNat) := rfl
theorem wayPl_bd6 {n : Int} {ws : List Wy} (hn : NetIs n ws) {x : Wy} {k : Nat} (hx : ws[k]? = some x) : 0 ≤ wayPl x ∧ wayPl x < 64 := by
  have h := hn.at_ hx
  have hh := hn.hi
  have ha := shl1_bd x.a (by omega)
  have hb := shl1_bd x.b (by omega)
  exact ior_bd _ _ 6 (by omega) (by omega)



noncomputable def reachOf (n : Int) (ws : List Wy) (s p : Int) : Int := if setOk n ws s = true ∧ hasPl n p = true then reach ws s p else -1
end Go.Proofs.Ythadehgpeafniab
namespace Go.Proofs.Ythadehgpeafniab
open Go.ChangeShapes Go.WideShapes Go.ChangeAt Go.RowKit

theorem bit_one {s i : Int} (h0 : 0 ≤ i) (h2 : 0 ≤ s) (h : bit s i = true) : s / 2 ^ i.toNat % 2 = 1 ∧ (s / 2 ^ i.toNat).tmod 2 = 1 := by
  have := bit_mod s i h0 h2
  rw [h] at this
  have e : s / 2 ^ i.toNat % 2 = 1 := by simpa using this
  exact ⟨e, by rw [Int.tmod_eq_emod_of_nonneg (div_pow_bd s i.toNat h2).1]; exact e⟩
theorem bit_zero {s i : Int} (h0 : 0 ≤ i) (h2 : 0 ≤ s) (h : bit s i = false) : s / 2 ^ i.toNat % 2 = 0 ∧ (s / 2 ^ i.toNat).tmod 2 = 0 := by
  have := bit_mod s i h0 h2
  rw [h] at this
  have e : s / 2 ^ i.toNat % 2 ≠ 1 := by simpa using this
  have e' : s / 2 ^ i.toNat % 2 = 0 := by omega
  exact ⟨e', by rw [Int.tmod_eq_emod_of_nonneg (div_pow_bd s i.toNat h2).1]; exact e'⟩
def boolN : Value → Nat
  | .bool true => 1
  | _ => 0
/-- after k ways of a round that began with r0 -/
def Inner (ws : List Wy) (s p r0 : Int) (k : Nat) (r : Int) (ag : Bool) : Prop :=
  OnWay ws s p r ∧ (ag = false → r = r0 ∧ ∀ (j : Nat) (x : Wy), j < k → ws[j]? = some x → bit s j = true → bit r x.a = bit r x.b) ∧ (ag = true → r0 < r)
theorem Inner.start {ws : List Wy} {s p r0 : Int} (h : OnWay ws s p r0) : Inner ws s p r0 0 r0 false := ⟨h, fun _ => ⟨rfl, fun j x hj => by omega⟩, fun h => by cases h⟩
theorem Inner.pass {ws : List Wy} {s p r0 r : Int} {k : Nat} {ag : Bool} (h : Inner ws s p r0 k r ag) {x : Wy} (hx : ws[k]? = some x) (hc : bit s k = true → bit r x.a = bit r x.b) : Inner ws s p r0 (k + 1) r ag :=
  ⟨h.1, fun ha => ⟨(h.2.1 ha).1, fun j y hj hy hb => by
    by_cases hjk : j = k
    · subst hjk; rw [hx] at hy; injection hy with hy; subst hy; exact hc hb
    · exact (h.2.1 ha).2 j y (by omega) hy hb⟩, h.2.2⟩
theorem ior_ne {r a b : Int} (hr : 0 ≤ r) (ha : 0 ≤ a) (hb : 0 ≤ b) (h : bit r a ≠ bit r b) : ior r (ior (2 ^ a.toNat) (2 ^ b.toNat)) ≠ r := by
  intro e
  have h1 : bit (ior r (ior (2 ^ a.toNat) (2 ^ b.toNat))) a = true := by rw [bit_ior, bit_ior, bit_shl a a ha ha]; simp
  have h2 : bit (ior r (ior (2 ^ a.toNat) (2 ^ b.toNat))) b = true := by rw [bit_ior, bit_ior, bit_shl b b hb hb]; simp
  rw [e] at h1 h2
  exact h (h1.trans h2.symm)
theorem Inner.take {n : Int} {ws : List Wy} {s p r0 r : Int} {k : Nat} {ag : Bool} (hn : NetIs n ws) (h : Inner ws s p r0 k r ag) {x : Wy} (hx : ws[k]? = some x) (hb : bit s k = true) (hd : bit r x.a ≠ bit r x.b) :
    Inner ws s p r0 (k + 1) (ior r (wayPl x)) true := by
  obtain ⟨a0, _, b0, _⟩ := hn.at_ hx
  have ht : bit r x.a = true ∨ bit r x.b = true := by
    cases h1 : bit r x.a <;> cases h2 : bit r x.b <;> simp_all
  have hge := ior_ge r (wayPl x) h.1.lo
  have hne := ior_ne h.1.lo a0 b0 hd
  refine ⟨h.1.step hn hx hb ht, (fun hh => by cases hh), fun _ => ?_⟩
  rw [wayPl_is] at *
  cases ag
  · have := (h.2.1 rfl).1; omega
  · have := h.2.2 rfl; omega
theorem ior_assoc' (a b c : Int) : ior (ior a b) c = ior a (ior b c) := by
  unfold ior
  simp only [Int.toNat_natCast]
  rw [Nat.or_assoc]
theorem or_shl' (m : Int) (x : Wy) (h0 : 0 ≤ m) (h1 : m < 64) (ha0 : 0 ≤ x.a) (ha1 : x.a ≤ 5) (hb0 : 0 ≤ x.b) (hb1 : x.b ≤ 5) :
    bits .or .i64 (bits .or .i64 m (wrap64 (2 ^ x.a.toNat))) (wrap64 (2 ^ x.b.toNat)) = ior m (wayPl x) := by
  rw [wrap_shl1 _ ha1, wrap_shl1 _ hb1]
  have sa := shl1_bd x.a ha1
  have sb := shl1_bd x.b hb1
  have e3 := ior_bd m (shl1 x.a) 6 (by omega) (by omega)
  rw [bits_or m _ (by omega) (by omega) (by omega) (by omega), bits_or _ _ (by omega) (by omega) (by omega) (by omega), ior_assoc']
  rfl

end Go.Proofs.Ythadehgpeafniab
