/- NodesOf, of the program and of its model. -/
import Derived.Test.YtnbihejoglgdhaaWD
set_option linter.unusedSimpArgs false
set_option linter.unusedVariables false
namespace Go.Proofs.Ytnbihejoglgdhaa
open Go.ChangeShapes Go.WideShapes Go.ChangeAt Go.RowKit

/-- the places of the first k ways, as far as they are of the set -/
def nodesTo (ws : List Wy) (s : Int) : Nat → Int
  | 0 => 0
  | k + 1 => match ws[k]? with
    | some x => if bit s k then ior (nodesTo ws s k) (wayPl x) else nodesTo ws s k
    | none => nodesTo ws s k
theorem nodesTo_yes {ws : List Wy} {s : Int} {k : Nat} {x : Wy} (hx : ws[k]? = some x) (hb : bit s k = true) : nodesTo ws s (k + 1) = ior (nodesTo ws s k) (wayPl x) := by
  simp only [nodesTo, hx, hb, if_true]
theorem nodesTo_no {ws : List Wy} {s : Int} {k : Nat} {x : Wy} (hx : ws[k]? = some x) (hb : bit s k = false) : nodesTo ws s (k + 1) = nodesTo ws s k := by
  simp [nodesTo, hx, hb]
theorem wayPl_bd {n : Int} {ws : List Wy} (hn : NetIs n ws) {x : Wy} {k : Nat} (hx : ws[k]? = some x) : 0 ≤ wayPl x ∧ wayPl x < 64 := by
  have h := hn.at_ hx
  have hh := hn.hi
  have ha := shl1_bd x.a (by omega)
  have hb := shl1_bd x.b (by omega)
  exact ior_bd _ _ 6 (by omega) (by omega)
theorem nodesTo_bd {n : Int} {ws : List Wy} (hn : NetIs n ws) (s : Int) : ∀ k, 0 ≤ nodesTo ws s k ∧ nodesTo ws s k < 64
  | 0 => by simp [nodesTo]
  | k + 1 => by
    have ih := nodesTo_bd hn s k
    cases hx : ws[k]? with
    | none => simp only [nodesTo, hx]; exact ih
    | some x =>
      cases hb : bit s k
      · rw [nodesTo_no hx hb]; exact ih
      · rw [nodesTo_yes hx hb]
        have := wayPl_bd hn hx
        exact ior_bd _ _ 6 (by omega) (by omega)
def nodesOf (n : Int) (ws : List Wy) (s : Int) : Int := if setOk n ws s = true then nodesTo ws s ws.length else -1

set_option maxHeartbeats 400000 in
theorem NodesOf_any (n s : Int) (A : Option Addr) (cap : Nat) (ws : List Wy) (w : World) (hr : RW w w.heap.size A ws) :
    Calls Try.prog 13 #[.agg #[.int .i64 n, .slice A ws.length cap], .int .i64 s] w fun e w' => e = .returned (.int .i64 (nodesOf n ws s)) ∧ Below w.heap.size w w' := by
  have HR := Lib.hid hr
  clear hr
  unfold nodesOf
  cases hn : setOk n ws s
  · have HN := Lib.hid hn
    clear hn
    go_enter Try.func13, Try.ntmps13
    go_wp2_with fail
    refine (waysOk_any _ _ _ _ _ _ (HR.out.later (by go_grown))).mono ?_; rintro e w1 ⟨rfl, hb1⟩
    rw [HN.out]
    obtain ⟨hc1, hf1⟩ := bcell hb1
    have hz1_0 : w.heap.size < w1.heap.size := by have hq := hb1.size; (try simp at hq); omega
    have HK1 := Lib.hid hb1
    have HB1 := Lib.hid (bstep (B := w.heap.size) (W := w) (by (try have hp := HB0.out); go_grown) (by go_size) hb1); clear hb1
    go_wp2_with fail
    go_ret
    exact ⟨rfl, HB1.out⟩
  · have HN := Lib.hid hn
    obtain ⟨hnet, hs0, hs1, hs2⟩ := setOk_t hn
    have HS := Lib.hid hnet
    have hl9 := hnet.len
    clear hn hnet
    go_enter Try.func13, Try.ntmps13
    go_wp2_with fail
    refine (waysOk_any _ _ _ _ _ _ (HR.out.later (by go_grown))).mono ?_; rintro e w1 ⟨rfl, hb1⟩
    rw [HN.out]
    obtain ⟨hc1, hf1⟩ := bcell hb1
    have hz1_0 : w.heap.size < w1.heap.size := by have hq := hb1.size; (try simp at hq); omega
    have HK1 := Lib.hid hb1
    have HB1 := Lib.hid (bstep (B := w.heap.size) (W := w) (by (try have hp := HB0.out); go_grown) (by go_size) hb1); clear hb1
    go_wp2_with fail
    go_loopw [5, 15] (fun c i wr => ∃ k : Nat, k ≤ ws.length ∧ i = .int .i64 k ∧ c = .int .i64 (nodesTo ws s k) ∧ Below w.heap.size w wr ∧ w.heap.size < wr.heap.size) (fun _ i _ => ws.length - (intOf i).toNat)
    case atStart => exact ⟨0, Nat.zero_le _, rfl, rfl, HB1.out, hz1_0⟩
    case round =>
      obtain ⟨k, hk, rfl, rfl, hb, hz⟩ := hrel
      by_cases hlt : k < ws.length
      · obtain ⟨x, hx⟩ : ∃ x, ws[k]? = some x := ⟨_, List.getElem?_eq_getElem hlt⟩
        obtain ⟨b, o, rfl, hB, c0, c1, c2⟩ := HR.out.below hb k x hx
        have HX := Lib.hid hx
        have hbd := nodesTo_bd HS.out s k
        have hbx := wayPl_bd HS.out hx
        have hxa := HS.out.at_ hx
        have h6 := HS.out.hi
        have ha0 : 0 ≤ x.a := by omega
        have ha1 : x.a ≤ 5 := by omega
        have hb0 : 0 ≤ x.b := by omega
        have hb1 : x.b ≤ 5 := by omega
        have HB0 := Lib.hid hb
        clear hx hb hxa
        cases hbit : bit s k
        · have HY := Lib.hid (nodesTo_no HX.out hbit)
          have Hbit := Lib.hid hbit
          clear hbit
          go_wp2_with fail
          refine (inSet_any _ _ (by omega) (by omega) hs0 (by omega) _).mono ?_; rintro e w' ⟨rfl, rfl⟩; rw [Hbit.out]
          go_wp2_with fail
          go_roundw
          case rel => exact ⟨k + 1, by omega, by go_num, by rw [HY.out], by have := HB0.out; go_grown, by go_size⟩
          case measure => simp [intOf]; omega
        · have HY := Lib.hid (nodesTo_yes HX.out hbit)
          have Hbit := Lib.hid hbit
          clear hbit
          go_wp2_with fail
          refine (inSet_any _ _ (by omega) (by omega) hs0 (by omega) _).mono ?_; rintro e w' ⟨rfl, rfl⟩; rw [Hbit.out]
          go_wp2_with fail
          refine (wayPlaces_any x ha0 ha1 hb0 hb1 _).mono ?_; rintro e w2 ⟨rfl, hb2⟩
          have hz2 : w.heap.size < w2.heap.size := by have hq := hb2.size; simp at hq; omega
          have HB2 := Lib.hid (bstep (B := w.heap.size) (W := w) (by have := HB0.out; go_grown) (by go_size) hb2)
          clear hb2
          go_wp2_with fail
          go_roundw
          case rel => exact ⟨k + 1, by omega, by go_num, by rw [HY.out, bits_or _ _ (by omega) (by omega) (by omega) (by omega)], HB2.out, hz2⟩
          case measure => simp [intOf]; omega
      · have hkl : k = ws.length := by omega
        subst hkl
        go_wp2_with fail
        go_ret
        exact ⟨rfl, hb⟩
theorem ior_assoc (a b c : Int) : ior (ior a b) c = ior a (ior b c) := by
  unfold ior
  simp only [Int.toNat_natCast]
  rw [Nat.or_assoc]

theorem or_shl (m : Int) (x : Wy) (h0 : 0 ≤ m) (h1 : m < 64) (ha0 : 0 ≤ x.a) (ha1 : x.a ≤ 5) (hb0 : 0 ≤ x.b) (hb1 : x.b ≤ 5) :
    bits .or .i64 (bits .or .i64 m (wrap64 (2 ^ x.a.toNat))) (wrap64 (2 ^ x.b.toNat)) = ior m (wayPl x) := by
  rw [wrap_shl1 _ ha1, wrap_shl1 _ hb1]
  have sa := shl1_bd x.a ha1
  have sb := shl1_bd x.b hb1
  have e3 := ior_bd m (shl1 x.a) 6 (by omega) (by omega)
  rw [bits_or m _ (by omega) (by omega) (by omega) (by omega), bits_or _ _ (by omega) (by omega) (by omega) (by omega), ior_assoc]
  rfl


end Go.Proofs.Ytnbihejoglgdhaa
