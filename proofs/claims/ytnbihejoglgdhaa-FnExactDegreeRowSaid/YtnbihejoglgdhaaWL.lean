/- LeavesOf, of the program and of its model. -/
import Derived.Test.YtnbihejoglgdhaaWG
import Derived.Test.YtnbihejoglgdhaaSets
set_option linter.unusedSimpArgs false
set_option linter.unusedVariables false
namespace Go.Proofs.Ytnbihejoglgdhaa
open Go.ChangeShapes Go.WideShapes Go.ChangeAt Go.RowKit

/-- the places of the first k ways, as far as they are of the set, and those that are met again -/
def lvTo (ws : List Wy) (s : Int) : Nat → Int × Int
  | 0 => (0, 0)
  | k + 1 => match ws[k]? with
    | some x => if bit s k then (ior (lvTo ws s k).1 (wayPl x), ior (lvTo ws s k).2 (iand (lvTo ws s k).1 (wayPl x))) else lvTo ws s k
    | none => lvTo ws s k
theorem lvTo_yes {ws : List Wy} {s : Int} {k : Nat} {x : Wy} (hx : ws[k]? = some x) (hb : bit s k = true) :
    (lvTo ws s (k + 1)).1 = ior (lvTo ws s k).1 (wayPl x) ∧ (lvTo ws s (k + 1)).2 = ior (lvTo ws s k).2 (iand (lvTo ws s k).1 (wayPl x)) := by
  simp only [lvTo, hx, hb, if_true]; exact ⟨trivial, trivial⟩
theorem lvTo_no {ws : List Wy} {s : Int} {k : Nat} {x : Wy} (hx : ws[k]? = some x) (hb : bit s k = false) : lvTo ws s (k + 1) = lvTo ws s k := by
  simp [lvTo, hx, hb]
theorem lvTo_bd {n : Int} {ws : List Wy} (hn : NetIs n ws) (s : Int) : ∀ k, (0 ≤ (lvTo ws s k).1 ∧ (lvTo ws s k).1 < 64) ∧ (0 ≤ (lvTo ws s k).2 ∧ (lvTo ws s k).2 < 64)
  | 0 => by simp [lvTo]
  | k + 1 => by
    have ih := lvTo_bd hn s k
    cases hx : ws[k]? with
    | none => simp only [lvTo, hx]; exact ih
    | some x =>
      cases hb : bit s k
      · rw [lvTo_no hx hb]; exact ih
      · rw [(lvTo_yes hx hb).1, (lvTo_yes hx hb).2]
        have hw := wayPl_bd hn hx
        have ha := iand_bd (lvTo ws s k).1 (wayPl x) ih.1.1
        exact ⟨ior_bd _ _ 6 (by omega) (by omega), ior_bd _ _ 6 (by omega) (by omega)⟩
/-- the places with just one way -/
def lvs (ws : List Wy) (s : Int) : Int := idiff (lvTo ws s ws.length).1 (lvTo ws s ws.length).2
def leavesOf (n : Int) (ws : List Wy) (s : Int) : Int := if setOk n ws s = true then lvs ws s else -1

set_option maxHeartbeats 1000000 in
theorem LeavesOf_any (n s : Int) (A : Option Addr) (cap : Nat) (ws : List Wy) (w : World) (hr : RW w w.heap.size A ws) :
    Calls Try.prog 11 #[.agg #[.int .i64 n, .slice A ws.length cap], .int .i64 s] w fun e w' => e = .returned (.int .i64 (leavesOf n ws s)) ∧ Below w.heap.size w w' := by
  have HR := Lib.hid hr
  clear hr
  unfold leavesOf
  cases hn : setOk n ws s
  · have HN := Lib.hid hn
    clear hn
    go_enter Try.func11, Try.ntmps11
    go_wp2_with fail
    refine (waysOk_any _ _ _ _ _ _ (HR.out.later (by go_grown))).mono ?_; rintro e w1 ⟨rfl, hb1⟩
    rw [HN.out]
    obtain ⟨hc1, hf1⟩ := bcell hb1
    have hz1_0 : w.heap.size < w1.heap.size := by have hq := hb1.size; (try simp at hq); omega
    have HK1 := Lib.hid hb1
    have HB1 := Lib.hid (bstep (B := w.heap.size) (W := w) (by (try have hp := HB0.out); go_grown) (by go_size) hb1); clear hb1
    go_wp2_with fail
    go_ret
    exact ⟨rfl, HB1.out⟩
  · have HN := Lib.hid hn
    obtain ⟨hnet, hs0, hs1, hs2⟩ := setOk_t hn
    have HS := Lib.hid hnet
    have hl9 := hnet.len
    clear hn hnet
    go_enter Try.func11, Try.ntmps11
    go_wp2_with fail
    refine (waysOk_any _ _ _ _ _ _ (HR.out.later (by go_grown))).mono ?_; rintro e w1 ⟨rfl, hb1⟩
    rw [HN.out]
    obtain ⟨hc1, hf1⟩ := bcell hb1
    have hz1_0 : w.heap.size < w1.heap.size := by have hq := hb1.size; (try simp at hq); omega
    have HK1 := Lib.hid hb1
    have HB1 := Lib.hid (bstep (B := w.heap.size) (W := w) (by (try have hp := HB0.out); go_grown) (by go_size) hb1); clear hb1
    go_wp2_with fail
    go_loopw [5, 6, 16] (fun o t i wr => ∃ k : Nat, k ≤ ws.length ∧ i = .int .i64 k ∧ o = .int .i64 (lvTo ws s k).1 ∧ t = .int .i64 (lvTo ws s k).2 ∧ Below w.heap.size w wr ∧ w.heap.size < wr.heap.size) (fun _ _ i _ => ws.length - (intOf i).toNat)
    case atStart => exact ⟨0, Nat.zero_le _, rfl, rfl, rfl, HB1.out, hz1_0⟩
    case round =>
      obtain ⟨k, hk, rfl, rfl, rfl, hb, hz⟩ := hrel
      by_cases hlt : k < ws.length
      · obtain ⟨x, hx⟩ : ∃ x, ws[k]? = some x := ⟨_, List.getElem?_eq_getElem hlt⟩
        obtain ⟨b, o, rfl, hB, c0, c1, c2⟩ := HR.out.below hb k x hx
        have HX := Lib.hid hx
        obtain ⟨⟨o0, o1⟩, ⟨t0, t1⟩⟩ := lvTo_bd HS.out s k
        have hbx := wayPl_bd HS.out hx
        have hxa := HS.out.at_ hx
        have h6 := HS.out.hi
        have ha0 : 0 ≤ x.a := by omega
        have ha1 : x.a ≤ 5 := by omega
        have hb0 : 0 ≤ x.b := by omega
        have hb1 : x.b ≤ 5 := by omega
        have HB0 := Lib.hid hb
        clear hx hb hxa
        cases hbit : bit s k
        · have HY := Lib.hid (lvTo_no HX.out hbit)
          have Hbit := Lib.hid hbit
          clear hbit
          go_wp2_with fail
          refine (inSet_any _ _ (by omega) (by omega) hs0 (by omega) _).mono ?_; rintro e w' ⟨rfl, rfl⟩; rw [Hbit.out]
          go_wp2_with fail
          go_roundw
          case rel => exact ⟨k + 1, by omega, by go_num, by rw [HY.out], by rw [HY.out], by have := HB0.out; go_grown, by go_size⟩
          case measure => simp [intOf]; omega
        · have HY := Lib.hid (lvTo_yes HX.out hbit)
          have Hbit := Lib.hid hbit
          have HA := Lib.hid (bits_and (lvTo ws s k).1 (wayPl x) (by omega) (by omega) (by omega) (by omega))
          have hab := iand_bd (lvTo ws s k).1 (wayPl x) (by omega)
          have HO := Lib.hid (bits_or (lvTo ws s k).2 (iand (lvTo ws s k).1 (wayPl x)) (by omega) (by omega) (by omega) (by omega))
          have HO2 := Lib.hid (bits_or (lvTo ws s k).1 (wayPl x) (by omega) (by omega) (by omega) (by omega))
          clear hbit hab
          go_wp2_with fail
          refine (inSet_any _ _ (by omega) (by omega) hs0 (by omega) _).mono ?_; rintro e w' ⟨rfl, rfl⟩; rw [Hbit.out]
          go_wp2_with fail
          refine (wayPlaces_any x ha0 ha1 hb0 hb1 _).mono ?_; rintro e w2 ⟨rfl, hb2⟩
          have hz2 : w.heap.size < w2.heap.size := by have hq := hb2.size; simp at hq; omega
          have hz2r : wr.heap.size < w2.heap.size := by have hq := hb2.size; simp at hq; omega
          obtain ⟨hc2, hf2⟩ := bcell hb2
          have HB2 := Lib.hid (bstep (B := w.heap.size) (W := w) (by have := HB0.out; go_grown) (by go_size) hb2)
          clear hb2
          go_wp2_with fail
          refine (wayPlaces_any x ha0 ha1 hb0 hb1 _).mono ?_; rintro e w3 ⟨rfl, hb3⟩
          have hz3 : w.heap.size < w3.heap.size := by have hq := hb3.size; omega
          have HB3 := Lib.hid (bstep (B := w.heap.size) (W := w) HB2.out (by omega) hb3)
          clear hb3
          go_wp2_with fail
          go_roundw
          case rel => exact ⟨k + 1, by omega, by go_num, by rw [HY.out.1, HO2.out], by rw [HY.out.2, HA.out, HO.out], HB3.out, hz3⟩
          case measure => simp [intOf]; omega
      · have hkl : k = ws.length := by omega
        subst hkl
        obtain ⟨⟨o0, o1⟩, ⟨t0, t1⟩⟩ := lvTo_bd HS.out s ws.length
        have HD : Hid (bits .andNot .i64 (lvTo ws s ws.length).1 (lvTo ws s ws.length).2 = lvs ws s) := bits_andNot _ _ (by omega) (by omega) (by omega) (by omega)
        have HB0 := Lib.hid hb
        clear hb
        go_wp2_with fail
        go_ret
        exact ⟨ret_int HD.out, HB0.out⟩

theorem two_shl (x : Wy) (ha0 : 0 ≤ x.a) (ha1 : x.a ≤ 5) (hb0 : 0 ≤ x.b) (hb1 : x.b ≤ 5) :
    bits .or .i64 (wrap64 (2 ^ x.a.toNat)) (wrap64 (2 ^ x.b.toNat)) = wayPl x := by
  rw [wrap_shl1 _ ha1, wrap_shl1 _ hb1]
  have sa := shl1_bd x.a ha1
  have sb := shl1_bd x.b hb1
  exact bits_or _ _ (by omega) (by omega) (by omega) (by omega)


end Go.Proofs.Ytnbihejoglgdhaa
