/- The walk of FnCodeLeaves. -/
import Derived.Test.YtimccjmphdkbjaaPcI
import Derived.Test.YtimccjmphdkbjaaPdB
import Derived.Test.YtimccjmphdkbjaaWLab
set_option linter.unusedSimpArgs false
set_option linter.unusedVariables false
attribute [local go_sem ↓] Go.wp_at_zero Go.wp_at_succ
namespace Go.Proofs.Ytimccjmphdkbjaa
open Go.ChangeShapes Go.WideShapes Go.ChangeAt Go.RowKit

set_option maxHeartbeats 1000000 in
theorem hasInt_any (A : Option Addr) (cap : Nat) (cs : List Int) (x : Int) (w : World) (h : RI w w.heap.size A cs) (hm : cs.length ≤ 1048576) :
    Calls Try.prog 14 #[.slice A cs.length cap, .int .i64 x] w fun e w' => e = .returned (.bool (cs.contains x)) ∧ Below w.heap.size w w' := by
  have HF := Lib.hid h
  obtain ⟨an, han⟩ : ∃ a, cs.contains x = a := ⟨_, rfl⟩
  have HT : Hid (∀ k y, cs[k]? = some y → y = x → an = true) := fun k y hy e => by
    rw [← han, ← e]
    exact List.contains_iff_mem.2 (List.mem_of_getElem? hy)
  have HN : Hid ((∀ k y, cs[k]? = some y → y ≠ x) → an = false) := fun h => by
    rw [← han]
    cases h9 : cs.contains x
    · rfl
    · obtain ⟨k, hk⟩ := List.mem_iff_getElem?.1 (List.contains_iff_mem.1 h9)
      exact absurd rfl (h k x hk)
  rw [han]
  clear h han
  go_enter Try.func14, Try.ntmps14
  go_wp2_with fail
  go_loopw [5] (fun i wr => ∃ k : Nat, k ≤ cs.length ∧ i = .int .i64 (k : Int) ∧ (∀ j y, j < k → cs[j]? = some y → y ≠ x) ∧ Below w.heap.size w wr) (fun i _ => cs.length - (intOf i).toNat)
  case atStart => exact ⟨0, Nat.zero_le _, rfl, fun j y hj => by omega, Below.refl _ _⟩
  case round =>
    obtain ⟨k, hk, rfl, hno, hb⟩ := hrel
    have HB := Lib.hid hb
    have HNO := Lib.hid hno
    have hk0 : (0 : Int) ≤ (k : Int) := by omega
    by_cases hlt : k < cs.length
    · have hk1 : (k : Int) < (cs.length : Int) := by omega
      obtain ⟨y, hy⟩ : ∃ y, cs[k]? = some y := ⟨_, List.getElem?_eq_getElem hlt⟩
      obtain ⟨b, o, rfl, hB, c0⟩ := (HF.out.below hb).at_ hlt
      rw [getD_at hy] at c0
      have HY := Lib.hid hy
      clear hy hb hno
      by_cases e : y = x
      · have HA := Lib.hid (HT.out k y HY.out e)
        have e1 : (y == x) = true := by simp [e]
        clear e
        go_wp2_with fail
        go_ret
        exact ⟨ret_bool HA.out.symm, HB.out⟩
      · have HNX : Hid (∀ j z, j < k + 1 → cs[j]? = some z → z ≠ x) := fun j z hj hz => by
          by_cases hjk : j = k
          · subst hjk; rw [HY.out] at hz; obtain rfl := Option.some.inj hz; exact e
          · exact HNO.out j z (by omega) hz
        have e1 : (y == x) = false := by simp [e]
        clear e
        go_wp2_with fail
        go_roundw
        case rel => exact ⟨k + 1, by omega, by go_num, HNX.out, HB.out⟩
        case measure => (simp [intOf]) <;> omega
    · obtain rfl : k = cs.length := by omega
      have HA := Lib.hid (HN.out (fun j y hy => hno j y (List.getElem?_eq_some_iff.1 hy).1 hy))
      clear hno hb
      go_wp2_with fail
      go_ret
      exact ⟨ret_bool HA.out.symm, HB.out⟩
set_option maxRecDepth 100000 in
set_option maxHeartbeats 4000000 in
theorem FnCodeLeaves_walk (A : Option Addr) (len cap : Nat) (w : World) (hr : RB w w.heap.size A len) (hc : len ≤ cap) (hlen : len ≤ 9223372036854775807) :
    Calls Try.prog 4 #[.slice A len cap] w fun e w' => e = .returned (.bool true) ∧ Below w.heap.size w w' := by
  have HR := Lib.hid hr
  clear hr
  by_cases hm : 1048576 < len
  · go_enter Try.func4, Try.ntmps4
    go_wp2_with fail
    go_ret
    exact ⟨rfl, Below.refl _ _⟩
  · go_enter Try.func4, Try.ntmps4
    go_wp2_with fail
    refine (DrawTreeOfCode_any A len cap _ HR.out hc (by omega)).mono ?_
    rintro e wd ⟨P, bc, cc, cs, rfl, hri, h5, p1, p7, -, -, hbd⟩
    have HRI := Lib.hid hri
    have HBD := Lib.hid hbd
    clear hri hbd hm
    cases hok : codeOk P cs
    · have htn := treeOf_none hok
      go_wp2_with fail
      refine (TreeOfCode_any P _ cc cs _ HRI.out (by omega)).mono ?_
      intro e1 w1 h1
      rw [htn] at h1
      obtain ⟨A1, c1, rfl, hb1⟩ := h1
      have HB1 := Lib.hid (bstep (B := w.heap.size) (W := w) HBD.out HBD.out.size hb1)
      clear hb1 htn hok
      go_wp2_with fail
      refine (alive_any _).mono ?_; rintro e5 w5 ⟨rfl, hb5⟩
      have HB5 := Lib.hid (bstep (B := w.heap.size) (W := w) HB1.out HB1.out.size hb5)
      clear hb5
      go_wp2_with fail
      go_ret
      exact ⟨rfl, HB5.out⟩
    · obtain ⟨m, rfl, h2, h6, _⟩ := codeOk_t hok
      obtain ⟨L, hL, _, hlo, _, hdeg⟩ := tree_of_code hok
      obtain ⟨m', em, _, _, hsh, _⟩ := linksOk_t hlo
      obtain rfl : m = m' := by omega
      have hll := (shape_at hsh).1
      have HIL : Hid (∀ p, p ∈ L → InP m p) := fun p hp => shape_in hsh hp
      have hl5 : L.length ≤ 5 := by omega
      have HDEG := Lib.hid hdeg
      have HLL := Lib.hid hll
      clear hlo hok hdeg hsh em hll
      go_wp2_with fail
      refine (TreeOfCode_any (m : Int) _ cc cs _ HRI.out (by omega)).mono ?_
      intro e1 w1 h1
      rw [hL] at h1
      obtain ⟨A1, c1, lo1, hi1, rfl, hrf1, -, hb1⟩ := h1
      have HB1 := Lib.hid (bstep (B := w.heap.size) (W := w) HBD.out HBD.out.size hb1)
      have HR1 := Lib.hid (HRI.out.later hb1)
      have HA1 := Lib.hid hrf1.rc
      clear hb1 hrf1 hL
      go_wp2_with fail
      go_loopw [7] (fun i wr => ∃ p : Nat, p ≤ m ∧ i = .int .i64 (p : Int) ∧ Below w1.heap.size w1 wr) (fun i _ => m - (intOf i).toNat)
      case atStart => exact ⟨0, Nat.zero_le _, rfl, Below.refl _ _⟩
      case round =>
        obtain ⟨p, hp, rfl, hb⟩ := hrel
        have HBW := Lib.hid hb
        have hp0 : (0 : Int) ≤ (p : Int) := by omega
        clear hb
        by_cases hlt : p < m
        · have hp1 : (p : Int) < (m : Int) := by omega
          go_wp2_with fail
          go_loopw [8, 9] (fun c i w9 => ∃ k : Nat, k ≤ L.length ∧ i = .int .i64 (k : Int) ∧ c = .int .i64 (degL (L.take k) (p : Int)) ∧ w9 = wr) (fun _ i _ => L.length - (intOf i).toNat)
          case atStart => exact ⟨0, Nat.zero_le _, rfl, rfl, rfl⟩
          case round =>
            obtain ⟨k, hk, rfl, hc9, rfl⟩ := hrel
            have hk0 : (0 : Int) ≤ (k : Int) := by omega
            obtain ⟨D, hD⟩ : ∃ D, degL (L.take k) (p : Int) = D := ⟨_, rfl⟩
            have hdb := degL_bd (L.take k) (p : Int)
            have hlk : (L.take k).length ≤ 5 := by rw [List.length_take]; omega
            rw [hD] at hc9 hdb
            subst hc9
            have HD := Lib.hid hD
            have hd10 : 0 ≤ D ∧ D ≤ 10 := by omega
            clear hD hdb hlk
            by_cases hlk : k < L.length
            · have hk1 : (k : Int) < (L.length : Int) := by omega
              obtain ⟨⟨pa, pb⟩, hx⟩ : ∃ x, L[k]? = some x := ⟨_, List.getElem?_eq_getElem hlk⟩
              obtain ⟨x0, x1, x2⟩ := HIL.out _ (List.mem_of_getElem? hx)
              simp only at x0 x1 x2
              obtain ⟨b, o, rfl, hB, c0, c1'⟩ := (HA1.out.below HBW.out) k _ hx
              simp only at c0 c1'
              have HST : Hid (degL (L.take (k + 1)) (p : Int) = D + ((if pa = (p : Int) then 1 else 0) + (if pb = (p : Int) then 1 else 0))) := by show _ = _; rw [degL_take hx, HD.out]
              have HV1 : Hid (IntKind.i64.wrap (D + 1) = D + 1) := IntWalk.i64_in _ ⟨by omega, by omega⟩
              have HV2 : Hid (wrap64 (D + 1) = D + 1) := IntWalk.wrap64_in _ ⟨by omega, by omega⟩
              clear hx
              by_cases ea : pa = (p : Int)
              · have HS2 : Hid (degL (L.take (k + 1)) (p : Int) = D + 1) := by show _ = _; rw [HST.out, if_pos ea, if_neg (by omega)]; omega
                have e1 : (pa == (p : Int)) = true := by simp [ea]
                clear ea x0 x1 x2 hd10
                have hv1 := HV1.out
                have hv2 := HV2.out
                go_wp2_with fail
                clear hv1 hv2
                go_roundw
                case rel => exact ⟨k + 1, by omega, by go_num, by rw [HS2.out], by first | rfl | trivial⟩
                case measure => (simp [intOf]) <;> omega
              · have e1 : (pa == (p : Int)) = false := by simp [ea]
                by_cases eb : pb = (p : Int)
                · have HS2 : Hid (degL (L.take (k + 1)) (p : Int) = D + 1) := by show _ = _; rw [HST.out, if_neg ea, if_pos eb]; omega
                  have e2 : (pb == (p : Int)) = true := by simp [eb]
                  clear ea eb x0 x1 x2 hd10
                  have hv1 := HV1.out
                  have hv2 := HV2.out
                  go_wp2_with fail
                  clear hv1 hv2
                  go_roundw
                  case rel => exact ⟨k + 1, by omega, by go_num, by rw [HS2.out], by first | rfl | trivial⟩
                  case measure => (simp [intOf]) <;> omega
                · have HS2 : Hid (degL (L.take (k + 1)) (p : Int) = D) := by show _ = _; rw [HST.out, if_neg ea, if_neg eb]; omega
                  have e2 : (pb == (p : Int)) = false := by simp [eb]
                  clear ea eb x0 x1 x2 hd10
                  go_wp2_with fail
                  go_roundw
                  case rel => exact ⟨k + 1, by omega, by go_num, by rw [HS2.out], by first | rfl | trivial⟩
                  case measure => (simp [intOf]) <;> omega
            · obtain rfl : k = L.length := by omega
              have HDE : Hid ((D == 1) = !(cs.contains (p : Int))) := by
                have h9 := HDEG.out p hlt
                have h8 := HD.out
                rw [List.take_length] at h8
                rw [h8] at h9
                exact h9
              obtain ⟨hz, hhz⟩ : ∃ hz, cs.contains (p : Int) = hz := ⟨_, rfl⟩
              have HHZ := Lib.hid hhz
              rw [hhz] at HDE
              clear hhz hd10
              have hde := HDE.out
              cases hz
              all_goals
                (simp only [Bool.not_true, Bool.not_false] at hde)
                go_wp2_with fail
                refine (hasInt_any _ cc cs (p : Int) _ (HR1.out.later HBW.out) (by omega)).mono ?_; rintro e7 w7 ⟨rfl, hb7⟩; rw [HHZ.out]
                have HBW7 := Lib.hid (HBW.out.trans (hb7.mono HBW.out.size))
                clear hb7
                go_wp2_with fail
                go_roundw
                case rel => exact ⟨p + 1, by omega, by go_num, HBW7.out⟩
                case measure => (simp [intOf]) <;> omega
        · obtain rfl : p = m := by omega
          have hll := HLL.out
          have HW1 : Hid (IntKind.i64.wrap ((p : Int) - 1) = (L.length : Int)) := by show _ = _; rw [IntWalk.i64_in _ ⟨by omega, by omega⟩]; omega
          have HW2 : Hid (wrap64 ((p : Int) - 1) = (L.length : Int)) := by show _ = _; rw [IntWalk.wrap64_in _ ⟨by omega, by omega⟩]; omega
          have HBX := Lib.hid (bstep (B := w.heap.size) (W := w) HB1.out HB1.out.size HBW.out)
          clear hll
          have hw1 := HW1.out
          have hw2 := HW2.out
          go_wp2_with fail
          refine (alive_any _).mono ?_; rintro e8 w8 ⟨rfl, hb8⟩
          have HB8 := Lib.hid (bstep (B := w.heap.size) (W := w) HBX.out HBX.out.size hb8)
          clear hb8
          go_wp2_with fail
          clear hw1 hw2
          go_ret
          exact ⟨rfl, HB8.out⟩
end Go.Proofs.Ytimccjmphdkbjaa
