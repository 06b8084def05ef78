/- ReachOf, of the program and of its model. -/
import Derived.Test.YtbbomajgmgmigaaDoorWD
import Derived.Test.YtbbomajgmgmigaaDoorReach
set_option linter.unusedSimpArgs false
set_option linter.unusedVariables false
namespace Go.Proofs.YtbbomajgmgmigaaDoor
open Go.ChangeShapes Go.WideShapes Go.ChangeAt Go.RowKit

theorem wayPl_is (x : Wy) : wayPl x = ior (2 ^ x.a.toNat) (2 ^ x.b.toNat) := rfl
theorem wayPl_bd6 {n : Int} {ws : List Wy} (hn : NetIs n ws) {x : Wy} {k : Nat} (hx : ws[k]? = some x) : 0 ≤ wayPl x ∧ wayPl x < 64 := by
  have h := hn.at_ hx
  have hh := hn.hi
  have ha := shl1_bd x.a (by omega)
  have hb := shl1_bd x.b (by omega)
  exact ior_bd _ _ 6 (by omega) (by omega)

set_option maxHeartbeats 1000000 in
theorem wave_any (n s p r : Int) (A : Option Addr) (cap : Nat) (ws : List Wy) (w : World) (hr : RW w w.heap.size A ws) (hn : NetIs n ws) (h2 : 0 ≤ s) (h3 : s ≤ 1048576) (ho : OnWay ws s p r) :
    Calls Tryd.prog 76 #[.agg #[.int .i64 n, .slice A ws.length cap], .int .i64 s, .int .i64 r] w fun e w' => e = .returned (.int .i64 (waveTo ws s r ws.length)) ∧ Below w.heap.size w w' := by
  have HR := Lib.hid hr
  have HS := Lib.hid hn
  have HO := Lib.hid ho
  have hm := hn.len
  clear hr hn ho
  go_enter Tryd.func76, Tryd.ntmps76
  go_wp2_with fail
  go_loopw [2, 12] (fun c i wr => ∃ k : Nat, k ≤ ws.length ∧ i = .int .i64 k ∧ c = .int .i64 (waveTo ws s r k) ∧ Below w.heap.size w wr ∧ w.heap.size < wr.heap.size) (fun _ i _ => ws.length - (intOf i).toNat)
  case atStart => exact ⟨0, Nat.zero_le _, rfl, rfl, by go_grown, by simp⟩
  case round =>
    obtain ⟨k, hk, rfl, rfl, hb, hz⟩ := hrel
    by_cases hlt : k < ws.length
    · obtain ⟨x, hx⟩ : ∃ x, ws[k]? = some x := ⟨_, List.getElem?_eq_getElem hlt⟩
      obtain ⟨b, o, rfl, hB, c0, c1, c2⟩ := HR.out.below hb k x hx
      have HX := Lib.hid hx
      have hok := (waveTo_ok HS.out HO.out k).1
      have hv0 := hok.lo
      have hv1 := hok.hi
      have hbx := wayPl_bd6 HS.out hx
      have hxa := HS.out.at_ hx
      have h6 := HS.out.hi
      have ha0 : 0 ≤ x.a := by omega
      have ha1 : x.a ≤ 5 := by omega
      have hb0 : 0 ≤ x.b := by omega
      have hb1 : x.b ≤ 5 := by omega
      have HB0 := Lib.hid hb
      clear hx hb hxa hok
      cases hbit : bit s k
      · have HY := Lib.hid (waveTo_no (r := r) HX.out (by rw [hbit]; simp))
        have Hbit := Lib.hid hbit
        clear hbit
        go_wp2_with fail
        refine (inSet_any _ _ (by omega) (by omega) h2 h3 _).mono ?_; rintro e w' ⟨rfl, rfl⟩; rw [Hbit.out]
        go_wp2_with fail
        go_roundw
        case rel => exact ⟨k + 1, by omega, by go_num, by rw [HY.out], by have := HB0.out; go_grown, by go_size⟩
        case measure => simp [intOf]; omega
      · have HA := Lib.hid (bits_and (wayPl x) (waveTo ws s r k) (by omega) (by omega) (by omega) (by omega))
        have Hbit := Lib.hid hbit
        by_cases hi : iand (wayPl x) (waveTo ws s r k) = 0
        · have HY := Lib.hid (waveTo_no (r := r) HX.out (by rw [← wayPl_is]; intro hh; exact hh.2 hi))
          have HT : Hid ((bits .and .i64 (wayPl x) (waveTo ws s r k) != 0) = false) := by
            show (bits .and .i64 (wayPl x) (waveTo ws s r k) != 0) = false
            rw [HA.out, hi]; rfl
          clear hbit hi
          go_wp2_with fail
          refine (inSet_any _ _ (by omega) (by omega) h2 h3 _).mono ?_; rintro e w' ⟨rfl, rfl⟩; rw [Hbit.out]
          go_wp2_with fail
          refine (wayPlaces_any x ha0 ha1 hb0 hb1 _).mono ?_; rintro e w2 ⟨rfl, hb2⟩
          have hz2 : w.heap.size < w2.heap.size := by have hq := hb2.size; simp at hq; omega
          have HB2 := Lib.hid (bstep (B := w.heap.size) (W := w) (by have := HB0.out; go_grown) (by go_size) hb2)
          have ht := HT.out
          clear hb2
          go_wp2_with fail
          go_roundw
          case rel => exact ⟨k + 1, by omega, by go_num, by rw [HY.out], HB2.out, hz2⟩
          case measure => simp [intOf]; omega
        · have HY := Lib.hid (waveTo_yes (r := r) HX.out hbit (by rw [← wayPl_is]; exact hi))
          have HT : Hid ((bits .and .i64 (wayPl x) (waveTo ws s r k) != 0) = true) := by
            show (bits .and .i64 (wayPl x) (waveTo ws s r k) != 0) = true
            rw [HA.out]; simp [hi]
          have HO2 := Lib.hid (bits_or (waveTo ws s r k) (wayPl x) (by omega) (by omega) (by omega) (by omega))
          clear hbit hi
          go_wp2_with fail
          refine (inSet_any _ _ (by omega) (by omega) h2 h3 _).mono ?_; rintro e w' ⟨rfl, rfl⟩; rw [Hbit.out]
          go_wp2_with fail
          refine (wayPlaces_any x ha0 ha1 hb0 hb1 _).mono ?_; rintro e w2 ⟨rfl, hb2⟩
          have hz2 : w.heap.size < w2.heap.size := by have hq := hb2.size; simp at hq; omega
          have hz2r : wr.heap.size < w2.heap.size := by have hq := hb2.size; simp at hq; omega
          obtain ⟨hc2, hf2⟩ := bcell hb2
          have HB2 := Lib.hid (bstep (B := w.heap.size) (W := w) (by have := HB0.out; go_grown) (by go_size) hb2)
          have ht := HT.out
          clear hb2
          go_wp2_with fail
          refine (wayPlaces_any x ha0 ha1 hb0 hb1 _).mono ?_; rintro e w3 ⟨rfl, hb3⟩
          have hz3 : w.heap.size < w3.heap.size := by have hq := hb3.size; omega
          have HB3 := Lib.hid (bstep (B := w.heap.size) (W := w) HB2.out (by omega) hb3)
          clear hb3 hc2 hf2
          go_wp2_with fail
          go_roundw
          case rel => exact ⟨k + 1, by omega, by go_num, by rw [HY.out, HO2.out, wayPl_is], HB3.out, hz3⟩
          case measure => simp [intOf]; omega
    · have hkl : k = ws.length := by omega
      subst hkl
      go_wp2_with fail
      go_ret
      exact ⟨rfl, hb⟩

set_option maxHeartbeats 1000000 in
theorem setReach_any (n s p : Int) (A : Option Addr) (cap : Nat) (ws : List Wy) (w : World) (hr : RW w w.heap.size A ws) (hn : NetIs n ws) (h2 : 0 ≤ s) (h3 : s ≤ 1048576) (hp : 0 ≤ p) (hp' : p < n) :
    Calls Tryd.prog 63 #[.agg #[.int .i64 n, .slice A ws.length cap], .int .i64 s, .int .i64 p] w fun e w' => e = .returned (.int .i64 (reach ws s p)) ∧ Below w.heap.size w w' := by
  have HR := Lib.hid hr
  have HS := Lib.hid hn
  have h6 := hn.hi
  have hpw := pow_bd p 5 (by omega)
  have HST := Lib.hid (OnWay.start (s := s) hn hp hp')
  clear hr hn
  go_enter Tryd.func63, Tryd.ntmps63
  go_wp2_with fail
  go_loopw [7] (fun c wr => ∃ r : Int, c = .int .i64 r ∧ OnWay ws s p r ∧ Below (w.heap.size + 1) (w.alloc (.cells #[.int .i64 n, .slice A ws.length cap] 25)) wr) (fun c _ => (64 - intOf c).toNat)
  case atStart => exact ⟨_, rfl, HST.out, Below.refl _ _⟩
  case round =>
    obtain ⟨r, rfl, hon, hb⟩ := hrel
    obtain ⟨hb1, b0, b1, hz⟩ := box2 hb
    have HO := Lib.hid hon
    have HB0 := Lib.hid hb
    have hr0 := hon.lo
    have hr1 := hon.hi
    have hok := (waveTo_ok HS.out hon ws.length).1
    have hge := (waveTo_ok HS.out hon ws.length).2
    have hv1 := hok.hi
    have HK := Lib.hid hok
    have HRR := Lib.hid (HR.out.later hb1)
    clear hon hb hb1 hok
    by_cases he : waveTo ws s r ws.length = r
    · have HE := Lib.hid he
      have HT : Hid ((waveTo ws s r ws.length == r) = true) := by
        show (waveTo ws s r ws.length == r) = true
        rw [he]; simp
      clear he hge hv1
      go_wp2_with fail
      refine (wave_any n s p r A cap ws _ HRR.out HS.out h2 h3 HO.out).mono ?_; rintro e w2 ⟨rfl, hb2⟩
      have HB2 := Lib.hid (bstep (B := w.heap.size) (W := w) (box2 HB0.out).1 (by omega) hb2)
      have ht := HT.out
      clear hb2
      go_wp2_with fail
      go_ret
      exact ⟨ret_int (wave_end HS.out HO.out HE.out).eq, HB2.out⟩
    · have hlt : r < waveTo ws s r ws.length := by omega
      have HT : Hid ((waveTo ws s r ws.length == r) = false) := by
        show (waveTo ws s r ws.length == r) = false
        simp [he]
      clear he hge
      go_wp2_with fail
      refine (wave_any n s p r A cap ws _ HRR.out HS.out h2 h3 HO.out).mono ?_; rintro e w2 ⟨rfl, hb2⟩
      have HB2 := Lib.hid (bstep (B := w.heap.size + 1) (W := w.alloc (.cells #[.int .i64 n, .slice A ws.length cap] 25)) HB0.out (by omega) hb2)
      have ht := HT.out
      clear hb2
      go_wp2_with fail
      go_roundw
      case rel => exact ⟨_, rfl, HK.out, HB2.out⟩
      case measure => simp [intOf]; omega

noncomputable def reachOf (n : Int) (ws : List Wy) (s p : Int) : Int := if setOk n ws s = true ∧ hasPl n p = true then reach ws s p else -1
end Go.Proofs.YtbbomajgmgmigaaDoor
