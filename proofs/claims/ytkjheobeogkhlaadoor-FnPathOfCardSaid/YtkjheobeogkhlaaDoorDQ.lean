/- Pruned of the model. -/
import Derived.Test.YtkjheobeogkhlaaDoorDP
set_option linter.unusedSimpArgs false
set_option linter.unusedVariables false
namespace Go.Proofs.YtkjheobeogkhlaaDoor
open Go.ChangeShapes Go.WideShapes Go.ChangeAt Go.RowKit

theorem sub_bit_all : ∀ (u : Fin 512) (k : Fin 9), u.val.testBit k.val = true → u.val &&& (u.val ^^^ 2 ^ k.val) = u.val - 2 ^ k.val := by decide +kernel
/-- one member taken out -/
theorem idiff_one {u : Int} {k : Nat} (h0 : 0 ≤ u) (h1 : u < 512) (hk : k < 9) (hb : bit u k = true) : idiff u (2 ^ k) = u - 2 ^ k ∧ (2 : Int) ^ k ≤ u := by
  obtain ⟨x, rfl⟩ := Int.eq_ofNat_of_zero_le h0
  have hb' : x.testBit k = true := by simpa [bit] using hb
  have h := sub_bit_all ⟨x, by omega⟩ ⟨k, hk⟩ hb'
  simp only at h
  have hge : 2 ^ k ≤ x := Nat.ge_two_pow_of_testBit hb'
  have e : ((2 : Int) ^ k) = ((2 ^ k : Nat) : Int) := by simp
  unfold idiff
  rw [e, Int.toNat_natCast, Int.toNat_natCast, h]
  omega
theorem idiff_ior (t m v : Int) (ht : 0 ≤ t) : idiff t (ior m v) = idiff (idiff t m) v := by
  have h1 := idiff_bd t m ht
  refine set_ext (idiff_bd _ _ ht).1 (idiff_bd _ _ h1.1).1 fun q hq => ?_
  rw [bit_idiff, bit_idiff, bit_idiff, bit_ior]
  cases bit t q <;> cases bit m q <;> cases bit v q <;> rfl
theorem idiff_none (t : Int) (ht : 0 ≤ t) : idiff t 0 = t := by
  refine set_ext (idiff_bd _ _ ht).1 ht fun q hq => ?_
  rw [bit_idiff, bit_zero_]
  cases bit t q <;> rfl
theorem iand_comm (a b : Int) : iand a b = iand b a := by unfold iand; rw [Nat.and_comm]
theorem atTo_at (ws : List Wy) (t p : Int) (k : Nat) (ht : 0 ≤ t) : bit (idiff t (atTo ws t p k)) k = bit t k := by
  have h := atTo_bd ws t p k
  rw [bit_idiff, bit_big h.1 h.2 (Int.le_refl _)]
  simp
theorem ior_ne0 (a : Int) (k : Nat) : ior a (2 ^ k) ≠ 0 := by
  intro h
  have h1 : bit (ior a (2 ^ k)) k = true := by rw [bit_ior, bit_shlN k k (by omega)]; simp
  rw [h, bit_zero_] at h1; cases h1

set_option maxHeartbeats 2000000 in
theorem l2Pruned_any (n s e : Int) (A : Option Addr) (cap : Nat) (ws : List Wy) (w : World) (hr : RW w w.heap.size A ws) (hn : NetIs n ws) (h2 : 0 ≤ s) (h3 : s ≤ 511) (he0 : 0 ≤ e) (he1 : e < 64) :
    Calls Tryd.prog 59 #[.agg #[.int .i64 n, .slice A ws.length cap], .int .i64 s, .int .i64 e] w fun en w' => en = .returned (.int .i64 (pr ws e s)) ∧ Below w.heap.size w w' := by
  have HR := Lib.hid hr
  have HS := Lib.hid hn
  have hl9 := hn.len
  clear hr hn
  go_enter Tryd.func59, Tryd.ntmps59
  go_wp2_with fail
  go_loopw [1, 7] (fun c ag wr => ∃ (t : Int) (a : Bool), c = .int .i64 t ∧ ag = .bool a ∧ 0 ≤ t ∧ t ≤ s ∧ pr ws e t = pr ws e s ∧ (a = false → pr ws e t = t) ∧ Below (w.heap.size + 1) (w.alloc (.cells #[.int .i64 n, .slice A ws.length cap] 25)) wr) (fun c ag _ => (intOf c).toNat * 2 + boolN ag)
  case atStart => exact ⟨s, true, rfl, rfl, h2, Int.le_refl _, rfl, (fun h => by cases h), Below.refl _ _⟩
  case round =>
    obtain ⟨t, a, rfl, rfl, ht0, ht1, hpr, hend, hb⟩ := hrel
    obtain ⟨hb1, b0, b1, hz⟩ := box2 hb
    have HPR := Lib.hid hpr
    have HEND := Lib.hid hend
    have HB0 := Lib.hid hb
    have HB00 := Lib.hid hb1
    clear hpr hend hb hb1
    cases a
    · go_wp2_with fail
      go_ret
      exact ⟨ret_int (by rw [← HPR.out]; first | exact (HEND.out rfl).symm | exact (HEND.out trivial).symm), HB00.out⟩
    · obtain ⟨wo, rfl⟩ : ∃ wo : World, wo = wr := ⟨_, rfl⟩
      have HRR := Lib.hid (HR.out.later HB00.out)
      have hlb := lvs_bd HS.out t
      have hlb0 := hlb.1
      have hlb1 := hlb.2
      obtain ⟨p, hpd⟩ : ∃ p : Int, bits .andNot .i64 (lvs ws t) e = p := ⟨_, rfl⟩
      have hpi : p = idiff (lvs ws t) e := by rw [← hpd]; exact bits_andNot (lvs ws t) e (by omega) (by omega) (by omega) (by omega)
      have hdb := idiff_bd (lvs ws t) e hlb.1
      rw [← hpi] at hdb
      have hp0 := hdb.1
      have hp1 : p < 64 := by omega
      have HN : Hid (atTo ws t p ws.length = needl ws e t) := by rw [hpi]; rfl
      clear hpi hdb hlb
      go_wp2_with fail
      refine (l2Leaves_any n t A cap ws _ (HRR.out.later (by go_grown)) HS.out ht0 (by omega)).mono ?_
      rintro e2 w2 ⟨rfl, hb2⟩
      have HB2 := Lib.hid (bstep (B := w.heap.size + 1) (W := w.alloc (.cells #[.int .i64 n, .slice A ws.length cap] 25)) (by have := HB0.out; go_grown) (by go_size) hb2)
      obtain ⟨hb3, c0, c1, hz3⟩ := box2 HB2.out
      clear hb2 hb3
      go_wp2_with fail
      clear hpd
      go_loopw [1, 7, 9] (fun c ag i wr => ∃ k : Nat, k ≤ ws.length ∧ i = .int .i64 k ∧ c = .int .i64 (idiff t (atTo ws t p k)) ∧ ag = .bool (!(atTo ws t p k == 0)) ∧ Below (w.heap.size + 1) (w.alloc (.cells #[.int .i64 n, .slice A ws.length cap] 25)) wr) (fun _ _ i _ => ws.length - (intOf i).toNat)
      case atStart => exact ⟨0, Nat.zero_le _, rfl, by rw [atTo, idiff_none t ht0], rfl, HB2.out⟩
      case round =>
        clear c0 c1 b0 b1 hz3 hz
        obtain ⟨k, hk, rfl, rfl, rfl, hb⟩ := hrel
        obtain ⟨hb1, b0, b1, hz⟩ := box2 hb
        have HBK := Lib.hid hb
        have hu := idiff_bd t (atTo ws t p k) ht0
        have HU := Lib.hid (atTo_at ws t p k ht0)
        have HIO := Lib.hid (idiff_ior t (atTo ws t p k) (2 ^ k) ht0)
        obtain ⟨u, hud⟩ : ∃ u : Int, idiff t (atTo ws t p k) = u := ⟨_, rfl⟩
        have HUD := Lib.hid hud
        rw [hud] at hu
        have hu0 := hu.1
        have hu1 : u ≤ 511 := by omega
        by_cases hlt : k < ws.length
        · obtain ⟨x, hx⟩ : ∃ x, ws[k]? = some x := ⟨_, List.getElem?_eq_getElem hlt⟩
          obtain ⟨b, o, rfl, hB, c0, c1, c2⟩ := HR.out.below hb1 k x hx
          have HX := Lib.hid hx
          have hxa := HS.out.at_ hx
          have ha0 : 0 ≤ x.a := by have := HS.out.hi; omega
          have ha1 : x.a ≤ 5 := by have := HS.out.hi; omega
          have hb0 : 0 ≤ x.b := by have := HS.out.hi; omega
          have hb5 : x.b ≤ 5 := by have := HS.out.hi; omega
          have hq0 : 0 ≤ u / 2 ^ k := (div_pow_bd u k hu0).1
          have hq1 : (u / 2 ^ k % 2 == 1) = bit u k := bit_mod_nat u k hu0
          have hbx := wayPl_bd HS.out hx
          have hk0 : (0 : Int) ≤ (k : Int) := by omega
          have hk1 : (k : Int) < (ws.length : Int) := by omega
          have HTW := Lib.hid (two_shl x ha0 ha1 hb0 hb5)
          have HAND : Hid (bits .and .i64 p (wayPl x) = iand (wayPl x) p) := by
            show bits .and .i64 p (wayPl x) = _
            rw [bits_and p (wayPl x) (by omega) (by omega) (by omega) (by omega), iand_comm]
          have hux : bit u k = bit t k := by rw [← hud]; exact HU.out
          clear hx hxa hb1 hb hu
          rw [hud]
          clear hud
          cases hbit : bit t k
          · rw [hux, hbit] at hq1
            have HY := Lib.hid (atTo_no (p := p) HX.out (s := t) (by rw [hbit]; simp))
            clear hbit hux
            go_wp2_with fail
            go_quiet (fail)
            go_wp2_with fail
            go_roundw
            case rel => exact ⟨k + 1, by omega, by go_num, by rw [HY.out, HUD.out], by rw [HY.out], below_drewN HBK.out _⟩
            case measure => simp [intOf]; omega
          · rw [hux, hbit] at hq1
            have htw := HTW.out
            by_cases hi : iand (wayPl x) p = 0
            · have HY := Lib.hid (atTo_no (p := p) (s := t) HX.out (by intro hh; exact hh.2 hi))
              have hne : (bits .and .i64 p (wayPl x) != 0) = false := by rw [HAND.out, hi]; rfl
              clear hbit hux hi
              go_wp2_with fail
              go_quiet (fail)
              go_wp2_with fail
              go_roundw
              case rel => exact ⟨k + 1, by omega, by go_num, by rw [HY.out, HUD.out], by rw [HY.out], below_drewN HBK.out _⟩
              case measure => simp [intOf]; omega
            · have HY := Lib.hid (atTo_yes (p := p) (s := t) HX.out hbit hi)
              have hne : (bits .and .i64 p (wayPl x) != 0) = true := by rw [HAND.out]; simp [hi]
              have HONE := Lib.hid (idiff_one (u := u) (k := k) hu0 (by omega) (by omega) (by rw [hux]; exact hbit))
              have hpk := pow_bd (k : Int) 8 (by omega)
              rw [Int.toNat_natCast] at hpk
              have hge : (2 : Int) ^ k ≤ u := HONE.out.2
              have HNZ := Lib.hid (ior_ne0 (atTo ws t p k) k)
              clear hbit hux hi
              go_wp2_with fail
              go_quiet (fail)
              go_wp2_with fail
              go_roundw
              case rel => exact ⟨k + 1, by omega, by go_num, by rw [HY.out, HIO.out, HUD.out, HONE.out.1], by rw [HY.out]; simp [HNZ.out], below_drewN HBK.out _⟩
              case measure => simp [intOf]; omega
        · have hkl : k = ws.length := by omega
          subst hkl
          rw [HN.out] at HUD
          clear hb hb1 hu
          by_cases hz0 : needl ws e t = 0
          · have hzt : u = t := by rw [← HUD.out, hz0, idiff_none t ht0]
            have HD := Lib.hid (pr_done ht0 hz0)
            subst hzt
            have hag : (!(atTo ws u p ws.length == 0)) = false := by rw [HN.out, hz0]; rfl
            rw [hag, hud]
            clear hz0 hag hud
            go_wp2_with fail
            go_roundw
            case rel => exact ⟨u, false, rfl, rfl, ht0, ht1, HPR.out, (fun _ => HD.out), HBK.out⟩
            case measure => simp [intOf, boolN]
          · have HD := Lib.hid (pr_step ht0 hz0)
            have hl := needl_less ht0 hz0
            have hag : (!(atTo ws t p ws.length == 0)) = true := by rw [HN.out]; simp [hz0]
            rw [hag, hud]
            rw [HUD.out] at hl
            clear hz0 hag hud
            go_wp2_with fail
            go_roundw
            case rel => exact ⟨u, true, rfl, rfl, hl.1, by omega, by rw [← HPR.out, HD.out, HUD.out], (fun h => by cases h), HBK.out⟩
            case measure => simp [intOf, boolN]; omega

set_option maxHeartbeats 1000000 in
theorem sPruned_any (n s e : Int) (A : Option Addr) (cap : Nat) (ws : List Wy) (w : World) (hr : RW w w.heap.size A ws) (hm : ws.length ≤ 1073741824) :
    Calls Tryd.prog 17 #[.agg #[.int .i64 n, .slice A ws.length cap], .int .i64 s, .int .i64 e] w fun en w' => en = .returned (.int .i64 (prunedOf n ws s e)) ∧ Below w.heap.size w w' := by
  have HR := Lib.hid hr
  clear hr
  unfold prunedOf
  cases ht : treeOk n ws s
  · have HT0 := Lib.hid ht
    rw [Bool.false_and, if_neg (by simp)]
    clear ht
    go_enter Tryd.func17, Tryd.ntmps17
    go_wp2_with fail
    refine (sTreeOk_any _ _ _ _ _ _ (HR.out.later (by go_grown)) hm).mono ?_; rintro e w1 ⟨rfl, hb1⟩
    rw [HT0.out]
    obtain ⟨hc1, hf1⟩ := bcell hb1
    have hz1_0 : w.heap.size < w1.heap.size := by have hq := hb1.size; (try simp at hq); omega
    have HK1 := Lib.hid hb1
    have HB1 := Lib.hid (bstep (B := w.heap.size) (W := w) (by (try have hp := HB0.out); go_grown) (by go_size) hb1); clear hb1
    go_wp2_with fail
    go_ret
    exact ⟨rfl, HB1.out⟩
  · have HT0 := Lib.hid ht
    have hso : setOk n ws s = true := by unfold treeOk at ht; simp only [Bool.and_eq_true] at ht; exact ht.1
    obtain ⟨hnet, hs0, hs1, hs2⟩ := setOk_t hso
    have hno : netOk n ws = true := by unfold setOk at hso; simp only [Bool.and_eq_true] at hso; exact hso.1.1
    have HS := Lib.hid hnet
    have hn6 := hnet.hi
    have hn0 := hnet.lo
    have hpn := pow_bd n 6 (by omega)
    rw [Bool.true_and]
    clear ht hnet hso
    cases hp : plOk n e
    · have HP : Hid ((netOk n ws && plOk n e) = false) := by show (netOk n ws && plOk n e) = false; rw [hp]; simp
      rw [if_neg (by simp)]
      clear hp hpn hno
      go_enter Tryd.func17, Tryd.ntmps17
      go_wp2_with fail
      refine (sTreeOk_any _ _ _ _ _ _ (HR.out.later (by go_grown)) hm).mono ?_; rintro e w1 ⟨rfl, hb1⟩
      rw [HT0.out]
      obtain ⟨hc1, hf1⟩ := bcell hb1
      have hz1_0 : w.heap.size < w1.heap.size := by have hq := hb1.size; (try simp at hq); omega
      have HK1 := Lib.hid hb1
      have HB1 := Lib.hid (bstep (B := w.heap.size) (W := w) (by (try have hp := HB0.out); go_grown) (by go_size) hb1); clear hb1
      go_wp2_with fail
      refine (l1EndsOk_any _ _ _ _ _ _ (HR.out.later (by have := HB1.out; go_grown)) hm).mono ?_; rintro e w2 ⟨rfl, hb2⟩
      rw [HP.out]
      obtain ⟨hc2, hf2⟩ := bcell hb2
      have hz2_0 : w.heap.size < w2.heap.size := by have hq := hb2.size; (try simp at hq); omega
      have HK2 := Lib.hid hb2
      have HB2 := Lib.hid (bstep (B := w.heap.size) (W := w) (by have hp := HB1.out; go_grown) (by go_size) hb2); clear hb2
      go_wp2_with fail
      go_ret
      exact ⟨rfl, HB2.out⟩
    · have HP : Hid ((netOk n ws && plOk n e) = true) := by show (netOk n ws && plOk n e) = true; rw [hp, hno]; rfl
      obtain ⟨he0, he1⟩ := plOk_t hp
      have he2 : e < 64 := by omega
      rw [if_pos rfl]
      clear hp he1 hpn hno
      go_enter Tryd.func17, Tryd.ntmps17
      go_wp2_with fail
      refine (sTreeOk_any _ _ _ _ _ _ (HR.out.later (by go_grown)) hm).mono ?_; rintro e w1 ⟨rfl, hb1⟩
      rw [HT0.out]
      obtain ⟨hc1, hf1⟩ := bcell hb1
      have hz1_0 : w.heap.size < w1.heap.size := by have hq := hb1.size; (try simp at hq); omega
      have HK1 := Lib.hid hb1
      have HB1 := Lib.hid (bstep (B := w.heap.size) (W := w) (by (try have hp := HB0.out); go_grown) (by go_size) hb1); clear hb1
      go_wp2_with fail
      refine (l1EndsOk_any _ _ _ _ _ _ (HR.out.later (by have := HB1.out; go_grown)) hm).mono ?_; rintro e w2 ⟨rfl, hb2⟩
      rw [HP.out]
      obtain ⟨hc2, hf2⟩ := bcell hb2
      have hz2_0 : w.heap.size < w2.heap.size := by have hq := hb2.size; (try simp at hq); omega
      have HK2 := Lib.hid hb2
      have HB2 := Lib.hid (bstep (B := w.heap.size) (W := w) (by have hp := HB1.out; go_grown) (by go_size) hb2); clear hb2
      go_wp2_with fail
      refine (l2Pruned_any n s e A cap ws _ (HR.out.later (by have := HB2.out; go_grown)) HS.out hs0 hs2 he0 he2).mono ?_; rintro e w3 ⟨rfl, hb3⟩
      obtain ⟨hc3, hf3⟩ := bcell hb3
      have hz3_0 : w.heap.size < w3.heap.size := by have hq := hb3.size; (try simp at hq); omega
      have HK3 := Lib.hid hb3
      have HB3 := Lib.hid (bstep (B := w.heap.size) (W := w) (by have hp := HB2.out; go_grown) (by go_size) hb3); clear hb3
      go_wp2_with fail
      go_ret
      exact ⟨rfl, HB3.out⟩
end Go.Proofs.YtkjheobeogkhlaaDoor
