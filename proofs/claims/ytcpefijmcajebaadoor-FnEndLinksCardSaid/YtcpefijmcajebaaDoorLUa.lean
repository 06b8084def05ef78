/- The law of EndLinks: each end is linked once, newly, to one that was linked before; told exactly if there is a root. -/
import Derived.Test.YtcpefijmcajebaaDoorEnI
import Derived.Test.YtcpefijmcajebaaDoorEnL
import Derived.Test.YtcpefijmcajebaaDoorWXe
import Derived.Test.YtcpefijmcajebaaDoorWC
import Derived.Test.YtcpefijmcajebaaDoorMC
import Derived.Test.YtcpefijmcajebaaDoorLN
import Derived.Test.YtcpefijmcajebaaDoorTg
import Derived.Test.YtcpefijmcajebaaDoorMD
set_option linter.unusedSimpArgs false
set_option linter.unusedVariables false
attribute [local go_sem ↓] Go.wp_at_zero Go.wp_at_succ
namespace Go.Proofs.YtcpefijmcajebaaDoor
open Go.ChangeShapes Go.WideShapes Go.ChangeAt Go.RowKit

set_option maxRecDepth 100000 in
set_option maxHeartbeats 16000000 in
theorem FnEndLinks_walk (A : Option Addr) (len cap : Nat) (w : World) (hr : RB w w.heap.size A len) (hc : len ≤ cap) (hlen : len ≤ 9223372036854775807) (hT : Tab w) :
    Calls Tryd.prog 3 #[.slice A len cap] w fun e w' => e = .returned (.bool true) ∧ Below w.heap.size w w' := by
  have HR := Lib.hid hr
  have HT := Lib.hid hT
  clear hr hT
  by_cases hm : 1048576 < len
  · go_enter Tryd.func3, Tryd.ntmps3
    go_wp2_with fail
    go_ret
    exact ⟨rfl, Below.refl _ _⟩
  · go_enter Tryd.func3, Tryd.ntmps3
    go_wp2_with fail
    refine (DrawEndLinks_any A len cap _ HR.out hc (by omega)).mono ?_
    rintro e wd ⟨nn, ee, A', c', ws, rfl, hrw, hl10, hcc, hn0, hn7, hs0, hs1, hbd⟩
    have HRW := Lib.hid hrw
    have HBD := Lib.hid hbd
    have HTD := Lib.hid (HT.out.later hbd)
    have hzd : w.heap.size ≤ wd.heap.size := hbd.size
    clear hrw hbd
    cases hl : endLinks nn ws ee with
    | none =>
      have HC := Lib.hid (endLinks_none hl)
      have HL := Lib.hid hl
      clear hl
      go_wp2_with fail
      refine (EndLinks_any nn ee A' c' ws _ (HRW.out.later (by go_grown))).mono ?_
      rw [HL.out]
      rintro en w1 ⟨A1, c1, rfl, hb1⟩
      have k1 : w1.cell? ⟨wd.heap.size, 0, none⟩ = some (.int .i64 nn) ∧ w1.cell? ⟨wd.heap.size, 1, none⟩ = some (.slice A' ws.length c') := by
        obtain ⟨hc1, hf1⟩ := bcell hb1
        exact ⟨by go_simp, by go_simp⟩
      have hz1 : wd.heap.size < w1.heap.size := by have hq := hb1.size; (try simp at hq); omega
      have HB1 := Lib.hid (bstep (B := wd.heap.size) (W := wd) (by go_grown) (by go_size) hb1)
      clear hb1
      obtain ⟨k10, k11⟩ := k1
      go_wp2_with fail
      refine (sEndLinks_any nn ee A' c' ws _ (HRW.out.later HB1.out) (by omega)).mono ?_
      rw [HL.out]
      rintro en w2 ⟨A2, c2, rfl, hb2⟩
      obtain ⟨k20, k21⟩ := keep2 hb2 ⟨k10, k11⟩ hz1
      have hz2 := Nat.lt_of_lt_of_le hz1 hb2.size
      have HB2 := Lib.hid (bstep (B := wd.heap.size) (W := wd) HB1.out (Nat.le_of_lt hz1) hb2)
      clear hb2
      go_wp2_with fail
      refine (sameRows_0 _ _ _ _ _).mono ?_; rintro en w3 ⟨rfl, hb3⟩
      obtain ⟨k30, k31⟩ := keep2 hb3 ⟨k20, k21⟩ hz2
      have hz3 := Nat.lt_of_lt_of_le hz2 hb3.size
      have HB3 := Lib.hid (bstep (B := wd.heap.size) (W := wd) HB2.out (Nat.le_of_lt hz2) hb3)
      clear hb3
      go_wp2_with fail
      refine (RootCost_any _ _ _ _ _ _ (HRW.out.later HB3.out) (HTD.out.later HB3.out)).mono ?_; rintro en w4 ⟨rfl, hb4⟩; rw [HC.out]
      have hz4 := Nat.lt_of_lt_of_le hz3 hb4.size
      have HB4 := Lib.hid (bstep (B := wd.heap.size) (W := wd) HB3.out (Nat.le_of_lt hz3) hb4)
      clear hb4
      go_wp2_with fail
      refine (alive_any _).mono ?_; rintro en w5 ⟨rfl, hb5⟩
      have HB5 := Lib.hid (bstep (B := wd.heap.size) (W := wd) HB4.out (Nat.le_of_lt hz4) hb5)
      go_wp2_with fail
      go_ret
      exact ⟨rfl, bstep HBD.out hzd HB5.out⟩
    | some L =>
      obtain ⟨m, rfl⟩ : ∃ m : Nat, nn = m := ⟨nn.toNat, by omega⟩
      obtain ⟨g1, g2, g3, g4, g5, -, -, -, -, g10, g11, g12, g13, -⟩ := endLinks_some hl
      have hm6 : m ≤ 6 := by have := g1.hi; omega
      have hp6 := Nat.pow_le_pow_right (n := 2) (by omega) hm6
      have e2 : ((2 : Int) ^ m) = ((2 ^ m : Nat) : Int) := by simp
      have he64 : ee < 64 := by omega
      have hst := (st_rc g1 g2 g3).2
      have hst64 : stE ee < 64 := by omega
      have hst0 := hst.1
      obtain ⟨Z, hZ⟩ : ∃ Z, rc ws ee = Z := ⟨_, rfl⟩
      rw [hZ] at g4 g5
      have hps : (ee = 0 ∧ stE ee = 0) ∨ (ee ≠ 0 ∧ pop (stE ee) = 1) := by
        by_cases he : ee = 0
        · exact .inl ⟨he, by rw [he]; exact stE_zero⟩
        · obtain ⟨j, hj, h1, -⟩ := stE_is hm6 g2 g3 he
          exact .inr ⟨he, by rw [h1]; exact pop_one hm6 hj⟩
      obtain ⟨K, hK⟩ : ∃ K, pop ee = K := ⟨_, rfl⟩
      rw [hK] at g10
      have hkb := pop_bd ee
      rw [hK] at hkb
      have hmax : max (K - 1) 0 = (L.length : Int) := by
        rcases hps with ⟨h1, h2⟩ | ⟨h1, h2⟩
        · rw [h2, pop_zero] at g10
          have : K = 0 := by rw [← hK, h1, pop_zero]
          omega
        · rw [h2] at g10; omega
      have hmax1 : ((L.length : Int) == max (K - 1) 0) = true := by rw [hmax]; simp
      have HC := Lib.hid g4
      have HK := Lib.hid hK
      have HL := Lib.hid hl
      have HLO := Lib.hid g12
      have hneg : IntKind.i64.wrap (-ee) = -ee := IntWalk.i64_in _ ⟨by omega, by omega⟩
      have hste : bits .and .i64 ee (-ee) = stE ee := rfl
      obtain ⟨I0, hI0⟩ : ∃ I, stE ee = I := ⟨_, rfl⟩
      rw [hI0] at hste hst0 hst64 HLO
      have HST := Lib.hid hste
      have HNEG := Lib.hid hneg
      clear hl g1 g3 g4 g10 g12 hp6 e2 hst hZ hps hK hI0 hste hneg
      go_wp2_with fail
      refine (EndLinks_any m ee A' c' ws _ (HRW.out.later (by go_grown))).mono ?_
      rw [HL.out]
      rintro en w1 ⟨A1, c1, rfl, hl1, hb1⟩
      have k1 : w1.cell? ⟨wd.heap.size, 0, none⟩ = some (.int .i64 m) ∧ w1.cell? ⟨wd.heap.size, 1, none⟩ = some (.slice A' ws.length c') := by
        obtain ⟨hc1, hf1⟩ := bcell hb1
        exact ⟨by go_simp, by go_simp⟩
      have hz1 : wd.heap.size < w1.heap.size := by have hq := hb1.size; (try simp at hq); omega
      have HB1 := Lib.hid (bstep (B := wd.heap.size) (W := wd) (by go_grown) (by go_size) hb1)
      clear hb1
      obtain ⟨k10, k11⟩ := k1
      go_wp2_with fail
      refine (sEndLinks_any m ee A' c' ws _ (HRW.out.later HB1.out) (by omega)).mono ?_
      rw [HL.out]
      rintro en w2 ⟨A2, c2, rfl, hl2, hb2⟩
      obtain ⟨k20, k21⟩ := keep2 hb2 ⟨k10, k11⟩ hz1
      have hz2 := Nat.lt_of_lt_of_le hz1 hb2.size
      have HB2 := Lib.hid (bstep (B := wd.heap.size) (W := wd) HB1.out (Nat.le_of_lt hz1) hb2)
      have HKB := Lib.hid hb2
      clear hb2
      by_cases hLe : L = []
      · subst hLe
        have hIe : I0 = ee := HLO.out
        clear hl1 hl2
        go_wp2_with fail
        refine (sameRows_0 _ _ _ _ _).mono ?_; rintro en w3 ⟨rfl, hb3⟩
        obtain ⟨k30, k31⟩ := keep2 hb3 ⟨k20, k21⟩ hz2
        have hz3 := Nat.lt_of_lt_of_le hz2 hb3.size
        have HB3 := Lib.hid (bstep (B := wd.heap.size) (W := wd) HB2.out (Nat.le_of_lt hz2) hb3)
        clear hb3
        have hste := HST.out
        have hneg := HNEG.out
        rw [hIe] at hste
        go_wp2_with fail
        clear hste hneg
        refine wp_loop_rounds 1 ?_
        rw [rounds_succ]
        go_wp2_with fail
        refine (lSizeOf_any ee g2 (by omega) _).mono ?_; rintro en w4 ⟨rfl, rfl⟩; rw [HK.out]
        go_wp2_with fail
        refine (RootCost_any _ _ _ _ _ _ (HRW.out.later HB3.out) (HTD.out.later HB3.out)).mono ?_; rintro en w5 ⟨rfl, hb5⟩; rw [HC.out]
        have HB5 := Lib.hid (bstep (B := wd.heap.size) (W := wd) HB3.out (Nat.le_of_lt hz3) hb5)
        go_wp2_with fail
        go_ret
        exact ⟨rfl, bstep HBD.out hzd HB5.out⟩
      · obtain ⟨T1, R1, C1, lo1, hi1, rfl, ht1, hlo1⟩ := hl1.resolve_left hLe
        obtain ⟨T2, R2, C2, lo2, hi2, rfl, ht2, hlo2⟩ := hl2.resolve_left hLe
        have HT1 := Lib.hid (ht1.below HKB.out)
        have HT2 := Lib.hid ht2
        clear hl1 hl2 ht1 ht2
        have hLl : 0 < L.length := List.length_pos_iff.2 hLe
        go_wp2_with fail
        refine (sameRowsR_any HT1.out HT2.out (by omega) (by omega)).mono ?_; rintro en w3 ⟨rfl, hb3⟩
        obtain ⟨k30, k31⟩ := keep2 hb3 ⟨k20, k21⟩ hz2
        have hz3 := Nat.lt_of_lt_of_le hz2 hb3.size
        have HT3 := Lib.hid (HT1.out.below hb3)
        have HB3 := Lib.hid (bstep (B := wd.heap.size) (W := wd) HB2.out (Nat.le_of_lt hz2) hb3)
        clear hb3 HT1 HT2
        have hste := HST.out
        have hneg := HNEG.out
        go_wp2_with fail
        clear hste hneg
        go_loopw [9, 10] (fun c i wr => ∃ (k : Nat) (I : Int), k ≤ L.length ∧ c = .int .i64 I ∧ 0 ≤ I ∧ I < 64 ∧ LinkOk ee I (L.drop k) ∧ i = .int .i64 k ∧ w3 = wr) (fun _ i _ => L.length - (intOf i).toNat)
        case atStart => exact ⟨0, I0, Nat.zero_le _, rfl, hst0, hst64, HLO.out, rfl, rfl⟩
        case round =>
          obtain ⟨k, I, hk, rfl, i0, i64, hlk, rfl, rfl⟩ := hrel
          have k0 : (0 : Int) ≤ (k : Int) := by omega
          by_cases hlt : k < L.length
          · have k1 : (k : Int) < (L.length : Int) := by omega
            obtain ⟨p, hp⟩ : ∃ p, L[k]? = some p := ⟨_, List.getElem?_eq_getElem hlt⟩
            obtain ⟨x, y⟩ := p
            have hpp := g13 (x, y) (List.mem_of_getElem? hp)
            simp only at hpp
            have hdr : L.drop k = (x, y) :: L.drop (k + 1) := by
              rw [List.drop_eq_getElem_cons hlt]
              rw [List.getElem?_eq_getElem hlt] at hp
              injection hp with hp
              rw [hp]
            rw [hdr] at hlk
            obtain ⟨l1, l2, l3, l4⟩ := hlk
            simp only at l1 l2 l3 l4
            have h9 := lkF_at hp
            have tk : w3.cell? ⟨T1, k, none⟩ = some (.slice (some ⟨R1 k, 0, none⟩) 2 (C1 k)) := HT3.out.top k hlt
            have q0 : w3.cell? ⟨R1 k, 0, none⟩ = some (.int .i64 x) := by rw [(HT3.out.row k 0 hlt (by omega)).1, h9.1]
            have q1 : w3.cell? ⟨R1 k, 1, none⟩ = some (.int .i64 y) := by rw [(HT3.out.row k 1 hlt (by omega)).1, h9.2]
            have x0 : (0 : Int) ≤ (x : Int) := by omega
            have y0 : (0 : Int) ≤ (y : Int) := by omega
            have x5 : x ≤ 5 := by omega
            have y5 : y ≤ 5 := by omega
            have z1 := bit_one (i := (x : Int)) x0 i0 l1
            have z2 := bit_zero (i := (y : Int)) y0 i0 l2
            have z3 := bit_one (i := (y : Int)) y0 g2 l3
            rw [Int.toNat_natCast] at z1 z2 z3
            have v0 : 0 ≤ I / 2 ^ x := (div_pow_bd I x i0).1
            have v1 : 0 ≤ I / 2 ^ y := (div_pow_bd I y i0).1
            have v2 : 0 ≤ ee / 2 ^ y := (div_pow_bd ee y g2).1
            have d1 : (I / 2 ^ x % 2 == 0) = false := by rw [z1.1]; rfl
            have d2 : ((I / 2 ^ x).tmod 2 == 0) = false := by rw [z1.2]; rfl
            have d3 : (I / 2 ^ y % 2 == 1) = false := by rw [z2.1]; rfl
            have d4 : ((I / 2 ^ y).tmod 2 == 1) = false := by rw [z2.2]; rfl
            have d5 : (ee / 2 ^ y % 2 == 0) = false := by rw [z3.1]; rfl
            have d6 : ((ee / 2 ^ y).tmod 2 == 0) = false := by rw [z3.2]; rfl
            have py := pow_bd (y : Int) 5 (by omega)
            rw [Int.toNat_natCast] at py
            have hor : bits .or .i64 I (2 ^ y) = ior I (2 ^ y) := bits_or _ _ i0 (by omega) (by omega) (by omega)
            have hib := ior_bd I (2 ^ y) 6 (by omega) (by omega)
            have HWY : Hid (IntKind.i64.wrap (2 ^ y) = 2 ^ y) := IntWalk.i64_in _ ⟨by omega, by omega⟩
            have HWY2 : Hid (wrap64 (2 ^ y) = 2 ^ y) := IntWalk.wrap64_in _ ⟨by omega, by omega⟩
            obtain ⟨U, hU⟩ : ∃ U, ior I (2 ^ y) = U := ⟨_, rfl⟩
            rw [hU] at hor hib l4
            have HL4 := Lib.hid l4
            clear z1 z2 z3 h9 hp hdr l1 l2 l3 l4 py hU
            have wy := HWY.out
            have wy2 := HWY2.out
            go_wp2_with fail
            clear wy wy2
            go_roundw
            case rel => refine ⟨k + 1, U, by omega, rfl, hib.1, by omega, HL4.out, ?_, ?_⟩ <;> first | trivial | rfl | go_num
            case measure => (simp [intOf]) <;> omega
          · obtain rfl : k = L.length := by omega
            rw [List.drop_length] at hlk
            have hIe : I = ee := hlk
            subst hIe
            clear hlk
            go_wp2_with fail
            refine (lSizeOf_any I g2 (by omega) _).mono ?_; rintro en w4 ⟨rfl, rfl⟩; rw [HK.out]
            go_wp2_with fail
            refine (RootCost_any _ _ _ _ _ _ (HRW.out.later HB3.out) (HTD.out.later HB3.out)).mono ?_; rintro en w5 ⟨rfl, hb5⟩; rw [HC.out]
            have HB5 := Lib.hid (bstep (B := wd.heap.size) (W := wd) HB3.out (Nat.le_of_lt hz3) hb5)
            go_wp2_with fail
            go_ret
            exact ⟨rfl, bstep HBD.out hzd HB5.out⟩
end Go.Proofs.YtcpefijmcajebaaDoor
