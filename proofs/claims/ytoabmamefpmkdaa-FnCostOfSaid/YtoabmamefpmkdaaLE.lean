/- FnCostOf: its walk. -/
import Derived.Test.YtoabmamefpmkdaaWJ
import Derived.Test.YtoabmamefpmkdaaReach
set_option linter.unusedSimpArgs false
set_option linter.unusedVariables false
namespace Go.Proofs.Ytoabmamefpmkdaa
open Go.ChangeShapes Go.WideShapes Go.ChangeAt Go.RowKit

theorem bit_iand (a b i : Int) : bit (iand a b) i = (bit a i && bit b i) := by
  unfold bit iand
  rw [Int.toNat_natCast, Nat.testBit_and]
theorem costFrom_join (s o : Int) : ∀ (ws : List Wy) (k : Int), costFrom ws s k + costFrom ws o k = costFrom ws (ior s o) k + costFrom ws (iand s o) k
  | [], _ => rfl
  | x :: ws, k => by
    have ih := costFrom_join s o ws (k + 1)
    simp only [costFrom, bit_ior, bit_iand]
    cases bit s k <;> cases bit o k <;> simp <;> omega
theorem cost_join (ws : List Wy) (s o : Int) : cost ws s + cost ws o = cost ws (ior s o) + cost ws (iand s o) := costFrom_join s o ws 0
theorem full_lt (len : Nat) (s : Int) : s ≤ full len ↔ s < 2 ^ len := by unfold full; omega
theorem setOk_mk {n : Int} {ws : List Wy} {s : Int} (hn : netOk n ws = true) (h0 : 0 ≤ s) (h1 : s ≤ full ws.length) : setOk n ws s = true := by
  unfold setOk; simp [hn, h0, h1]
theorem cost_zero (ws : List Wy) : cost ws 0 = 0 := by
  have : ∀ (ws : List Wy) (k : Int), costFrom ws 0 k = 0 := fun ws => by
    induction ws with
    | nil => intro k; rfl
    | cons x ws ih => intro k; simp [costFrom, bit, ih]
  exact this ws 0

theorem costOf_ok {n : Int} {ws : List Wy} {s : Int} (h : setOk n ws s = true) : costOf n ws s = cost ws s := by unfold costOf; rw [if_pos h]
theorem cost_all {n : Int} {ws : List Wy} (hn : netOk n ws = true) (s : Int) : 0 ≤ cost ws s ∧ cost ws s ≤ 81 := by
  have := cost_bd (netOk_t hn) s ws.length
  rwa [List.take_of_length_le (Nat.le_refl _)] at this
theorem keep2 {w w' : World} {h : Nat} {x0 x1 : Value} (hb : Below w.heap.size w w') (hk : w.cell? ⟨h, 0, none⟩ = some x0 ∧ w.cell? ⟨h, 1, none⟩ = some x1) (hl : h < w.heap.size) : w'.cell? ⟨h, 0, none⟩ = some x0 ∧ w'.cell? ⟨h, 1, none⟩ = some x1 :=
  ⟨(hb.cell (p := ⟨h, 0, none⟩) hl).trans hk.1, (hb.cell (p := ⟨h, 1, none⟩) hl).trans hk.2⟩
theorem RW.drewNR {w : World} {A : Option Addr} {ws : List Wy} (h : RW w w.heap.size A ws) (k : Nat) : RW (w.drewN k) (w.drewN k).heap.size A ws := h
theorem und {w w' : World} {k : Nat} (h : Below (w.drewN k).heap.size (w.drewN k) w') : Below w.heap.size w w' := ⟨h.os, h.tape, h.output, h.size, h.block⟩
theorem RW.nil_ (w : World) : RW w w.heap.size none [] := fun i x hx => by simp at hx
theorem alive_any (w : World) : Calls Try.prog 17 #[] w fun e w' => e = .returned (.bool true) ∧ Below w.heap.size w w' := by
  have e2 : netOk 2 [] = true := by decide
  have e1 : netOk 1 [] = false := by decide
  have E2 := Lib.hid e2
  have E1 := Lib.hid e1
  clear e1 e2
  go_enter Try.func17, Try.ntmps17
  go_wp2_with fail
  refine (NetOk_any 2 none 0 [] _ (RW.nil_ _)).mono ?_; rintro e w1 ⟨rfl, hb1⟩; rw [E2.out]
  go_wp2_with fail
  refine (NetOk_any 1 none 0 [] _ (RW.nil_ _)).mono ?_; rintro e w2 ⟨rfl, hb2⟩; rw [E1.out]
  have HB := Lib.hid (bstep hb1 hb1.size hb2)
  clear hb1 hb2
  go_wp2_with fail
  go_ret
  exact ⟨rfl, HB.out⟩

set_option maxHeartbeats 2000000 in
theorem FnCostOf_walk (A : Option Addr) (len cap : Nat) (A2 : Option Addr) (len2 cap2 : Nat) (w : World) (hr : RB w w.heap.size A len) (hc : len ≤ cap) (hlen : len ≤ 9223372036854775807)
    (hr2 : RB w w.heap.size A2 len2) (hc2 : len2 ≤ cap2) (hlen2 : len2 ≤ 9223372036854775807) :
    Calls Try.prog 4 #[.slice A len cap, .slice A2 len2 cap2] w fun e w' => e = .returned (.bool true) ∧ Below w.heap.size w w' := by
  have HR := Lib.hid hr
  have HR2 := Lib.hid hr2
  clear hr hr2
  by_cases hm : 1048576 < len
  · go_enter Try.func4, Try.ntmps4
    go_wp2_with fail
    go_ret
    exact ⟨rfl, Below.refl _ _⟩
  · by_cases hm2 : 1048576 < len2
    · go_enter Try.func4, Try.ntmps4
      go_wp2_with fail
      go_ret
      exact ⟨rfl, Below.refl _ _⟩
    · go_enter Try.func4, Try.ntmps4
      go_wp2_with fail
      refine (DrawCostOf_any A len cap _ HR.out hc (by omega)).mono ?_
      rintro e wd ⟨nn, s, A', c', ws, rfl, hrw, hl10, hcc, hn0, hn7, hs0, hs1, hbd⟩
      have HRW := Lib.hid hrw
      have HBD := Lib.hid hbd
      have hzd : w.heap.size ≤ wd.heap.size := hbd.size
      clear hrw hbd
      go_wp2_with fail
      refine (CostOf_any _ _ _ _ _ _ (HRW.out.later (by go_grown))).mono ?_; rintro e w1 ⟨rfl, hb1⟩
      obtain ⟨hc1, hf1⟩ := bcell hb1
      have hz1_0 : wd.heap.size < w1.heap.size := by have hq := hb1.size; (try simp at hq); omega
      have HK1 := Lib.hid hb1
      have HB1 := Lib.hid (bstep (B := wd.heap.size) (W := wd) (by (try have hp := HB0.out); go_grown) (by go_size) hb1); clear hb1
      go_wp2_with fail
      refine (sCostOf_any _ _ _ _ _ _ (HRW.out.later (by have := HB1.out; go_grown)) (by omega)).mono ?_; rintro e w2 ⟨rfl, hb2⟩
      obtain ⟨hc2, hf2⟩ := bcell hb2
      have hz2_0 : wd.heap.size < w2.heap.size := by have hq := hb2.size; (try simp at hq); omega
      have HK2 := Lib.hid hb2
      have HB2 := Lib.hid (bstep (B := wd.heap.size) (W := wd) (by have hp := HB1.out; go_grown) (by go_size) hb2); clear hb2
      cases hso : setOk nn ws s
      · have hcs : costOf nn ws s = -1 := by unfold costOf; rw [hso]; rfl
        rw [hcs]
        clear hcs hso
        go_wp2_with fail
        refine (alive_any _).mono ?_; rintro e w3 ⟨rfl, hb3⟩
        obtain ⟨hc3, hf3⟩ := bcell hb3
        have hz3_0 : wd.heap.size < w3.heap.size := by have hq := hb3.size; (try simp at hq); omega
        have HK3 := Lib.hid hb3
        have HB3 := Lib.hid (bstep (B := wd.heap.size) (W := wd) (by have hp := HB2.out; go_grown) (by go_size) hb3); clear hb3
        go_wp2_with fail
        go_ret
        exact ⟨rfl, bstep HBD.out hzd HB3.out⟩
      · obtain ⟨hni, _, hsf, hs511⟩ := setOk_t hso
        have hnet : netOk nn ws = true := by unfold setOk at hso; simp only [Bool.and_eq_true] at hso; exact hso.1.1
        have hl9 := hni.len
        have hcs : costOf nn ws s = cost ws s := costOf_ok hso
        have hc0 := cost_all hnet s
        have hfb := full_bd ws.length hl9
        rw [hcs]
        have k2 : w2.cell? ⟨wd.heap.size, 0, none⟩ = some (.int .i64 nn) ∧ w2.cell? ⟨wd.heap.size, 1, none⟩ = some (.slice A' ws.length c') := ⟨by go_simp, by go_simp⟩
        have HRW2 := Lib.hid (HRW.out.later HB2.out)
        clear hso hni hcs hc1 hf1 hc2 hf2
        by_cases hl0 : len2 = 0
        · subst hl0
          have ho0 : (0 : Int) ≤ 0 := Int.le_refl _
          have hof : (0 : Int) ≤ full ws.length := hfb.1
          have hjoin := cost_join ws s 0
          obtain ⟨so, hor⟩ : ∃ so : Int, bits .or .i64 s 0 = so := ⟨_, rfl⟩
          obtain ⟨sa, hand⟩ : ∃ sa : Int, bits .and .i64 s 0 = sa := ⟨_, rfl⟩
          have hor' : so = ior s 0 := by rw [← hor]; exact bits_or _ _ (by omega) (by omega) (by omega) (by omega)
          have hand' : sa = iand s 0 := by rw [← hand]; exact bits_and _ _ (by omega) (by omega) (by omega) (by omega)
          have hob := ior_bd s 0 ws.length ((full_lt _ _).1 hsf) ((full_lt _ _).1 hof)
          have hab := iand_bd s 0 hs0
          have Ho : Hid (costOf nn ws 0 = cost ws 0) := costOf_ok (setOk_mk hnet ho0 hof)
          have Hor : Hid (costOf nn ws so = cost ws (ior s 0)) := by rw [hor']; exact costOf_ok (setOk_mk hnet hob.1 ((full_lt _ _).2 hob.2))
          have Ha : Hid (costOf nn ws sa = cost ws (iand s 0)) := by rw [hand']; exact costOf_ok (setOk_mk hnet hab.1 (by omega))
          have H0 : Hid (costOf nn ws 0 = 0) := (costOf_ok (setOk_mk hnet (Int.le_refl _) (by omega))).trans (cost_zero ws)
          have b1 := cost_all hnet s
          have b2 := cost_all hnet 0
          have b3 := cost_all hnet (ior s 0)
          have b4 := cost_all hnet (iand s 0)
          generalize cost ws s = cs at *
          generalize cost ws 0 = co at *
          generalize cost ws (ior s 0) = cor at *
          generalize cost ws (iand s 0) = can at *
          have q1 : IntKind.i64.wrap (cs + co) = cs + co := IntWalk.i64_in _ ⟨by omega, by omega⟩
          have q2 : IntKind.i64.wrap (cor + can) = cor + can := IntWalk.i64_in _ ⟨by omega, by omega⟩
          have q3 : (cs + co == cor + can) = true := by simp; omega
          clear hjoin hor' hand' hob hab b1 b2 b3 b4
          go_wp2_with fail
          go_region_held3 (fun w' => w'.cell? ⟨wd.heap.size, 0, none⟩ = some (.int .i64 nn) ∧ w'.cell? ⟨wd.heap.size, 1, none⟩ = some (.slice A' ws.length c'))
            (first | exact k6 | exact k5 | exact k4 | exact k3 | exact k2)
            (first
              | (go_at_call_of 15 (Value.int IntKind.i64 0); refine (CostOf_any nn 0 A' c' ws w5 r5.out).mono ?_; rintro e w6 ⟨rfl, hb6⟩; rw [H0.out]; have k6 := keep2 hb6 k5 z5)
              | (go_at_call_of 15 (Value.int IntKind.i64 0); refine (CostOf_any nn 0 A' c' ws _ HRW2.out.drewR).mono ?_; rintro e w3 ⟨rfl, hb3⟩; rw [Ho.out]; have g3 : Below w2.heap.size w2 w3 := ⟨hb3.os, hb3.tape, hb3.output, hb3.size, hb3.block⟩; have k3 := keep2 g3 k2 hz2_0; have r3 := Lib.hid (HRW2.out.later g3); have z3 := Nat.lt_of_lt_of_le hz2_0 g3.size)
              | (go_at_call_of 15 (Value.int IntKind.i64 so); refine (CostOf_any nn so A' c' ws w3 r3.out).mono ?_; rintro e w4 ⟨rfl, hb4⟩; rw [Hor.out]; have k4 := keep2 hb4 k3 z3; have r4 := Lib.hid (r3.out.later hb4); have z4 := Nat.lt_of_lt_of_le z3 hb4.size)
              | (go_at_call_of 15 (Value.int IntKind.i64 sa); refine (CostOf_any nn sa A' c' ws w4 r4.out).mono ?_; rintro e w5 ⟨rfl, hb5⟩; rw [Ha.out]; have k5 := keep2 hb5 k4 z4; have r5 := Lib.hid (r4.out.later hb5); have z5 := Nat.lt_of_lt_of_le z4 hb5.size))
          have HE := Lib.hid (bstep HBD.out hzd (bstep (bstep (bstep (bstep HB2.out (by omega) g3) (by omega) hb4) (by omega) hb5) (by omega) hb6))
          clear g3 hb3 hb4 hb5 hb6
          go_wp2_with fail
          go_ret
          exact ⟨rfl, HE.out⟩
        · obtain ⟨b, of, v, rfl, hbw, hv0, hv1, hcell⟩ := HR2.out 0 (by omega)
          have hcell2 : w2.cell? ⟨b, of, none⟩ = some (.int .u8 v) := by
            have h := (bstep HBD.out hzd HB2.out).cell (p := ⟨b, of, none⟩) hbw
            rw [h]; simpa using hcell
          have hp := pow_bd (ws.length : Int) 9 (by omega)
          rw [Int.toNat_natCast] at hp
          have p1 : IntKind.i64.wrap (2 ^ ws.length) = 2 ^ ws.length := IntWalk.i64_in _ ⟨by omega, by omega⟩
          have p2 : IntKind.i64.wrap (2 ^ ws.length - 1) = 2 ^ ws.length - 1 := IntWalk.i64_in _ ⟨by omega, by omega⟩
          obtain ⟨o, ho⟩ : ∃ o : Int, bits .and .i64 v (2 ^ ws.length - 1) = o := ⟨_, rfl⟩
          have hoo := bits_and v (2 ^ ws.length - 1) hv0 (by omega) (by omega) (by omega)
          rw [ho] at hoo
          have hob2 := iand_bd2 v (2 ^ ws.length - 1) (by omega)
          have ho0 : 0 ≤ o := by omega
          have hof : o ≤ full ws.length := by unfold full; omega
          have hl1 : (0 : Int) < (len2 : Int) := by omega
          clear hoo hob2 hcell hp
          go_wp2_with fail
          go_quiet (fail)
          go_wp2_with fail
          clear p1 p2 ho
          have hjoin := cost_join ws s o
          obtain ⟨so, hor⟩ : ∃ so : Int, bits .or .i64 s o = so := ⟨_, rfl⟩
          obtain ⟨sa, hand⟩ : ∃ sa : Int, bits .and .i64 s o = sa := ⟨_, rfl⟩
          have hor' : so = ior s o := by rw [← hor]; exact bits_or _ _ (by omega) (by omega) (by omega) (by omega)
          have hand' : sa = iand s o := by rw [← hand]; exact bits_and _ _ (by omega) (by omega) (by omega) (by omega)
          have hob := ior_bd s o ws.length ((full_lt _ _).1 hsf) ((full_lt _ _).1 hof)
          have hab := iand_bd s o hs0
          have Ho : Hid (costOf nn ws o = cost ws o) := costOf_ok (setOk_mk hnet ho0 hof)
          have Hor : Hid (costOf nn ws so = cost ws (ior s o)) := by rw [hor']; exact costOf_ok (setOk_mk hnet hob.1 ((full_lt _ _).2 hob.2))
          have Ha : Hid (costOf nn ws sa = cost ws (iand s o)) := by rw [hand']; exact costOf_ok (setOk_mk hnet hab.1 (by omega))
          have H0 : Hid (costOf nn ws 0 = 0) := (costOf_ok (setOk_mk hnet (Int.le_refl _) (by omega))).trans (cost_zero ws)
          have b1 := cost_all hnet s
          have b2 := cost_all hnet o
          have b3 := cost_all hnet (ior s o)
          have b4 := cost_all hnet (iand s o)
          generalize cost ws s = cs at *
          generalize cost ws o = co at *
          generalize cost ws (ior s o) = cor at *
          generalize cost ws (iand s o) = can at *
          have q1 : IntKind.i64.wrap (cs + co) = cs + co := IntWalk.i64_in _ ⟨by omega, by omega⟩
          have q2 : IntKind.i64.wrap (cor + can) = cor + can := IntWalk.i64_in _ ⟨by omega, by omega⟩
          have q3 : (cs + co == cor + can) = true := by simp; omega
          clear hjoin hor' hand' hob hab b1 b2 b3 b4
          go_wp2_with fail
          go_region_held3 (fun w' => w'.cell? ⟨wd.heap.size, 0, none⟩ = some (.int .i64 nn) ∧ w'.cell? ⟨wd.heap.size, 1, none⟩ = some (.slice A' ws.length c'))
            (first | exact k6 | exact k5 | exact k4 | exact k3 | exact k2)
            (first
              | (go_at_call_of 15 (Value.int IntKind.i64 o); refine (CostOf_any nn o A' c' ws _ (HRW2.out.drewNR _)).mono ?_; rintro e w3 ⟨rfl, hb3⟩; rw [Ho.out]; have g3 : Below w2.heap.size w2 w3 := und hb3; have k3 := keep2 g3 k2 hz2_0; have r3 := Lib.hid (HRW2.out.later g3); have z3 := Nat.lt_of_lt_of_le hz2_0 g3.size)
              | (go_at_call_of 15 (Value.int IntKind.i64 so); refine (CostOf_any nn so A' c' ws w3 r3.out).mono ?_; rintro e w4 ⟨rfl, hb4⟩; rw [Hor.out]; have k4 := keep2 hb4 k3 z3; have r4 := Lib.hid (r3.out.later hb4); have z4 := Nat.lt_of_lt_of_le z3 hb4.size)
              | (go_at_call_of 15 (Value.int IntKind.i64 sa); refine (CostOf_any nn sa A' c' ws w4 r4.out).mono ?_; rintro e w5 ⟨rfl, hb5⟩; rw [Ha.out]; have k5 := keep2 hb5 k4 z4; have r5 := Lib.hid (r4.out.later hb5); have z5 := Nat.lt_of_lt_of_le z4 hb5.size)
              | (go_at_call_of 15 (Value.int IntKind.i64 0); refine (CostOf_any nn 0 A' c' ws w5 r5.out).mono ?_; rintro e w6 ⟨rfl, hb6⟩; rw [H0.out]; have k6 := keep2 hb6 k5 z5))
          have HE := Lib.hid (bstep HBD.out hzd (bstep (bstep (bstep (bstep HB2.out (by omega) g3) (by omega) hb4) (by omega) hb5) (by omega) hb6))
          clear g3 hb3 hb4 hb5 hb6
          go_wp2_with fail
          go_ret
          exact ⟨rfl, HE.out⟩
end Go.Proofs.Ytoabmamefpmkdaa
