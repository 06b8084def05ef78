/- BridgeWays, of the program and of its model. -/
import Derived.Test.YtkjheobeogkhlaaDoorDQ
set_option linter.unusedSimpArgs false
set_option linter.unusedVariables false
namespace Go.Proofs.YtkjheobeogkhlaaDoor
open Go.ChangeShapes Go.WideShapes Go.ChangeAt Go.RowKit

/-- the places of a way are joined exactly if one comes from the one to the other one -/
theorem joins_way {n : Int} {ws : List Wy} {s : Int} (hn : NetIs n ws) {x : Wy} {k : Nat} (hx : ws[k]? = some x) : joins ws s (wayPl x) = bit (reach ws s x.a) x.b := by
  obtain ⟨a0, a1, b0, b1, _⟩ := hn.at_ hx
  have hw := wayPl_bd hn hx
  have hbits : ∀ q, 0 ≤ q → bit (wayPl x) q = (decide (q = x.a) || decide (q = x.b)) := fun q hq => by
    rw [wayPl_is, bit_ior, bit_shl x.a q a0 hq, bit_shl x.b q b0 hq]
  rw [Bool.eq_iff_iff, joins_iff hn hw.1 (wayPl_lt hn hx)]
  constructor
  · intro h
    exact h x.a x.b a0 b0 (by rw [hbits _ a0]; simp) (by rw [hbits _ b0]; simp)
  · intro h p q hp hq hbp hbq
    rw [hbits p hp] at hbp
    rw [hbits q hq] at hbq
    simp only [Bool.or_eq_true, decide_eq_true_eq] at hbp hbq
    have ha := (reach_is (s := s) hn a0 a1).has
    have hback : reach ws s x.b = reach ws s x.a := reach_back (s := s) hn a0 a1 b0 h
    have key : ∀ y, (y = x.a ∨ y = x.b) → reach ws s y = reach ws s x.a := fun y hy => by
      rcases hy with rfl | rfl
      · rfl
      · exact hback
    rw [key p hbp]
    rcases hbq with rfl | rfl
    · exact ha
    · exact h

/-- the bridges among the first k ways -/
noncomputable def brTo (ws : List Wy) (all : Int) : Nat → Int
  | 0 => 0
  | k + 1 => match ws[k]? with
    | some x => if bit (reach ws (all - 2 ^ k) x.a) x.b = true then brTo ws all k else ior (brTo ws all k) (2 ^ k)
    | none => brTo ws all k
theorem brTo_in {ws : List Wy} {all : Int} {k : Nat} {x : Wy} (hx : ws[k]? = some x) (h : bit (reach ws (all - 2 ^ k) x.a) x.b = true) : brTo ws all (k + 1) = brTo ws all k := by
  rw [brTo, hx]; simp only; rw [if_pos h]
theorem brTo_out {ws : List Wy} {all : Int} {k : Nat} {x : Wy} (hx : ws[k]? = some x) (h : bit (reach ws (all - 2 ^ k) x.a) x.b = false) : brTo ws all (k + 1) = ior (brTo ws all k) (2 ^ k) := by
  rw [brTo, hx]; simp only; rw [if_neg (by rw [h]; simp)]
theorem brTo_bd (ws : List Wy) (all : Int) : ∀ k, 0 ≤ brTo ws all k ∧ brTo ws all k < 2 ^ k
  | 0 => by simp [brTo]
  | k + 1 => by
    have ih := brTo_bd ws all k
    have h1 : ((2 : Int) ^ (k + 1)) = 2 ^ k * 2 := Int.pow_succ 2 k
    have h2 := pow_bd k k (by omega)
    rw [Int.toNat_natCast] at h2
    cases hx : ws[k]? with
    | none => rw [brTo, hx]; simp only; omega
    | some x =>
      cases hc : bit (reach ws (all - 2 ^ k) x.a) x.b
      · rw [brTo_out hx hc]; exact ior_bd _ _ (k + 1) (by omega) (by omega)
      · rw [brTo_in hx hc]; omega
theorem full_bit (len k : Nat) (h : k < len) : bit (full len) k = true := by
  unfold bit full
  have e : ((2 : Int) ^ len - 1).toNat = 2 ^ len - 1 := by
    have e1 : ((2 : Int) ^ len) = ((2 ^ len : Nat) : Int) := by simp
    have : 1 ≤ 2 ^ len := Nat.one_le_two_pow
    omega
  rw [e, Int.toNat_natCast, Nat.testBit_two_pow_sub_one]
  simpa using h
noncomputable def bridgesOf (n : Int) (ws : List Wy) : Int := if netOk n ws = true then brTo ws (full ws.length) ws.length else -1

theorem keep5 {w w' : World} {h g : Nat} {x0 x1 y0 y1 y2 : Value} (hb : Below w.heap.size w w') (hk : w.cell? ⟨h, 0, none⟩ = some x0 ∧ w.cell? ⟨h, 1, none⟩ = some x1 ∧ w.cell? ⟨g, 0, none⟩ = some y0 ∧ w.cell? ⟨g, 1, none⟩ = some y1 ∧ w.cell? ⟨g, 2, none⟩ = some y2) (hl : h < w.heap.size) (hg : g < w.heap.size) :
    w'.cell? ⟨h, 0, none⟩ = some x0 ∧ w'.cell? ⟨h, 1, none⟩ = some x1 ∧ w'.cell? ⟨g, 0, none⟩ = some y0 ∧ w'.cell? ⟨g, 1, none⟩ = some y1 ∧ w'.cell? ⟨g, 2, none⟩ = some y2 :=
  ⟨(hb.cell (p := ⟨h, 0, none⟩) hl).trans hk.1, (hb.cell (p := ⟨h, 1, none⟩) hl).trans hk.2.1, (hb.cell (p := ⟨g, 0, none⟩) hg).trans hk.2.2.1, (hb.cell (p := ⟨g, 1, none⟩) hg).trans hk.2.2.2.1, (hb.cell (p := ⟨g, 2, none⟩) hg).trans hk.2.2.2.2⟩
theorem start5 {w : World} {h : Nat} {x0 x1 y0 y1 y2 : Value} {t : TypeId} (b0 : w.cell? ⟨h, 0, none⟩ = some x0) (b1 : w.cell? ⟨h, 1, none⟩ = some x1) (hl : h < w.heap.size) :
    (w.alloc (.cells #[y0, y1, y2] t)).cell? ⟨h, 0, none⟩ = some x0 ∧ (w.alloc (.cells #[y0, y1, y2] t)).cell? ⟨h, 1, none⟩ = some x1 ∧ (w.alloc (.cells #[y0, y1, y2] t)).cell? ⟨w.heap.size, 0, none⟩ = some y0 ∧ (w.alloc (.cells #[y0, y1, y2] t)).cell? ⟨w.heap.size, 1, none⟩ = some y1 ∧ (w.alloc (.cells #[y0, y1, y2] t)).cell? ⟨w.heap.size, 2, none⟩ = some y2 :=
  ⟨(World.cell?_alloc_lt w _ _ hl).trans b0, (World.cell?_alloc_lt w _ _ hl).trans b1, cell_of_row _ _ 0 _ _ (0, 0) (heap_alloc_new w _), cell_of_row _ _ 1 _ _ (0, 0) (heap_alloc_new w _), cell_of_row _ _ 2 _ _ (0, 0) (heap_alloc_new w _)⟩

set_option maxHeartbeats 2000000 in
theorem BridgeWays_any (n : Int) (A : Option Addr) (cap : Nat) (ws : List Wy) (w : World) (hr : RW w w.heap.size A ws) (hT : Tab w) :
    Calls Tryd.prog 38 #[.agg #[.int .i64 n, .slice A ws.length cap]] w fun e w' => e = .returned (.int .i64 (bridgesOf n ws)) ∧ Below w.heap.size w w' := by
  have HR := Lib.hid hr
  have HT := Lib.hid hT
  clear hr hT
  unfold bridgesOf
  cases hn : netOk n ws
  · have HN := Lib.hid hn
    rw [if_neg (by simp)]
    clear hn
    go_enter Tryd.func38, Tryd.ntmps38
    go_wp2_with fail
    refine (NetOk_any _ _ _ _ _ (HR.out.later (by go_grown))).mono ?_; rintro e w1 ⟨rfl, hb1⟩
    rw [HN.out]
    obtain ⟨hc1, hf1⟩ := bcell hb1
    have hz1_0 : w.heap.size < w1.heap.size := by have hq := hb1.size; (try simp at hq); omega
    have HK1 := Lib.hid hb1
    have HB1 := Lib.hid (bstep (B := w.heap.size) (W := w) (by (try have hp := HB0.out); go_grown) (by go_size) hb1); clear hb1
    go_wp2_with fail
    go_ret
    exact ⟨rfl, HB1.out⟩
  · have HN := Lib.hid hn
    have HS := Lib.hid (netOk_t hn)
    have hl9 := (netOk_t hn).len
    have hfb := full_bd ws.length hl9
    rw [if_pos rfl]
    clear hn
    go_enter Tryd.func38, Tryd.ntmps38
    go_wp2_with fail
    refine (NetOk_any _ _ _ _ _ (HR.out.later (by go_grown))).mono ?_; rintro e w1 ⟨rfl, hb1⟩
    rw [HN.out]
    obtain ⟨hc1, hf1⟩ := bcell hb1
    have hz1_0 : w.heap.size < w1.heap.size := by have hq := hb1.size; (try simp at hq); omega
    have HK1 := Lib.hid hb1
    have HB1 := Lib.hid (bstep (B := w.heap.size) (W := w) (by (try have hp := HB0.out); go_grown) (by go_size) hb1); clear hb1
    have k1 : w1.cell? ⟨w.heap.size, 0, none⟩ = some (.int .i64 n) ∧ w1.cell? ⟨w.heap.size, 1, none⟩ = some (.slice A ws.length cap) := ⟨by go_simp, by go_simp⟩
    go_wp2_with fail
    go_loopw [3, 12] (fun c i wr => ∃ k : Nat, k ≤ ws.length ∧ i = .int .i64 k ∧ c = .int .i64 (brTo ws (full ws.length) k) ∧ wr.cell? ⟨w.heap.size, 0, none⟩ = some (.int .i64 n) ∧ wr.cell? ⟨w.heap.size, 1, none⟩ = some (.slice A ws.length cap) ∧ Below w.heap.size w wr ∧ w.heap.size < wr.heap.size) (fun _ i _ => ws.length - (intOf i).toNat)
    case atStart => exact ⟨0, Nat.zero_le _, rfl, rfl, k1.1, k1.2, HB1.out, hz1_0⟩
    case round =>
      clear k1 hc1 hf1
      obtain ⟨k, hk, rfl, rfl, b0, b1, hb, hz⟩ := hrel
      have HB0 := Lib.hid hb
      have hat := brTo_bd ws (full ws.length) k
      have hpk := pow_bd (k : Int) 9 (by omega)
      rw [Int.toNat_natCast] at hpk
      by_cases hlt : k < ws.length
      · have hpk8 := pow_bd (k : Int) 8 (by omega)
        rw [Int.toNat_natCast] at hpk8
        obtain ⟨x, hx⟩ : ∃ x, ws[k]? = some x := ⟨_, List.getElem?_eq_getElem hlt⟩
        have HRR := Lib.hid (HR.out.later hb)
        have HX := Lib.hid hx
        have hxa := HS.out.at_ hx
        have ha0 : 0 ≤ x.a := by have := HS.out.hi; omega
        have ha1 : x.a ≤ 5 := by have := HS.out.hi; omega
        have hb0 : 0 ≤ x.b := by have := HS.out.hi; omega
        have hb5 : x.b ≤ 5 := by have := HS.out.hi; omega
        have hbx := wayPl_bd HS.out hx
        have HLT := Lib.hid (wayPl_lt HS.out hx)
        obtain ⟨u, hud⟩ : ∃ u : Int, bits .andNot .i64 (full ws.length) (2 ^ k) = u := ⟨_, rfl⟩
        have hone := idiff_one (u := full ws.length) (k := k) hfb.1 (by omega) (by omega) (full_bit _ _ hlt)
        have hu : u = full ws.length - 2 ^ k := by rw [← hud, bits_andNot _ _ hfb.1 (by omega) (by omega) (by omega)]; exact hone.1
        have hu0 : 0 ≤ u := by have := hone.2; omega
        have hu1 : u ≤ 511 := by omega
        have HJ := Lib.hid (joins_way (s := u) HS.out hx)
        obtain ⟨b, o, rfl, hB, c0, c1, c2⟩ := HR.out.below hb k x hx
        have hv0 := hat.1
        have hv1 : brTo ws (full ws.length) k < 256 := by omega
        have HO := Lib.hid (bits_or (brTo ws (full ws.length) k) (2 ^ k) hv0 (by omega) (by omega) (by omega))
        have hw1 : IntKind.i64.wrap (2 ^ k) = 2 ^ k := IntWalk.i64_in _ ⟨by omega, by omega⟩
        have hw2 : wrap64 (2 ^ k) = 2 ^ k := IntWalk.wrap64_in _ ⟨by omega, by omega⟩
        have k0 := start5 (t := 45) (y0 := .int .i64 x.a) (y1 := .int .i64 x.b) (y2 := .int .i64 x.c) b0 b1 hz
        have z0 : w.heap.size < (wr.alloc (.cells #[.int .i64 x.a, .int .i64 x.b, .int .i64 x.c] 45)).heap.size := by simp; omega
        have z00 : wr.heap.size < (wr.alloc (.cells #[.int .i64 x.a, .int .i64 x.b, .int .i64 x.c] 45)).heap.size := by simp
        have HRA := Lib.hid (HRR.out.later ((Below.refl _ _).alloc (Nat.le_refl _) (.cells #[.int .i64 x.a, .int .i64 x.b, .int .i64 x.c] 45)))
        have HTA := Lib.hid (HT.out.later (bstep HB0.out (by omega) ((Below.refl _ _).alloc (Nat.le_refl _) (.cells #[.int .i64 x.a, .int .i64 x.b, .int .i64 x.c] 45))))
        cases hbit : bit (reach ws u x.a) x.b
        · have HY := Lib.hid (brTo_out (all := full ws.length) hx (by rw [← hu]; exact hbit))
          have HJ2 : Hid (joins ws u (wayPl x) = false) := by show joins ws u (wayPl x) = false; rw [HJ.out]; exact hbit
          clear hbit hx hxa hb hat hone hu
          go_wp2_with fail
          go_region_held3 (fun w' => w'.cell? ⟨w.heap.size, 0, none⟩ = some (.int .i64 n) ∧ w'.cell? ⟨w.heap.size, 1, none⟩ = some (.slice (some ⟨b, o, none⟩) ws.length cap) ∧ w'.cell? ⟨wr.heap.size, 0, none⟩ = some (.int .i64 x.a) ∧ w'.cell? ⟨wr.heap.size, 1, none⟩ = some (.int .i64 x.b) ∧ w'.cell? ⟨wr.heap.size, 2, none⟩ = some (.int .i64 x.c))
            (first | exact k5 | exact k4 | exact k3 | exact k0)
            (first
              | (go_at_call 77; refine (allWays_any n (some ⟨b, o, none⟩) ws.length cap (by omega) _).mono ?_; rintro e3 w3 ⟨rfl, hb3⟩; have g3 : Below (wr.alloc (.cells #[.int .i64 x.a, .int .i64 x.b, .int .i64 x.c] 45)).heap.size (wr.alloc (.cells #[.int .i64 x.a, .int .i64 x.b, .int .i64 x.c] 45)) w3 := und hb3; have k3 := keep5 g3 k0 z0 z00; have r3 := Lib.hid (HRA.out.later g3); have t3 := Lib.hid (HTA.out.later g3); have z3 := Nat.lt_of_lt_of_le z0 g3.size; have z33 := Nat.lt_of_lt_of_le z00 g3.size)
              | (go_at_call 65; refine (wayPlaces_any x ha0 ha1 hb0 hb5 w3).mono ?_; rintro e4 w4 ⟨rfl, hb4⟩; have k4 := keep5 hb4 k3 z3 z33; have r4 := Lib.hid (r3.out.later hb4); have t4 := Lib.hid (t3.out.later hb4); have z4 := Nat.lt_of_lt_of_le z3 hb4.size; have z44 := Nat.lt_of_lt_of_le z33 hb4.size)
              | (go_at_call 63; refine (setJoins_any n u (wayPl x) (some ⟨b, o, none⟩) cap ws w4 r4.out HS.out hu0 (by omega) hbx.1 HLT.out t4.out).mono ?_; rintro e6 w5 ⟨rfl, hb6⟩; rw [HJ2.out]; have k5 := keep5 hb6 k4 z4 z44; have z5 := Nat.lt_of_lt_of_le z4 hb6.size))
          have HB5 := Lib.hid (bstep (B := w.heap.size) (W := w) (bstep (bstep (bstep HB0.out (by omega) ((Below.refl _ _).alloc (Nat.le_refl _) (.cells #[.int .i64 x.a, .int .i64 x.b, .int .i64 x.c] 45))) (by simp; omega) g3) (by omega) hb4) (by omega) hb6)
          clear g3 hb3 hb4 hb6
          go_wp2_with fail
          go_roundw
          case rel => exact ⟨k + 1, by omega, by go_num, by rw [HY.out, HO.out], k5.1, k5.2.1, HB5.out, z5⟩
          case measure => simp [intOf]; omega
        · have HY := Lib.hid (brTo_in (all := full ws.length) hx (by rw [← hu]; exact hbit))
          have HJ2 : Hid (joins ws u (wayPl x) = true) := by show joins ws u (wayPl x) = true; rw [HJ.out]; exact hbit
          clear hbit hx hxa hb hat hone hu
          go_wp2_with fail
          go_region_held3 (fun w' => w'.cell? ⟨w.heap.size, 0, none⟩ = some (.int .i64 n) ∧ w'.cell? ⟨w.heap.size, 1, none⟩ = some (.slice (some ⟨b, o, none⟩) ws.length cap) ∧ w'.cell? ⟨wr.heap.size, 0, none⟩ = some (.int .i64 x.a) ∧ w'.cell? ⟨wr.heap.size, 1, none⟩ = some (.int .i64 x.b) ∧ w'.cell? ⟨wr.heap.size, 2, none⟩ = some (.int .i64 x.c))
            (first | exact k5 | exact k4 | exact k3 | exact k0)
            (first
              | (go_at_call 77; refine (allWays_any n (some ⟨b, o, none⟩) ws.length cap (by omega) _).mono ?_; rintro e3 w3 ⟨rfl, hb3⟩; have g3 : Below (wr.alloc (.cells #[.int .i64 x.a, .int .i64 x.b, .int .i64 x.c] 45)).heap.size (wr.alloc (.cells #[.int .i64 x.a, .int .i64 x.b, .int .i64 x.c] 45)) w3 := und hb3; have k3 := keep5 g3 k0 z0 z00; have r3 := Lib.hid (HRA.out.later g3); have t3 := Lib.hid (HTA.out.later g3); have z3 := Nat.lt_of_lt_of_le z0 g3.size; have z33 := Nat.lt_of_lt_of_le z00 g3.size)
              | (go_at_call 65; refine (wayPlaces_any x ha0 ha1 hb0 hb5 w3).mono ?_; rintro e4 w4 ⟨rfl, hb4⟩; have k4 := keep5 hb4 k3 z3 z33; have r4 := Lib.hid (r3.out.later hb4); have t4 := Lib.hid (t3.out.later hb4); have z4 := Nat.lt_of_lt_of_le z3 hb4.size; have z44 := Nat.lt_of_lt_of_le z33 hb4.size)
              | (go_at_call 63; refine (setJoins_any n u (wayPl x) (some ⟨b, o, none⟩) cap ws w4 r4.out HS.out hu0 (by omega) hbx.1 HLT.out t4.out).mono ?_; rintro e6 w5 ⟨rfl, hb6⟩; rw [HJ2.out]; have k5 := keep5 hb6 k4 z4 z44; have z5 := Nat.lt_of_lt_of_le z4 hb6.size))
          have HB5 := Lib.hid (bstep (B := w.heap.size) (W := w) (bstep (bstep (bstep HB0.out (by omega) ((Below.refl _ _).alloc (Nat.le_refl _) (.cells #[.int .i64 x.a, .int .i64 x.b, .int .i64 x.c] 45))) (by simp; omega) g3) (by omega) hb4) (by omega) hb6)
          clear g3 hb3 hb4 hb6
          go_wp2_with fail
          go_roundw
          case rel => exact ⟨k + 1, by omega, by go_num, by rw [HY.out], k5.1, k5.2.1, HB5.out, z5⟩
          case measure => simp [intOf]; omega
      · have hkl : k = ws.length := by omega
        subst hkl
        go_wp2_with fail
        go_ret
        exact ⟨rfl, hb⟩

theorem keep4 {w w' : World} {h g o : Nat} {x0 x1 y0 y1 : Value} (hb : Below w.heap.size w w') (hk : w.cell? ⟨h, 0, none⟩ = some x0 ∧ w.cell? ⟨h, 1, none⟩ = some x1 ∧ w.cell? ⟨g, o, none⟩ = some y0 ∧ w.cell? ⟨g, o + 1, none⟩ = some y1) (hl : h < w.heap.size) (hg : g < w.heap.size) :
    w'.cell? ⟨h, 0, none⟩ = some x0 ∧ w'.cell? ⟨h, 1, none⟩ = some x1 ∧ w'.cell? ⟨g, o, none⟩ = some y0 ∧ w'.cell? ⟨g, o + 1, none⟩ = some y1 :=
  ⟨(hb.cell (p := ⟨h, 0, none⟩) hl).trans hk.1, (hb.cell (p := ⟨h, 1, none⟩) hl).trans hk.2.1, (hb.cell (p := ⟨g, o, none⟩) hg).trans hk.2.2.1, (hb.cell (p := ⟨g, o + 1, none⟩) hg).trans hk.2.2.2⟩

set_option maxHeartbeats 2000000 in
theorem sBridgeWays_any (n : Int) (A : Option Addr) (cap : Nat) (ws : List Wy) (w : World) (hr : RW w w.heap.size A ws) (hm : ws.length ≤ 1073741824) :
    Calls Tryd.prog 39 #[.agg #[.int .i64 n, .slice A ws.length cap]] w fun e w' => e = .returned (.int .i64 (bridgesOf n ws)) ∧ Below w.heap.size w w' := by
  have HR := Lib.hid hr
  clear hr
  unfold bridgesOf
  cases hn : netOk n ws
  · have HN := Lib.hid hn
    rw [if_neg (by simp)]
    clear hn
    go_enter Tryd.func39, Tryd.ntmps39
    go_wp2_with fail
    refine (sNetOk_any _ _ _ _ _ (HR.out.later (by go_grown)) hm).mono ?_; rintro e w1 ⟨rfl, hb1⟩
    rw [HN.out]
    obtain ⟨hc1, hf1⟩ := bcell hb1
    have hz1_0 : w.heap.size < w1.heap.size := by have hq := hb1.size; (try simp at hq); omega
    have HK1 := Lib.hid hb1
    have HB1 := Lib.hid (bstep (B := w.heap.size) (W := w) (by (try have hp := HB0.out); go_grown) (by go_size) hb1); clear hb1
    go_wp2_with fail
    go_ret
    exact ⟨rfl, HB1.out⟩
  · have HN := Lib.hid hn
    have HS := Lib.hid (netOk_t hn)
    have hl9 := (netOk_t hn).len
    have hfb := full_bd ws.length hl9
    have hpl := pow_bd (ws.length : Int) 9 (by omega)
    rw [Int.toNat_natCast] at hpl
    rw [if_pos rfl]
    clear hn
    go_enter Tryd.func39, Tryd.ntmps39
    go_wp2_with fail
    refine (sNetOk_any _ _ _ _ _ (HR.out.later (by go_grown)) hm).mono ?_; rintro e w1 ⟨rfl, hb1⟩
    rw [HN.out]
    obtain ⟨hc1, hf1⟩ := bcell hb1
    have hz1_0 : w.heap.size < w1.heap.size := by have hq := hb1.size; (try simp at hq); omega
    have HK1 := Lib.hid hb1
    have HB1 := Lib.hid (bstep (B := w.heap.size) (W := w) (by (try have hp := HB0.out); go_grown) (by go_size) hb1); clear hb1
    have k1 : w1.cell? ⟨w.heap.size, 0, none⟩ = some (.int .i64 n) ∧ w1.cell? ⟨w.heap.size, 1, none⟩ = some (.slice A ws.length cap) := ⟨by go_simp, by go_simp⟩
    go_wp2_with fail
    go_loopw [3, 5] (fun c i wr => ∃ k : Nat, k ≤ ws.length ∧ i = .int .i64 k ∧ c = .int .i64 (brTo ws (full ws.length) k) ∧ wr.cell? ⟨w.heap.size, 0, none⟩ = some (.int .i64 n) ∧ wr.cell? ⟨w.heap.size, 1, none⟩ = some (.slice A ws.length cap) ∧ Below w.heap.size w wr ∧ w.heap.size < wr.heap.size) (fun _ i _ => ws.length - (intOf i).toNat)
    case atStart => exact ⟨0, Nat.zero_le _, rfl, rfl, k1.1, k1.2, HB1.out, hz1_0⟩
    case round =>
      clear k1 hc1 hf1
      obtain ⟨k, hk, rfl, rfl, b0, b1, hb, hz⟩ := hrel
      have HB0 := Lib.hid hb
      have hat := brTo_bd ws (full ws.length) k
      have hpk := pow_bd (k : Int) 9 (by omega)
      rw [Int.toNat_natCast] at hpk
      by_cases hlt : k < ws.length
      · have hpk8 := pow_bd (k : Int) 8 (by omega)
        rw [Int.toNat_natCast] at hpk8
        obtain ⟨x, hx⟩ : ∃ x, ws[k]? = some x := ⟨_, List.getElem?_eq_getElem hlt⟩
        have HRR := Lib.hid (HR.out.later hb)
        have hxa := HS.out.at_ hx
        have ha0 : 0 ≤ x.a := by omega
        have han : x.a < n := by omega
        have hb0 : 0 ≤ x.b := by omega
        have hb5 : x.b ≤ 5 := by have := HS.out.hi; omega
        have hone := idiff_one (u := full ws.length) (k := k) hfb.1 (by omega) (by omega) (full_bit _ _ hlt)
        obtain ⟨u, hu⟩ : ∃ u : Int, full ws.length - 2 ^ k = u := ⟨_, rfl⟩
        have hu0 : 0 ≤ u := by have := hone.2; omega
        have hu1 : u ≤ 511 := by omega
        have hri := reach_is (s := u) HS.out ha0 han
        have hr0 := hri.lo
        have hr1 := hri.hi
        obtain ⟨b, o, rfl, hB, c0, c1, c2⟩ := HR.out.below hb k x hx
        have hBr : b < wr.heap.size := by omega
        have hv0 := hat.1
        have hv1 : brTo ws (full ws.length) k < 256 := by omega
        have HO := Lib.hid (bits_or (brTo ws (full ws.length) k) (2 ^ k) hv0 (by omega) (by omega) (by omega))
        have hw1 : IntKind.i64.wrap (2 ^ k) = 2 ^ k := IntWalk.i64_in _ ⟨by omega, by omega⟩
        have hw2 : wrap64 (2 ^ k) = 2 ^ k := IntWalk.wrap64_in _ ⟨by omega, by omega⟩
        have hu' : 2 ^ ws.length - 1 - 2 ^ k = u := hu
        have hsub : IntKind.i64.wrap (2 ^ ws.length - 1 - 2 ^ k) = u := by rw [hu']; exact IntWalk.i64_in _ ⟨by omega, by omega⟩
        have hsub2 : wrap64 (2 ^ ws.length - 1 - 2 ^ k) = u := by rw [hu']; exact IntWalk.wrap64_in _ ⟨by omega, by omega⟩
        have hq0 : 0 ≤ reach ws u x.a / 2 ^ x.b.toNat := (div_pow_bd _ x.b.toNat hr0).1
        have hk0 : (0 : Int) ≤ (k : Int) := by omega
        have hk1 : (k : Int) < (ws.length : Int) := by omega
        cases hbit : bit (reach ws u x.a) x.b
        · have HY := Lib.hid (brTo_out (all := full ws.length) hx (by rw [hu]; exact hbit))
          have hz1 := bit_zero hb0 hr0 hbit
          have hd1 : (reach ws u x.a / 2 ^ x.b.toNat % 2 == 0) = true := by rw [hz1.1]; rfl
          have hd2 : ((reach ws u x.a / 2 ^ x.b.toNat).tmod 2 == 0) = true := by rw [hz1.2]; rfl
          clear hbit hx hxa hb hat hone hu hu' hri hz1
          go_wp2_with fail
          go_region_held3 (fun w' => w'.cell? ⟨w.heap.size, 0, none⟩ = some (.int .i64 n) ∧ w'.cell? ⟨w.heap.size, 1, none⟩ = some (.slice (some ⟨b, o, none⟩) ws.length cap) ∧ w'.cell? ⟨b, o + k * 3, none⟩ = some (.int .i64 x.a) ∧ w'.cell? ⟨b, o + k * 3 + 1, none⟩ = some (.int .i64 x.b))
            (first | exact k3 | exact ⟨b0, b1, c0, c1⟩)
            (first
              | (go_at_call 80; refine (l1Reach_any n u x.a (some ⟨b, o, none⟩) cap ws _ (HRR.out.drewNR _) HS.out hu0 (by omega) ha0 han).mono ?_; rintro e3 w3 ⟨rfl, hb3⟩; have g3 : Below wr.heap.size wr w3 := und hb3; have k3 := keep4 g3 ⟨b0, b1, c0, c1⟩ hz hBr; have z3 := Nat.lt_of_lt_of_le hz g3.size))
          have HB3 := Lib.hid (bstep (B := w.heap.size) (W := w) HB0.out (by omega) g3)
          clear g3 hb3
          go_wp2_with fail
          go_roundw
          case rel => exact ⟨k + 1, by omega, by go_num, by rw [HY.out, HO.out], k3.1, k3.2.1, HB3.out, z3⟩
          case measure => simp [intOf]; omega
        · have HY := Lib.hid (brTo_in (all := full ws.length) hx (by rw [hu]; exact hbit))
          have hz1 := bit_one hb0 hr0 hbit
          have hd1 : (reach ws u x.a / 2 ^ x.b.toNat % 2 == 0) = false := by rw [hz1.1]; rfl
          have hd2 : ((reach ws u x.a / 2 ^ x.b.toNat).tmod 2 == 0) = false := by rw [hz1.2]; rfl
          clear hbit hx hxa hb hat hone hu hu' hri hz1
          go_wp2_with fail
          go_region_held3 (fun w' => w'.cell? ⟨w.heap.size, 0, none⟩ = some (.int .i64 n) ∧ w'.cell? ⟨w.heap.size, 1, none⟩ = some (.slice (some ⟨b, o, none⟩) ws.length cap) ∧ w'.cell? ⟨b, o + k * 3, none⟩ = some (.int .i64 x.a) ∧ w'.cell? ⟨b, o + k * 3 + 1, none⟩ = some (.int .i64 x.b))
            (first | exact k3 | exact ⟨b0, b1, c0, c1⟩)
            (first
              | (go_at_call 80; refine (l1Reach_any n u x.a (some ⟨b, o, none⟩) cap ws _ (HRR.out.drewNR _) HS.out hu0 (by omega) ha0 han).mono ?_; rintro e3 w3 ⟨rfl, hb3⟩; have g3 : Below wr.heap.size wr w3 := und hb3; have k3 := keep4 g3 ⟨b0, b1, c0, c1⟩ hz hBr; have z3 := Nat.lt_of_lt_of_le hz g3.size))
          have HB3 := Lib.hid (bstep (B := w.heap.size) (W := w) HB0.out (by omega) g3)
          clear g3 hb3
          go_wp2_with fail
          go_roundw
          case rel => exact ⟨k + 1, by omega, by go_num, by rw [HY.out], k3.1, k3.2.1, HB3.out, z3⟩
          case measure => simp [intOf]; omega
      · have hkl : k = ws.length := by omega
        subst hkl
        go_wp2_with fail
        go_ret
        exact ⟨rfl, hb⟩
end Go.Proofs.YtkjheobeogkhlaaDoor
