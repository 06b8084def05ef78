/- The table over sets of ends, of the model. -/
import Derived.Test.YtbbomajgmgmigaaDoorFz
import Derived.Test.YtbbomajgmgmigaaDoorTd
import Derived.Test.YtbbomajgmgmigaaDoorWC
set_option linter.unusedSimpArgs false
set_option linter.unusedVariables false
attribute [local go_sem ↓] Go.wp_at_zero Go.wp_at_succ
namespace Go.Proofs.YtbbomajgmgmigaaDoor
open Go.ChangeShapes Go.WideShapes Go.ChangeAt Go.RowKit

theorem RowsP.toR {w : World} {base m a : Nat} {v : Value} {R C : Nat → Nat} {f : Nat → Nat → Int} (h : RowsP w base m a v R C f) (ha : 0 < a) : ∃ T cT, v = .slice (some ⟨T, 0, none⟩) a cT ∧ TabR w base w.heap.size T a m R C f := by
  obtain ⟨T, cT, rfl, h1, h2⟩ := h.own.form ha
  refine ⟨T, cT, rfl, fun i hi => ?_, h.row, h.inj, fun i hi e => h.neO i hi (by rw [e]; rfl), ⟨h1, h2⟩, h.rlo, Nat.le_refl _⟩
  rw [h.own.cellAt i (by omega)]
  exact rowCells_at m R C hi
theorem intCells_congr {f g : Nat → Int} {k : Nat} (h : ∀ j, j < k → f j = g j) : intCells f k = intCells g k := by
  unfold intCells
  exact List.map_congr_left fun j hj => by rw [h j (List.mem_range.1 hj)]
/-- behind an append to a row of one's own -/
theorem below_grown {B : Nat} {w0 w w1 w5 : World} {base size n : Nat} {e : TypeId} {v : Value} {xs : List Value} (h : Below B w0 w) (hB : B ≤ base) (hBw : B ≤ w.heap.size) (h1 : Below w.heap.size w w1) (ho : w.ownsRow base e size v n xs) (hg : w1.grownBy w5 v.ownBlock) : Below B w0 w5 := by
  have h9 := bstep h hBw h1
  exact ⟨hg.os.trans h9.os, hg.tape.trans h9.tape, hg.output.trans h9.output, Nat.le_trans h9.size hg.size, fun i hi => (hg.block i (by have := h1.size; omega) (fun e => by have := (ho.lt i e.symm).1; omega)).trans (h9.block i hi)⟩
set_option maxHeartbeats 1000000 in
theorem l3Lower_any (a c : Int) (hc : 0 ≤ c) (w : World) :
    Calls Tryd.prog 71 #[.int .i64 a, .int .i64 c] w fun e w' => e = .returned (.int .i64 (lowC a c)) ∧ Below w.heap.size w w' := by
  by_cases h1 : a < 0
  · have HV : Hid (lowC a c = c) := if_pos (.inl h1)
    go_enter Tryd.func71, Tryd.ntmps71
    go_wp2_with fail
    go_ret
    exact ⟨by rw [HV.out]; rfl, Below.refl _ _⟩
  · have hd1 : decide (a < 0) = false := by simpa using h1
    by_cases h2 : c < a
    · have HV : Hid (lowC a c = c) := if_pos (.inr h2)
      go_enter Tryd.func71, Tryd.ntmps71
      go_wp2_with fail
      go_ret
      exact ⟨by rw [HV.out]; rfl, Below.refl _ _⟩
    · have hd2 : decide (c < a) = false := by simpa using h2
      have HV : Hid (lowC a c = a) := if_neg (fun e => e.elim h1 h2)
      go_enter Tryd.func71, Tryd.ntmps71
      go_wp2_with fail
      go_ret
      exact ⟨by rw [HV.out]; rfl, Below.refl _ _⟩
def NewFeetN (N m : Nat) (ws : List Wy) (w : World) (e : Ending) (w' : World) : Prop :=
  ∃ T cT lo hi R C, e = .returned (.slice (some ⟨T, 0, none⟩) N cT) ∧ TabR w' lo hi T N m R C (FT ws) ∧ w.heap.size ≤ lo ∧ Below w.heap.size w w'
set_option maxHeartbeats 16000000 in
set_option maxRecDepth 100000 in
theorem l3Table_any (m N : Nat) (hN : 2 ^ m = N) (A : Option Addr) (cap : Nat) (ws : List Wy) (w : World) (hr : RW w w.heap.size A ws) (hni : NetIs (m : Int) ws) :
    Calls Tryd.prog 56 #[.agg #[.int .i64 m, .slice A ws.length cap]] w (NewFeetN N m ws w) := by
  have HR := Lib.hid hr
  have HN := Lib.hid hni
  have hn2 := hni.lo
  have hn6 := hni.hi
  have hm2 : 2 ≤ m := by omega
  have hm6 : m ≤ 6 := by omega
  have hN64 : N ≤ 64 := by rw [← hN]; exact Nat.pow_le_pow_right (n := 2) (by omega) hm6
  have hN1 : 1 ≤ N := by rw [← hN]; exact Nat.one_le_two_pow
  have hNI : ((2 : Int) ^ m) = (N : Int) := by rw [← hN]; simp
  have hwN : IntKind.i64.wrap ((2 : Int) ^ m) = (N : Int) := by rw [hNI]; exact IntWalk.i64_in _ ⟨by omega, by omega⟩
  have hwN2 : wrap64 ((2 : Int) ^ m) = (N : Int) := by rw [hNI]; exact IntWalk.wrap64_in _ ⟨by omega, by omega⟩
  have HWN := Lib.hid hwN
  have HWN2 := Lib.hid hwN2
  have HNN := Lib.hid hN
  have hbs2 := noRows
  clear hr hni hN hNI hwN hwN2
  go_enter Tryd.func56, Tryd.ntmps56
  go_wp2_with fail
  refine (l1Far_any m A cap ws _ (HR.out.later (by go_grown)) HN.out).mono ?_; rintro e w1 ⟨T0, cT0, lo0, hi0, R0, C0, rfl, htab, hlo, hb1⟩
  have k1 : w1.cell? ⟨w.heap.size, 0, none⟩ = some (.int .i64 m) ∧ w1.cell? ⟨w.heap.size, 1, none⟩ = some (.slice A ws.length cap) := by
    obtain ⟨hc1, hf1⟩ := bcell hb1
    exact ⟨by go_simp, by go_simp⟩
  have hz1 : w.heap.size < w1.heap.size := by have hq := hb1.size; (try simp at hq); omega
  have HB1 := Lib.hid (bstep (B := w.heap.size) (W := w) (by go_grown) (by go_size) hb1)
  have HF1 := Lib.hid htab
  have hhi0 := htab.his
  clear hb1 htab hlo
  obtain ⟨k10, k11⟩ := k1
  go_wp2_with fail
  clear hbs2
  go_loopw [4, 5] (fun v i wr => ∃ (k : Nat) (R C : Nat → Nat), k ≤ N ∧ i = .int .i64 k ∧ Below w1.heap.size w1 wr ∧ RowsP wr w1.heap.size m k v R C (FT ws)) (fun _ i _ => N - (intOf i).toNat)
  case atStart =>
    refine ⟨0, fun _ => 0, fun _ => 0, Nat.zero_le _, rfl, by go_grown, ?_, fun i j h => by omega, fun i h => by omega, fun i j h => by omega, fun i h => by omega⟩
    exact World.ownsRow_made (base := w1.heap.size) (e := 33) (size := 1) w1 #[] 0 (by simp) (by unfold maxLen; omega) rfl
  case round =>
    obtain ⟨k, R, C, hk, rfl, hb, hrows⟩ := hrel
    obtain ⟨A1, c1, rfl⟩ := ownForm hrows.own
    have HB0 := Lib.hid hb
    have HRP := Lib.hid hrows
    have k0 : (0 : Int) ≤ (k : Int) := by omega
    have b0 : wr.cell? ⟨w.heap.size, 0, none⟩ = some (.int .i64 m) := (hb.cell (p := ⟨w.heap.size, 0, none⟩) hz1).trans k10
    have hzw : w1.heap.size ≤ wr.heap.size := hb.size
    clear hb hrows
    by_cases hlk : k < N
    · have kN : (k : Int) < (N : Int) := by omega
      have hkm : k < 2 ^ m := by rw [HNN.out]; exact hlk
      have hk64 : k < 64 := by omega
      obtain ⟨wo, hwo⟩ : ∃ wo : World, wo = wr := ⟨_, rfl⟩
      subst hwo
      have hbs1 := noInts
      have hwn := HWN.out
      have hwn2 := HWN2.out
      go_wp2_with fail
      clear hbs1 hwn hwn2
      go_loopw [6, 7] (fun u j wr => ∃ (v : Nat) (r : Nat → Int), v ≤ m ∧ j = .int .i64 v ∧ wr.ownsRow wo.heap.size 3 1 u v (intCells r v) ∧ (∀ x, x < v → SplitC ws k 1 x (r x)) ∧ Below wo.heap.size wo wr) (fun _ j _ => m - (intOf j).toNat)
      case atStart =>
        refine ⟨0, fun _ => 0, Nat.zero_le _, rfl, ?_, fun x h => by omega, by go_grown⟩
        exact World.ownsRow_made (base := wo.heap.size) (e := 3) (size := 1) wo #[] 0 (Nat.le_refl _) (by unfold maxLen; omega) rfl
      case round =>
        obtain ⟨v, r, hv, rfl, hown, hsp, hbw⟩ := hrel
        obtain ⟨A2, c2, rfl⟩ := ownForm hown
        have HOW := Lib.hid hown
        have HBW := Lib.hid hbw
        have HSP := Lib.hid hsp
        have d0 : wr.cell? ⟨w.heap.size, 0, none⟩ = some (.int .i64 m) := (hbw.cell (p := ⟨w.heap.size, 0, none⟩) (by show w.heap.size < _; omega)).trans b0
        have hsz := hbw.size
        have v0 : (0 : Int) ≤ (v : Int) := by omega
        clear hown hbw hsp
        by_cases hlv : v < m
        · have v1 : (v : Int) < (m : Int) := by omega
          have HRR := Lib.hid (HRP.out.below HBW.out)
          have pv := pow_bd (v : Int) 6 (by omega)
          rw [Int.toNat_natCast] at pv
          have han : bits .andNot .i64 (k : Int) (2 ^ v) = idiff (k : Int) (2 ^ v) := bits_andNot _ _ (by omega) (by omega) (by omega) (by omega)
          have HW1 : Hid (IntKind.i64.wrap (2 ^ v) = 2 ^ v) := IntWalk.i64_in _ ⟨by omega, by omega⟩
          have HW2 : Hid (wrap64 (2 ^ v) = 2 ^ v) := IntWalk.wrap64_in _ ⟨by omega, by omega⟩
          -- the first part
          obtain ⟨P0, hP0, hP1, hP2⟩ : ∃ P0 : Nat, bits .and .i64 ((k : Int) - 1) (k : Int) = (P0 : Int) ∧ (P0 < k ∨ k = 0 ∧ P0 = 0) ∧ P0 &&& k = P0 ∧ (∀ P, P0 + 1 ≤ P → P < k → 0 < P → P &&& k = P → k ≤ P) := by
            by_cases hk0 : k = 0
            · subst hk0
              exact ⟨0, bits_and0, .inr ⟨rfl, rfl⟩, rfl, fun P _ h => by omega⟩
            · have hs : k &&& k = k := Nat.and_self k
              have hd := dn_sub hk64 hs (by omega)
              exact ⟨(k - 1) &&& k, bits_dn hk64 (Nat.le_refl _) (by omega), .inl hd.1, hd.2, fun P h1 h2 h3 h4 => by
                have := dn_next hk64 hs (by omega) h2 h4
                omega⟩
          have hP2a := hP2.1
          have HP2 := Lib.hid hP2.2
          clear hP2
          have HST : Hid (SplitC ws k (P0 + 1) v (footF k v)) := (foot_first HN.out k hlv).down HP2.out
          clear HP2
          by_cases hz : idiff (k : Int) (2 ^ v) = 0
          · have hd1 : bits .andNot .i64 (k : Int) (2 ^ v) = 0 := by rw [han, hz]
            have hfv : footF k v = 0 := if_pos hz
            rw [hfv] at HST
            clear han hz pv hfv
            have hw1 := HW1.out
            have hw2 := HW2.out
            go_wp2_with fail
            clear hd1 hw1 hw2
            obtain ⟨wx, hwx⟩ : ∃ wx : World, wx = wr := ⟨_, rfl⟩
            subst hwx
            go_loopw [8, 9] (fun n p wr => ∃ (q : Nat) (x : Int), n = .int .i64 x ∧ p = .int .i64 q ∧ (q < k ∨ k = 0 ∧ q = 0) ∧ q &&& k = q ∧ SplitC ws k (q + 1) v x ∧ Below wx.heap.size wx wr) (fun _ p _ => (intOf p).toNat)
            case atStart => exact ⟨P0, _, rfl, by first | rfl | (rw [hP0]), hP1, hP2a, HST.out, Below.refl _ _⟩
            case round =>
              clear HST hP0 hP1 hP2a
              obtain ⟨q, x, rfl, rfl, hq1, hq2, hsc, hbx⟩ := hrel
              have HSC := Lib.hid hsc
              have HBX := Lib.hid hbx
              have hzx : wx.heap.size ≤ wr.heap.size := hbx.size
              have d1 : wr.cell? ⟨w.heap.size, 0, none⟩ = some (.int .i64 m) := (hbx.cell (p := ⟨w.heap.size, 0, none⟩) (by show w.heap.size < _; omega)).trans d0
              clear hsc hbx
              by_cases hq0 : 0 < q
              · have hq0' : (0 : Int) < (q : Int) := by omega
                have hqk : q < k := by omega
                obtain ⟨ho1, ho2, ho3, ho4⟩ := nd_or hk64 hq2
                have hnk : nd k q < k := ho3 hq0
                obtain ⟨T, cT, hvT, htab⟩ := (HRR.out.below HBX.out).toR (by omega)
                injection hvT with hA1 _ hcT
                subst hA1
                subst hcT
                have tq := htab.top q hqk
                have tn := htab.top (nd k q) hnk
                have rq := (htab.row q v hqk hlv).1
                have rn := (htab.row (nd k q) v hnk hlv).1
                have b1 := FT_bd HN.out q v
                have b2 := FT_bd HN.out (nd k q) v
                obtain ⟨X, hX⟩ : ∃ X, FT ws q v = X := ⟨_, rfl⟩
                obtain ⟨Y, hY⟩ : ∃ Y, FT ws (nd k q) v = Y := ⟨_, rfl⟩
                rw [hX] at rq b1
                rw [hY] at rn b2
                have HX := Lib.hid hX
                have HY := Lib.hid hY
                have hnd := bits_nd hk64 (show q ≤ k by omega)
                have q0i : (0 : Int) ≤ (q : Int) := by omega
                have q1i : (q : Int) < (k : Int) := by omega
                have n0i : (0 : Int) ≤ ((nd k q : Nat) : Int) := by omega
                have n1i : ((nd k q : Nat) : Int) < (k : Int) := by omega
                have hdn := dn_sub hk64 hq2 hq0
                have hand := bits_dn hk64 (show q ≤ k by omega) hq0
                have HND := Lib.hid (show ∀ P, ((q - 1) &&& k) + 1 ≤ P → P < k → 0 < P → P &&& k = P → q ≤ P from fun P h1 h2 h3 h4 => by
                  apply Classical.byContradiction
                  intro hno
                  have := dn_next hk64 hq2 hq0 (show P < q by omega) h4
                  omega)
                have hdl : (q - 1) &&& k < k := by omega
                have hsub : IntKind.i64.wrap ((q : Int) - 1) = (q : Int) - 1 := IntWalk.i64_in _ ⟨by omega, by omega⟩
                clear hX hY htab
                by_cases hx0 : 0 ≤ X
                · by_cases hy0 : 0 ≤ Y
                  · have hwr : IntKind.i64.wrap (X + Y) = X + Y := IntWalk.i64_in _ ⟨by clear hsub; omega, by clear hsub; omega⟩
                    have hwr2 : wrap64 (X + Y) = X + Y := IntWalk.wrap64_in _ ⟨by clear hsub hwr; omega, by clear hsub hwr; omega⟩
                    have HSN : Hid (SplitC ws k (((q - 1) &&& k) + 1) v (lowC x (X + Y))) := by
                      have h := HSC.out.take HN.out hkm hq2 hlv (by rw [HX.out]; exact hx0) (by rw [HY.out]; exact hy0)
                      rw [HX.out, HY.out] at h
                      exact h.down HND.out
                    have HXY : Hid (0 ≤ X + Y) := Int.add_nonneg hx0 hy0
                    go_wp2_with fail
                    refine (l3Lower_any x (X + Y) HXY.out _).mono ?_; rintro e w9 ⟨rfl, hb9⟩
                    have HB9 := Lib.hid (bstep HBX.out hzx hb9)
                    clear hwr hwr2 hb9
                    go_wp2_with fail
                    clear hsub
                    first
                      | (refine ⟨⟨(q - 1) &&& k, _, rfl, rfl, .inl hdl, hdn.2, HSN.out, HB9.out⟩, ?_⟩
                         simp only [intOf]
                         omega)
                      | (go_simp
                         refine ⟨⟨(q - 1) &&& k, rfl, .inl hdl, hdn.2, HSN.out, HB9.out⟩, ?_⟩
                         simp only [intOf]
                         omega)
                      | (go_roundw
                         case rel => exact ⟨(q - 1) &&& k, _, rfl, by first | rfl | (rw [hand]), .inl hdl, hdn.2, HSN.out, HB9.out⟩
                         case measure => simp only [intOf]; first | omega | (rw [hand]; simp only [intOf]; omega))
                  · have HSN : Hid (SplitC ws k (((q - 1) &&& k) + 1) v x) := (HSC.out.skip (fun h => by have h2 := h.2; rw [HY.out] at h2; exact hy0 h2)).down HND.out
                    go_wp2_with fail
                    clear hsub
                    go_roundw
                    case rel => exact ⟨(q - 1) &&& k, _, rfl, by first | rfl | (rw [hand]), .inl hdl, hdn.2, HSN.out, HBX.out⟩
                    case measure => simp only [intOf]; first | omega | (rw [hand]; simp only [intOf]; omega)
                · have HSN : Hid (SplitC ws k (((q - 1) &&& k) + 1) v x) := (HSC.out.skip (fun h => by have h2 := h.1; rw [HX.out] at h2; exact hx0 h2)).down HND.out
                  go_wp2_with fail
                  clear hsub
                  go_roundw
                  case rel => exact ⟨(q - 1) &&& k, _, rfl, by first | rfl | (rw [hand]), .inl hdl, hdn.2, HSN.out, HBX.out⟩
                  case measure => simp only [intOf]; first | omega | (rw [hand]; simp only [intOf]; omega)
              · have hq0' : ¬ (0 : Int) < (q : Int) := by omega
                have hqz : q = 0 := by omega
                subst hqz
                obtain ⟨i0, hi0, hz0, hz1', hz2⟩ := info_parts intInfo
                have HO4 := Lib.hid (ownBelow HOW.out HBX.out)
                have HBW4 := Lib.hid (bstep HBW.out hsz HBX.out)
                go_wp2_with (at_builtin; refine wpList_append_lies _ rfl _ _ _ rfl wo.heap.size 3 i0 _ 1 8 Tryd.underlying33 hi0 hz0 hz1' hz2 rfl (by omega) (.slice A2 v c2) v (intCells r v) rfl (HO4.out.alloc _) ⟨wr.heap.size, 0, none⟩ 1 1 [.int .i64 x] rfl rfl (World.news_of_block (cs := #[.int .i64 x]) (t := 3) (fr := (0, 0)) (heap_alloc_new wr _)) (by simp [Value.oneCell']) (by omega) (by unfold maxLen; omega) (by omega) (by simp; omega) (wr.heap.size + 1) (by simp) ?_; intro gg cc w5 hown5 hgrow5 hat5 hlt5)
                have HO5 : Hid (w5.ownsRow wo.heap.size 3 1 (.slice (some ⟨gg, 0, none⟩) (v + 1) cc) (v + 1) (intCells (fun j => if j = v then x else r j) (v + 1))) := by
                  show w5.ownsRow _ _ _ _ _ _
                  rw [intCells_snoc, if_pos rfl, intCells_congr (g := r) (fun j hj => if_neg (by omega))]
                  exact hown5
                have HB5 : Hid (Below wo.heap.size wo w5) := below_grown HBW4.out (Nat.le_refl _) (Nat.le_trans hsz hzx) ((Below.refl _ _).alloc (Nat.le_refl _) _) HO4.out hgrow5
                have HSP5 : Hid (∀ y, y < v + 1 → SplitC ws k 1 y (if y = v then x else r y)) := fun y hy => by
                  by_cases e : y = v
                  · rw [if_pos e, e]; exact HSC.out
                  · rw [if_neg e]; exact HSP.out y (by omega)
                clear hown5 hgrow5 hat5 hlt5
                go_wp2_with fail
                go_roundw
                case rel => exact ⟨v + 1, _, by omega, by go_num, HO5.out, HSP5.out, HB5.out⟩
                case measure => (simp [intOf]) <;> omega
          · have hd1 : ¬ bits .andNot .i64 (k : Int) (2 ^ v) = 0 := by rw [han]; exact hz
            have hfv : footF k v = -1 := if_neg hz
            rw [hfv] at HST
            clear han hz pv hfv
            have hw1 := HW1.out
            have hw2 := HW2.out
            go_wp2_with fail
            clear hd1 hw1 hw2
            obtain ⟨wx, hwx⟩ : ∃ wx : World, wx = wr := ⟨_, rfl⟩
            subst hwx
            go_loopw [8, 9] (fun n p wr => ∃ (q : Nat) (x : Int), n = .int .i64 x ∧ p = .int .i64 q ∧ (q < k ∨ k = 0 ∧ q = 0) ∧ q &&& k = q ∧ SplitC ws k (q + 1) v x ∧ Below wx.heap.size wx wr) (fun _ p _ => (intOf p).toNat)
            case atStart => exact ⟨P0, _, rfl, by first | rfl | (rw [hP0]), hP1, hP2a, HST.out, Below.refl _ _⟩
            case round =>
              clear HST hP0 hP1 hP2a
              obtain ⟨q, x, rfl, rfl, hq1, hq2, hsc, hbx⟩ := hrel
              have HSC := Lib.hid hsc
              have HBX := Lib.hid hbx
              have hzx : wx.heap.size ≤ wr.heap.size := hbx.size
              have d1 : wr.cell? ⟨w.heap.size, 0, none⟩ = some (.int .i64 m) := (hbx.cell (p := ⟨w.heap.size, 0, none⟩) (by show w.heap.size < _; omega)).trans d0
              clear hsc hbx
              by_cases hq0 : 0 < q
              · have hq0' : (0 : Int) < (q : Int) := by omega
                have hqk : q < k := by omega
                obtain ⟨ho1, ho2, ho3, ho4⟩ := nd_or hk64 hq2
                have hnk : nd k q < k := ho3 hq0
                obtain ⟨T, cT, hvT, htab⟩ := (HRR.out.below HBX.out).toR (by omega)
                injection hvT with hA1 _ hcT
                subst hA1
                subst hcT
                have tq := htab.top q hqk
                have tn := htab.top (nd k q) hnk
                have rq := (htab.row q v hqk hlv).1
                have rn := (htab.row (nd k q) v hnk hlv).1
                have b1 := FT_bd HN.out q v
                have b2 := FT_bd HN.out (nd k q) v
                obtain ⟨X, hX⟩ : ∃ X, FT ws q v = X := ⟨_, rfl⟩
                obtain ⟨Y, hY⟩ : ∃ Y, FT ws (nd k q) v = Y := ⟨_, rfl⟩
                rw [hX] at rq b1
                rw [hY] at rn b2
                have HX := Lib.hid hX
                have HY := Lib.hid hY
                have hnd := bits_nd hk64 (show q ≤ k by omega)
                have q0i : (0 : Int) ≤ (q : Int) := by omega
                have q1i : (q : Int) < (k : Int) := by omega
                have n0i : (0 : Int) ≤ ((nd k q : Nat) : Int) := by omega
                have n1i : ((nd k q : Nat) : Int) < (k : Int) := by omega
                have hdn := dn_sub hk64 hq2 hq0
                have hand := bits_dn hk64 (show q ≤ k by omega) hq0
                have HND := Lib.hid (show ∀ P, ((q - 1) &&& k) + 1 ≤ P → P < k → 0 < P → P &&& k = P → q ≤ P from fun P h1 h2 h3 h4 => by
                  apply Classical.byContradiction
                  intro hno
                  have := dn_next hk64 hq2 hq0 (show P < q by omega) h4
                  omega)
                have hdl : (q - 1) &&& k < k := by omega
                have hsub : IntKind.i64.wrap ((q : Int) - 1) = (q : Int) - 1 := IntWalk.i64_in _ ⟨by omega, by omega⟩
                clear hX hY htab
                by_cases hx0 : 0 ≤ X
                · by_cases hy0 : 0 ≤ Y
                  · have hwr : IntKind.i64.wrap (X + Y) = X + Y := IntWalk.i64_in _ ⟨by clear hsub; omega, by clear hsub; omega⟩
                    have hwr2 : wrap64 (X + Y) = X + Y := IntWalk.wrap64_in _ ⟨by clear hsub hwr; omega, by clear hsub hwr; omega⟩
                    have HSN : Hid (SplitC ws k (((q - 1) &&& k) + 1) v (lowC x (X + Y))) := by
                      have h := HSC.out.take HN.out hkm hq2 hlv (by rw [HX.out]; exact hx0) (by rw [HY.out]; exact hy0)
                      rw [HX.out, HY.out] at h
                      exact h.down HND.out
                    have HXY : Hid (0 ≤ X + Y) := Int.add_nonneg hx0 hy0
                    go_wp2_with fail
                    refine (l3Lower_any x (X + Y) HXY.out _).mono ?_; rintro e w9 ⟨rfl, hb9⟩
                    have HB9 := Lib.hid (bstep HBX.out hzx hb9)
                    clear hwr hwr2 hb9
                    go_wp2_with fail
                    clear hsub
                    first
                      | (refine ⟨⟨(q - 1) &&& k, _, rfl, rfl, .inl hdl, hdn.2, HSN.out, HB9.out⟩, ?_⟩
                         simp only [intOf]
                         omega)
                      | (go_simp
                         refine ⟨⟨(q - 1) &&& k, rfl, .inl hdl, hdn.2, HSN.out, HB9.out⟩, ?_⟩
                         simp only [intOf]
                         omega)
                      | (go_roundw
                         case rel => exact ⟨(q - 1) &&& k, _, rfl, by first | rfl | (rw [hand]), .inl hdl, hdn.2, HSN.out, HB9.out⟩
                         case measure => simp only [intOf]; first | omega | (rw [hand]; simp only [intOf]; omega))
                  · have HSN : Hid (SplitC ws k (((q - 1) &&& k) + 1) v x) := (HSC.out.skip (fun h => by have h2 := h.2; rw [HY.out] at h2; exact hy0 h2)).down HND.out
                    go_wp2_with fail
                    clear hsub
                    go_roundw
                    case rel => exact ⟨(q - 1) &&& k, _, rfl, by first | rfl | (rw [hand]), .inl hdl, hdn.2, HSN.out, HBX.out⟩
                    case measure => simp only [intOf]; first | omega | (rw [hand]; simp only [intOf]; omega)
                · have HSN : Hid (SplitC ws k (((q - 1) &&& k) + 1) v x) := (HSC.out.skip (fun h => by have h2 := h.1; rw [HX.out] at h2; exact hx0 h2)).down HND.out
                  go_wp2_with fail
                  clear hsub
                  go_roundw
                  case rel => exact ⟨(q - 1) &&& k, _, rfl, by first | rfl | (rw [hand]), .inl hdl, hdn.2, HSN.out, HBX.out⟩
                  case measure => simp only [intOf]; first | omega | (rw [hand]; simp only [intOf]; omega)
              · have hq0' : ¬ (0 : Int) < (q : Int) := by omega
                have hqz : q = 0 := by omega
                subst hqz
                obtain ⟨i0, hi0, hz0, hz1', hz2⟩ := info_parts intInfo
                have HO4 := Lib.hid (ownBelow HOW.out HBX.out)
                have HBW4 := Lib.hid (bstep HBW.out hsz HBX.out)
                go_wp2_with (at_builtin; refine wpList_append_lies _ rfl _ _ _ rfl wo.heap.size 3 i0 _ 1 8 Tryd.underlying33 hi0 hz0 hz1' hz2 rfl (by omega) (.slice A2 v c2) v (intCells r v) rfl (HO4.out.alloc _) ⟨wr.heap.size, 0, none⟩ 1 1 [.int .i64 x] rfl rfl (World.news_of_block (cs := #[.int .i64 x]) (t := 3) (fr := (0, 0)) (heap_alloc_new wr _)) (by simp [Value.oneCell']) (by omega) (by unfold maxLen; omega) (by omega) (by simp; omega) (wr.heap.size + 1) (by simp) ?_; intro gg cc w5 hown5 hgrow5 hat5 hlt5)
                have HO5 : Hid (w5.ownsRow wo.heap.size 3 1 (.slice (some ⟨gg, 0, none⟩) (v + 1) cc) (v + 1) (intCells (fun j => if j = v then x else r j) (v + 1))) := by
                  show w5.ownsRow _ _ _ _ _ _
                  rw [intCells_snoc, if_pos rfl, intCells_congr (g := r) (fun j hj => if_neg (by omega))]
                  exact hown5
                have HB5 : Hid (Below wo.heap.size wo w5) := below_grown HBW4.out (Nat.le_refl _) (Nat.le_trans hsz hzx) ((Below.refl _ _).alloc (Nat.le_refl _) _) HO4.out hgrow5
                have HSP5 : Hid (∀ y, y < v + 1 → SplitC ws k 1 y (if y = v then x else r y)) := fun y hy => by
                  by_cases e : y = v
                  · rw [if_pos e, e]; exact HSC.out
                  · rw [if_neg e]; exact HSP.out y (by omega)
                clear hown5 hgrow5 hat5 hlt5
                go_wp2_with fail
                go_roundw
                case rel => exact ⟨v + 1, _, by omega, by go_num, HO5.out, HSP5.out, HB5.out⟩
                case measure => (simp [intOf]) <;> omega
        · have hvm : v = m := by omega
          subst hvm
          obtain ⟨g, cg, hvg, hg1, hg2⟩ := HOW.out.form (by omega)
          injection hvg with hA2 _ hcg
          subst hA2
          subst hcg
          obtain ⟨wp, hwp⟩ : ∃ wp : World, wp = wr := ⟨_, rfl⟩
          subst hwp
          have hbs1 := noInts
          go_wp2_with fail
          clear hbs1
          go_loopw [12, 13] (fun u j wr => ∃ b : Nat, b ≤ v ∧ j = .int .i64 b ∧ wr.ownsRow wp.heap.size 3 1 u b (intCells (FT ws k) b) ∧ Below wp.heap.size wp wr) (fun _ j _ => v - (intOf j).toNat)
          case atStart =>
            refine ⟨0, Nat.zero_le _, rfl, ?_, by go_grown⟩
            exact World.ownsRow_made (base := wp.heap.size) (e := 3) (size := 1) wp #[] 0 (Nat.le_refl _) (by unfold maxLen; omega) rfl
          case round =>
            obtain ⟨b, hb', rfl, hown, hbp⟩ := hrel
            obtain ⟨A3, c3, rfl⟩ := ownForm hown
            have HO3 := Lib.hid hown
            have HBP := Lib.hid hbp
            have e0 : wr.cell? ⟨w.heap.size, 0, none⟩ = some (.int .i64 v) := (hbp.cell (p := ⟨w.heap.size, 0, none⟩) (by show w.heap.size < _; omega)).trans d0
            have hsz3 := hbp.size
            have bb0 : (0 : Int) ≤ (b : Int) := by omega
            clear hown hbp
            by_cases hlb : b < v
            · have b1 : (b : Int) < (v : Int) := by omega
              have hrb : wr.cell? ⟨g, b, none⟩ = some (.int .i64 (r b)) := by
                rw [(ownBelow HOW.out HBP.out).cellAt b (by omega)]
                exact intCells_at r hlb
              have HST : Hid (MoveC v ws k r b 0 1200 (r b)) := MoveC.first (HSP.out b hlb) (by omega)
              go_wp2_with fail
              clear hrb
              obtain ⟨wx, hwx⟩ : ∃ wx : World, wx = wr := ⟨_, rfl⟩
              subst hwx
              go_loopw [14, 15] (fun n p wr => ∃ (a : Nat) (x : Int), a ≤ v ∧ n = .int .i64 x ∧ p = .int .i64 a ∧ MoveC v ws k r b a 1200 x ∧ Below wx.heap.size wx wr) (fun _ p _ => v - (intOf p).toNat)
              case atStart => exact ⟨0, r b, Nat.zero_le _, rfl, rfl, HST.out, Below.refl _ _⟩
              case round =>
                clear HST
                obtain ⟨a, x, ha, rfl, rfl, hmv, hbx⟩ := hrel
                have HMV := Lib.hid hmv
                have HBX := Lib.hid hbx
                have a0 : (0 : Int) ≤ (a : Int) := by omega
                have f0 : wr.cell? ⟨w.heap.size, 0, none⟩ = some (.int .i64 v) := (hbx.cell (p := ⟨w.heap.size, 0, none⟩) (by show w.heap.size < _; omega)).trans e0
                have hzx : wx.heap.size ≤ wr.heap.size := hbx.size
                clear hmv hbx
                by_cases hla : a < v
                · have a1 : (a : Int) < (v : Int) := by omega
                  have hra : wr.cell? ⟨g, a, none⟩ = some (.int .i64 (r a)) := by
                    rw [(ownBelow (ownBelow HOW.out HBP.out) HBX.out).cellAt a (by omega)]
                    exact intCells_at r hla
                  have hzg : g < wr.heap.size := by omega
                  have HFR := Lib.hid ((((HF1.out.below HB0.out).below HBW.out).below HBP.out).below HBX.out)
                  have ta := HFR.out.top a hla
                  have rab := (HFR.out.row a b hla hlb).1
                  have hsa := HSP.out a hla
                  have hfd := farF_bd HN.out hla hlb
                  obtain ⟨y, hy⟩ : ∃ y, r a = y := ⟨_, rfl⟩
                  obtain ⟨D, hD⟩ : ∃ D, farF ws v a b = D := ⟨_, rfl⟩
                  have hsb := hsa.bd
                  have hso := hsa.so
                  rw [hy] at hra hsb hso
                  rw [hD] at rab hfd
                  have HY := Lib.hid hy
                  have HD := Lib.hid hD
                  have HSO := Lib.hid hso
                  clear hy hD hsa hso
                  by_cases hy0 : 0 ≤ y
                  · by_cases hd0 : 0 ≤ D
                    · have hwr : IntKind.i64.wrap (y + D) = y + D := IntWalk.i64_in _ ⟨by omega, by omega⟩
                      have hwr2 : wrap64 (y + D) = y + D := IntWalk.wrap64_in _ ⟨by omega, by omega⟩
                      have HMN : Hid (MoveC v ws k r b (a + 1) 1200 (lowC x (y + D))) := by
                        have h := HMV.out.take HN.out hkm hla hlb (x := y) hy0 (HSO.out hy0) (fun _ => by rw [HY.out]; exact Int.le_refl _) (by rw [HD.out]; exact hd0) (by rw [HD.out]; clear hwr hwr2; omega)
                        rw [HD.out] at h
                        exact h
                      have hyD : 0 ≤ y + D := by clear hwr hwr2; omega
                      have HYD := Lib.hid hyD
                      clear hyD
                      go_wp2_with fail
                      refine wp_region_held_drew (S := (fun w' => w'.cell? ⟨g, a, none⟩ = some (.int .i64 y) ∧ w'.cell? ⟨T0, a, none⟩ = some (.slice (some ⟨R0 a, 0, none⟩) v (C0 a)) ∧ w'.cell? ⟨R0 a, b, none⟩ = some (.int .i64 D))) (by kernel_rfl) ?_ (fun hHeld => ?_)
                      · exact ⟨hra, ta, rab⟩
                      refine wpAnyH_take (i := 0) (v := ?_) rfl (by kernel_rfl) (by kernel_rfl) (by kernel_rfl) (fun _ _ _ h => h) (Or.inl ⟨by rfl, ?_⟩) (by assumption) ?_
                      rotate_left
                      · (intro w hSw; (try dsimp only at hSw); (try simp only [List.getElem_toArray, List.getElem_cons_succ, List.getElem_cons_zero]); first | (go_simp; done) | (go_simp; with_reducible rfl))
                      try simp only [Act.put, List.getElem_toArray, List.getElem_cons_succ, List.getElem_cons_zero, List.setIfInBounds_toArray, List.set_cons_zero, List.set_cons_succ]
                      refine wpAnyH_take (i := 1) (v := ?_) rfl (by kernel_rfl) (by kernel_rfl) (by kernel_rfl) (fun _ _ _ h => h) (Or.inl ⟨by rfl, ?_⟩) (by assumption) ?_
                      rotate_left
                      · (intro w hSw; (try dsimp only at hSw); (try simp only [List.getElem_toArray, List.getElem_cons_succ, List.getElem_cons_zero]); first | (go_simp; done) | (go_simp; with_reducible rfl))
                      try simp only [Act.put, List.getElem_toArray, List.getElem_cons_succ, List.getElem_cons_zero, List.setIfInBounds_toArray, List.set_cons_zero, List.set_cons_succ]
                      refine wpAnyH_take (i := 2) (v := ?_) rfl (by kernel_rfl) (by kernel_rfl) (by kernel_rfl) (fun _ _ _ h => h) (Or.inl ⟨by rfl, ?_⟩) (by assumption) ?_
                      rotate_left
                      · (intro w hSw; (try dsimp only at hSw); (try simp only [List.getElem_toArray, List.getElem_cons_succ, List.getElem_cons_zero]); first | (go_simp; done) | (go_simp; with_reducible rfl))
                      try simp only [Act.put, List.getElem_toArray, List.getElem_cons_succ, List.getElem_cons_zero, List.setIfInBounds_toArray, List.set_cons_zero, List.set_cons_succ]
                      refine wpAnyH_take (i := 3) (v := ?_) rfl (by kernel_rfl) (by kernel_rfl) (by kernel_rfl) (fun _ _ _ h => h) (Or.inl ⟨by rfl, ?_⟩) (by assumption) ?_
                      rotate_left
                      · (intro w hSw; (try dsimp only at hSw); (try simp only [List.getElem_toArray, List.getElem_cons_succ, List.getElem_cons_zero]); first | (go_simp; done) | (go_simp; with_reducible rfl))
                      try simp only [Act.put, List.getElem_toArray, List.getElem_cons_succ, List.getElem_cons_zero, List.setIfInBounds_toArray, List.set_cons_zero, List.set_cons_succ]
                      refine wpAnyH_take (i := 4) (v := ?_) rfl (by kernel_rfl) (by kernel_rfl) (by kernel_rfl) (fun _ _ _ h => h) (Or.inl ⟨by rfl, ?_⟩) (by assumption) ?_
                      rotate_left
                      · (intro w hSw; (try dsimp only at hSw); (try simp only [List.getElem_toArray, List.getElem_cons_succ, List.getElem_cons_zero]); first | (go_simp; done) | (go_simp; with_reducible rfl))
                      try simp only [Act.put, List.getElem_toArray, List.getElem_cons_succ, List.getElem_cons_zero, List.setIfInBounds_toArray, List.set_cons_zero, List.set_cons_succ]
                      refine wpAnyH_take (i := 5) (v := ?_) rfl (by kernel_rfl) (by kernel_rfl) (by kernel_rfl) (fun _ _ _ h => h) (Or.inl ⟨by rfl, ?_⟩) (by assumption) ?_
                      rotate_left
                      · (intro w hSw; (try dsimp only at hSw); (try simp only [List.getElem_toArray, List.getElem_cons_succ, List.getElem_cons_zero]); first | (go_simp; done) | (go_simp; with_reducible rfl))
                      try simp only [Act.put, List.getElem_toArray, List.getElem_cons_succ, List.getElem_cons_zero, List.setIfInBounds_toArray, List.set_cons_zero, List.set_cons_succ]
                      refine wpAnyH_take (i := 6) (v := ?_) rfl (by kernel_rfl) (by kernel_rfl) (by kernel_rfl) (fun _ _ _ h => h) (Or.inl ⟨by rfl, ?_⟩) (by assumption) ?_
                      rotate_left
                      · (intro w hSw; (try dsimp only at hSw); (try simp only [List.getElem_toArray, List.getElem_cons_succ, List.getElem_cons_zero]); first | (go_simp; done) | (go_simp; with_reducible rfl))
                      try simp only [Act.put, List.getElem_toArray, List.getElem_cons_succ, List.getElem_cons_zero, List.setIfInBounds_toArray, List.set_cons_zero, List.set_cons_succ]
                      refine wpAnyH_take (i := 7) (v := ?_) rfl (by kernel_rfl) (by kernel_rfl) (by kernel_rfl) (fun _ _ _ h => h) (Or.inl ⟨by rfl, ?_⟩) (by assumption) ?_
                      rotate_left
                      · (intro w hSw; (try dsimp only at hSw); (try simp only [List.getElem_toArray, List.getElem_cons_succ, List.getElem_cons_zero]); first | (go_simp; done) | (go_simp; with_reducible rfl))
                      try simp only [Act.put, List.getElem_toArray, List.getElem_cons_succ, List.getElem_cons_zero, List.setIfInBounds_toArray, List.set_cons_zero, List.set_cons_succ]
                      refine wpAnyH_take (i := 8) (v := ?_) rfl (by kernel_rfl) (by kernel_rfl) (by kernel_rfl) (fun _ _ _ h => h) (Or.inl ⟨by rfl, ?_⟩) (by assumption) ?_
                      rotate_left
                      · (intro w hSw; (try dsimp only at hSw); (try simp only [List.getElem_toArray, List.getElem_cons_succ, List.getElem_cons_zero]); first | (go_simp; done) | (go_simp; with_reducible rfl))
                      try simp only [Act.put, List.getElem_toArray, List.getElem_cons_succ, List.getElem_cons_zero, List.setIfInBounds_toArray, List.set_cons_zero, List.set_cons_succ]
                      refine wpAnyH_take (i := 9) (v := ?_) rfl (by kernel_rfl) (by kernel_rfl) (by kernel_rfl) (fun _ _ _ h => h) (Or.inl ⟨by rfl, ?_⟩) (by assumption) ?_
                      rotate_left
                      · (intro w hSw; (try dsimp only at hSw); (try simp only [List.getElem_toArray, List.getElem_cons_succ, List.getElem_cons_zero]); first | (go_simp; done) | (go_simp; with_reducible rfl))
                      try simp only [Act.put, List.getElem_toArray, List.getElem_cons_succ, List.getElem_cons_zero, List.setIfInBounds_toArray, List.set_cons_zero, List.set_cons_succ]
                      refine wpAnyH_take (i := 10) (v := ?_) rfl (by kernel_rfl) (by kernel_rfl) (by kernel_rfl) (fun _ _ _ h => h) (Or.inl ⟨by rfl, ?_⟩) (by assumption) ?_
                      rotate_left
                      · (intro w hSw; (try dsimp only at hSw); (try simp only [List.getElem_toArray, List.getElem_cons_succ, List.getElem_cons_zero]); first | (go_simp; done) | (go_simp; with_reducible rfl))
                      try simp only [Act.put, List.getElem_toArray, List.getElem_cons_succ, List.getElem_cons_zero, List.setIfInBounds_toArray, List.set_cons_zero, List.set_cons_succ]
                      refine wpAnyH_take (i := 11) (v := ?_) rfl (by kernel_rfl) (by kernel_rfl) (by kernel_rfl) (fun _ _ _ h => h) (Or.inl ⟨by rfl, ?_⟩) (by assumption) ?_
                      rotate_left
                      · (intro w hSw; (try dsimp only at hSw); (try simp only [List.getElem_toArray, List.getElem_cons_succ, List.getElem_cons_zero]); first | (go_simp; done) | (go_simp; with_reducible rfl))
                      try simp only [Act.put, List.getElem_toArray, List.getElem_cons_succ, List.getElem_cons_zero, List.setIfInBounds_toArray, List.set_cons_zero, List.set_cons_succ]
                      refine wpAnyH_take (i := 12) (v := ?_) rfl (by kernel_rfl) (by kernel_rfl) (by kernel_rfl) (fun _ _ _ h => h) (Or.inl ⟨by rfl, ?_⟩) (by assumption) ?_
                      rotate_left
                      · (intro w hSw; (try dsimp only at hSw); (try simp only [List.getElem_toArray, List.getElem_cons_succ, List.getElem_cons_zero]); first | (go_simp; done) | (go_simp; with_reducible rfl))
                      try simp only [Act.put, List.getElem_toArray, List.getElem_cons_succ, List.getElem_cons_zero, List.setIfInBounds_toArray, List.set_cons_zero, List.set_cons_succ]
                      refine wpAnyH_ready (rs := [13]) (by kernel_rfl) (by simp) ?_
                      refine AllReadyH.cons rfl (fun K hK => ?_) AllReadyH.nil
                      try simp only [List.getElem_toArray, List.getElem_cons_succ, List.getElem_cons_zero]
                      go_simp
                      go_at_call 71; refine (l3Lower_any x (y + D) HYD.out _).mono ?_; rintro e9 w9 ⟨rfl, hb9⟩; have g9 : Below wr.heap.size wr w9 := und hb9; have k9 : w9.cell? ⟨g, a, none⟩ = some (.int .i64 y) ∧ w9.cell? ⟨T0, a, none⟩ = some (.slice (some ⟨R0 a, 0, none⟩) v (C0 a)) ∧ w9.cell? ⟨R0 a, b, none⟩ = some (.int .i64 D) := ⟨(g9.cell (p := ⟨g, a, none⟩) hzg).trans hra, (HFR.out.below g9).top a hla, (by have h9 := ((HFR.out.below g9).row a b hla hlb).1; rw [HD.out] at h9; exact h9)⟩
                      refine hK.out _ _ ?_ (fun hHeld => ?_)
                      · exact k9
                      clear hK K
                      try simp only [Act.put, List.getElem_toArray, List.getElem_cons_succ, List.getElem_cons_zero, List.setIfInBounds_toArray, List.set_cons_zero, List.set_cons_succ]
                      refine wpAnyH_take (i := 14) (v := ?_) rfl (by kernel_rfl) (by kernel_rfl) (by kernel_rfl) (fun _ _ _ h => h) (Or.inl ⟨by rfl, ?_⟩) (by assumption) ?_
                      rotate_left
                      · (intro w hSw; (try dsimp only at hSw); (try simp only [List.getElem_toArray, List.getElem_cons_succ, List.getElem_cons_zero]); first | (go_simp; done) | (go_simp; with_reducible rfl))
                      try simp only [Act.put, List.getElem_toArray, List.getElem_cons_succ, List.getElem_cons_zero, List.setIfInBounds_toArray, List.set_cons_zero, List.set_cons_succ]
                      refine wpAnyH_done (by kernel_rfl) ?_ _
                      clear hwr hwr2
                      have HBX2 := Lib.hid (bstep HBX.out hzx g9)
                      clear g9 hb9
                      go_wp2_with fail
                      go_roundw
                      case rel => exact ⟨a + 1, _, by omega, rfl, by go_num, HMN.out, HBX2.out⟩
                      case measure => (simp [intOf]) <;> omega
                    · have HMN : Hid (MoveC v ws k r b (a + 1) 1200 x) := HMV.out.skip (fun h => by rw [HD.out] at h; omega)
                      go_wp2_with fail
                      go_roundw
                      case rel => exact ⟨a + 1, _, by omega, rfl, by go_num, HMN.out, HBX.out⟩
                      case measure => (simp [intOf]) <;> omega
                  · have HMN : Hid (MoveC v ws k r b (a + 1) 1200 x) := HMV.out.skip (fun h => by rw [HY.out] at h; omega)
                    go_wp2_with fail
                    go_roundw
                    case rel => exact ⟨a + 1, _, by omega, rfl, by go_num, HMN.out, HBX.out⟩
                    case measure => (simp [intOf]) <;> omega
                · have ham : a = v := by omega
                  subst ham
                  have hfin : x = FT ws k b := foot_is HN.out hkm hlb HSP.out HMV.out
                  have HFIN := Lib.hid hfin
                  obtain ⟨i0, hi0, hz0, hz1', hz2⟩ := info_parts intInfo
                  have HO4 := Lib.hid (ownBelow HO3.out HBX.out)
                  have HBP4 := Lib.hid (bstep HBP.out hsz3 HBX.out)
                  clear hfin
                  go_wp2_with (at_builtin; refine wpList_append_lies _ rfl _ _ _ rfl wp.heap.size 3 i0 _ 1 8 Tryd.underlying33 hi0 hz0 hz1' hz2 rfl (by omega) (.slice A3 b c3) b (intCells (FT ws k) b) rfl (HO4.out.alloc _) ⟨wr.heap.size, 0, none⟩ 1 1 [.int .i64 x] rfl rfl (World.news_of_block (cs := #[.int .i64 x]) (t := 3) (fr := (0, 0)) (heap_alloc_new wr _)) (by simp [Value.oneCell']) (by omega) (by unfold maxLen; omega) (by omega) (by simp; omega) (wr.heap.size + 1) (by simp) ?_; intro gg cc w5 hown5 hgrow5 hat5 hlt5)
                  have HO5 : Hid (w5.ownsRow wp.heap.size 3 1 (.slice (some ⟨gg, 0, none⟩) (b + 1) cc) (b + 1) (intCells (FT ws k) (b + 1))) := by
                    show w5.ownsRow _ _ _ _ _ _
                    rw [intCells_snoc, ← HFIN.out]; exact hown5
                  have HB5 : Hid (Below wp.heap.size wp w5) := below_grown HBP4.out (Nat.le_refl _) (Nat.le_trans hsz3 hzx) ((Below.refl _ _).alloc (Nat.le_refl _) _) HO4.out hgrow5
                  clear hown5 hgrow5 hat5 hlt5
                  go_wp2_with fail
                  go_roundw
                  case rel => exact ⟨b + 1, by omega, by go_num, HO5.out, HB5.out⟩
                  case measure => (simp [intOf]) <;> omega
            · have hbm : b = v := by omega
              subst hbm
              obtain ⟨g3, cg3, hvg3, hg31, hg32⟩ := HO3.out.form (by omega)
              injection hvg3 with hA3 _ hcg3
              subst hA3
              subst hcg3
              obtain ⟨i1, hi1, hy0, hy1, hy2⟩ := info_parts intsInfo
              have HRQ := Lib.hid ((HRP.out.below HBW.out).below HBP.out)
              go_wp2_with (at_builtin; refine wpList_append_lies _ rfl _ _ _ rfl w1.heap.size 33 i1 _ 1 24 Tryd.underlying31 hi1 hy0 hy1 hy2 rfl (by omega) (.slice A1 k c1) k (rowCells b R C k) rfl (HRQ.out.own.alloc _) ⟨wr.heap.size, 0, none⟩ 1 1 [.slice (some ⟨g3, 0, none⟩) b c3] rfl rfl (World.news_of_block (cs := #[.slice (some ⟨g3, 0, none⟩) b c3]) (t := 33) (fr := (0, 0)) (heap_alloc_new wr _)) (by simp [Value.oneCell']) (by omega) (by unfold maxLen; omega) (by omega) (by simp; omega) (wr.heap.size + 1) (by simp) ?_; intro gg cc w5 hown5 hgrow5 hat5 hlt5)
              have hvl := HRP.out.own.lt
              have HM : Hid (RowsP w5 w1.heap.size b (k + 1) (.slice (some ⟨gg, 0, none⟩) (k + 1) cc) (fun i => if i = k then g3 else R i) (fun i => if i = k then c3 else C i) (FT ws)) :=
                RowsP.more (w1 := wr.alloc (.cells #[.slice (some ⟨g3, 0, none⟩) b c3] 33)) HRQ.out HO3.out (by omega) hg31 hg32 (fun i hi => by have := (HRP.out.rlo i hi).2; omega) (fun j hj => by have := (hvl j hj).2; omega) ((Below.refl _ _).alloc (Nat.le_refl _) _) hgrow5 (by simpa using hat5) hown5
              have HB5 : Hid (Below w1.heap.size w1 w5) := below_grown (bstep (bstep HB0.out hzw HBW.out) (Nat.le_trans hzw hsz) HBP.out) (Nat.le_refl _) (by omega) ((Below.refl _ _).alloc (Nat.le_refl _) _) HRQ.out.own hgrow5
              clear hown5 hgrow5 hat5 hlt5 hvl
              go_wp2_with fail
              go_roundw
              case rel => exact ⟨k + 1, _, _, by omega, by go_num, HB5.out, HM.out⟩
              case measure => (simp [intOf]) <;> omega
    · have hkN : k = N := by omega
      subst hkN
      obtain ⟨T, cT, hv, htab⟩ := HRP.out.toR (by omega)
      injection hv with hA1 _ hcT
      subst hA1
      subst hcT
      have HT0 := Lib.hid htab
      have hwn := HWN.out
      have hwn2 := HWN2.out
      clear htab HRP
      go_wp2_with fail
      clear hwn hwn2
      go_ret
      exact ⟨T, c1, w1.heap.size, wr.heap.size, R, C, rfl, HT0.out, Nat.le_of_lt hz1, bstep HB1.out (Nat.le_of_lt hz1) HB0.out⟩
set_option maxHeartbeats 1000000 in
theorem sFootTable_any (m : Nat) (A : Option Addr) (cap : Nat) (ws : List Wy) (w : World) (hr : RW w w.heap.size A ws) (hm : ws.length ≤ 1073741824) (hno : netOk (m : Int) ws = true) :
    Calls Tryd.prog 29 #[.agg #[.int .i64 m, .slice A ws.length cap]] w (NewFeet m ws w) := by
  have HR := Lib.hid hr
  have HNO := Lib.hid hno
  clear hr hno
  go_enter Tryd.func29, Tryd.ntmps29
  go_wp2_with fail
  refine (sNetOk_any _ _ _ _ _ (HR.out.later (by go_grown)) (by omega)).mono ?_; rintro e w1 ⟨rfl, hb1⟩
  rw [HNO.out]
  obtain ⟨hc1, hf1⟩ := bcell hb1
  have hz1_0 : w.heap.size < w1.heap.size := by have hq := hb1.size; (try simp at hq); omega
  have HK1 := Lib.hid hb1
  have HB1 := Lib.hid (bstep (B := w.heap.size) (W := w) (by (try have hp := HB0.out); go_grown) (by go_size) hb1); clear hb1
  go_wp2_with fail
  refine (l3Table_any m _ rfl A cap ws _ (HR.out.later (by have := HB1.out; go_grown)) (netOk_t HNO.out)).mono ?_; rintro e w2 ⟨T, cT, lo, hi, R, C, rfl, htab, hlo, hb2⟩
  have HB2 := Lib.hid (bstep (B := w.heap.size) (W := w) HB1.out (Nat.le_of_lt hz1_0) hb2)
  have hlo2 : w.heap.size ≤ lo := Nat.le_trans (Nat.le_of_lt hz1_0) hlo
  have HT2 := Lib.hid htab
  clear hb2 htab hlo
  go_wp2_with fail
  go_ret
  exact ⟨T, cT, lo, hi, R, C, rfl, HT2.out, hlo2, HB2.out⟩
set_option maxHeartbeats 1000000 in
theorem sFootTable_none (n : Int) (A : Option Addr) (cap : Nat) (ws : List Wy) (w : World) (hr : RW w w.heap.size A ws) (hm : ws.length ≤ 1073741824) (hno : netOk n ws = false) :
    Calls Tryd.prog 29 #[.agg #[.int .i64 n, .slice A ws.length cap]] w fun e w' => (∃ A c, e = .returned (.slice A 0 c)) ∧ Below w.heap.size w w' := by
  have HR := Lib.hid hr
  have HNO := Lib.hid hno
  have hbs2 := noRows
  clear hr hno
  go_enter Tryd.func29, Tryd.ntmps29
  go_wp2_with fail
  refine (sNetOk_any _ _ _ _ _ (HR.out.later (by go_grown)) (by omega)).mono ?_; rintro e w1 ⟨rfl, hb1⟩
  rw [HNO.out]
  obtain ⟨hc1, hf1⟩ := bcell hb1
  have hz1_0 : w.heap.size < w1.heap.size := by have hq := hb1.size; (try simp at hq); omega
  have HK1 := Lib.hid hb1
  have HB1 := Lib.hid (bstep (B := w.heap.size) (W := w) (by (try have hp := HB0.out); go_grown) (by go_size) hb1); clear hb1
  go_wp2_with fail
  go_ret
  exact ⟨⟨_, _, rfl⟩, by have := HB1.out; go_grown⟩
end Go.Proofs.YtbbomajgmgmigaaDoor
