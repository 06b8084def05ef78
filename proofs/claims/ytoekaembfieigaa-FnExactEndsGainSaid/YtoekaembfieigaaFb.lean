/- FootTable of the program: firstFeet, and the whole table. -/
import Derived.Test.YtoekaembfieigaaFa
set_option linter.unusedSimpArgs false
set_option linter.unusedVariables false
attribute [local go_sem ↓] Go.wp_at_zero Go.wp_at_succ
namespace Go.Proofs.Ytoekaembfieigaa
open Go.ChangeShapes Go.WideShapes Go.ChangeAt Go.RowKit

def footF (k b : Nat) : Int := if idiff (k : Int) (2 ^ b) = 0 then 0 else -1
theorem foot_first {m : Nat} {ws : List Wy} (hn : NetIs (m : Int) ws) (k : Nat) {u : Nat} (hu : u < m) : SplitC ws k k u (footF k u) :=
  SplitC.first hn hu (fun h => by unfold footF; rw [if_pos (only1_iff.1 h)]) (fun h => by unfold footF; rw [if_neg (fun e => h (only1_iff.2 e))])
theorem new_cells (w : World) (m : Nat) (v : Value) (t : TypeId) (j : Nat) (hj : j < m) : (w.alloc (.cells (Array.replicate m v) t)).cell? ⟨w.heap.size, j, none⟩ = some v ∧ (w.alloc (.cells (Array.replicate m v) t)).frozen? ⟨w.heap.size, j, none⟩ = false := by
  have h := heap_alloc_new w (.cells (Array.replicate m v) t)
  refine ⟨?_, by unfold World.frozen?; rw [h]; simp⟩
  rw [cell_of_row _ _ j _ _ (0, 0) h]
  simp [hj]
set_option maxHeartbeats 2000000 in
theorem firstFeet_any (m k : Nat) (A : Option Addr) (l cap : Nat) (w : World) (hm6 : m ≤ 6) (hk6 : k < 64) :
    Calls Try.prog 64 #[.agg #[.int .i64 m, .slice A l cap], .int .i64 k] w fun e w' => ∃ g, w.heap.size ≤ g ∧ g < w'.heap.size ∧ e = .returned (.slice (some ⟨g, 0, none⟩) m m) ∧ (∀ b, b < m → w'.cell? ⟨g, b, none⟩ = some (.int .i64 (footF k b)) ∧ w'.frozen? ⟨g, b, none⟩ = false) ∧ Below w.heap.size w w' := by
  have hmk2 := fun W => mkRow W m hm6
  go_enter Try.func64, Try.ntmps64
  go_wp2_with fail
  go_loopw [12] (fun i wr => ∃ v : Nat, v ≤ m ∧ i = .int .i64 v ∧ RowF wr (w.heap.size + 1) (w.heap.size + 1 + 1) (some ⟨w.heap.size + 1, 0, none⟩) m (fun j => if j < v then footF k j else 0) ∧ Below w.heap.size w wr) (fun i _ => m - (intOf i).toNat)
  case atStart =>
    refine ⟨0, Nat.zero_le _, rfl, ⟨fun j hj => ?_, by simp⟩, by go_grown⟩
    have h := new_cells (w.alloc (.cells #[.int .i64 m, .slice A l cap] 25)) m (.int .i64 0) 3 j hj
    rw [World.size_alloc] at h
    exact ⟨w.heap.size + 1, 0, rfl, Nat.le_refl _, Nat.lt_succ_self _, by rw [if_neg (by omega), Nat.zero_add]; exact h.1, by rw [Nat.zero_add]; exact h.2⟩
  case round =>
    clear hmk2
    obtain ⟨v, hv, rfl, hrow, hb⟩ := hrel
    have HRO := Lib.hid hrow
    have HB := Lib.hid hb
    clear hrow hb
    have v0 : (0 : Int) ≤ (v : Int) := by omega
    by_cases hlv : v < m
    · have v1 : (v : Int) < (m : Int) := by omega
      obtain ⟨b, o, e, _, _, c0, f0⟩ := HRO.out.at_ v hlv
      injection e with e
      injection e with e1 e2
      subst e1; subst e2
      rw [Nat.zero_add] at c0 f0
      have pv := pow_bd (v : Int) 6 (by omega)
      rw [Int.toNat_natCast] at pv
      have han : bits .andNot .i64 (k : Int) (2 ^ v) = idiff (k : Int) (2 ^ v) := bits_andNot _ _ (by omega) (by omega) (by omega) (by omega)
      have hw1 : IntKind.i64.wrap (2 ^ v) = 2 ^ v := IntWalk.i64_in _ ⟨by omega, by omega⟩
      have hw2 : wrap64 (2 ^ v) = 2 ^ v := IntWalk.wrap64_in _ ⟨by omega, by omega⟩
      by_cases hz : idiff (k : Int) (2 ^ v) = 0
      · have HV : Hid (footF k v = 0) := if_pos hz
        have hd1 : bits .andNot .i64 (k : Int) (2 ^ v) = 0 := by rw [han, hz]
        rw [if_neg (by omega)] at c0
        clear han hz pv
        go_wp2_with fail
        clear hw1 hw2
        refine ⟨⟨v + 1, by omega, by go_num, HRO.out.congr (fun j hj => ?_), HB.out⟩, by simp [intOf]; omega⟩
        by_cases e : j = v
        · subst e; rw [if_neg (by omega), if_pos (by omega), HV.out]
        · by_cases e2 : j < v
          · rw [if_pos e2, if_pos (by omega)]
          · rw [if_neg e2, if_neg (by omega)]
      · have HV : Hid (footF k v = -1) := if_neg hz
        have hd3 : ¬ bits .andNot .i64 (k : Int) (2 ^ v) = 0 := by rw [han]; exact hz
        rw [if_neg (by omega)] at c0
        have hB2 : Hid (Below w.heap.size w (wr.setCell ⟨w.heap.size + 1, v, none⟩ (.int .i64 (-1)))) := by
          have h9 := HB.out
          show Below w.heap.size w (wr.setCell ⟨w.heap.size + 1, v, none⟩ (.int .i64 (-1)))
          go_grown
        clear han hz pv
        go_wp2_with fail
        clear hw1 hw2
        go_roundw
        case rel =>
          have hput := HRO.out.put hlv (-1)
          have hb2 := hB2.out
          simp only [Nat.zero_add] at hput
          refine ⟨v + 1, by omega, by go_num, hput.congr (fun j hj => ?_), hb2⟩
          by_cases e : j = v
          · subst e; simp only [if_true]; rw [if_pos (by omega), HV.out]
          · simp only [if_neg e]
            by_cases e2 : j < v
            · rw [if_pos e2, if_pos (by omega)]
            · rw [if_neg e2, if_neg (by omega)]
        case measure => simp [intOf]; omega
    · have hvm : v = m := by omega
      subst hvm
      go_wp2_with fail
      go_ret
      refine ⟨w.heap.size + 1, by omega, ?_, rfl, fun b hb => ?_, HB.out⟩
      · have := HRO.out.top; omega
      · obtain ⟨b', o', e, _, _, c0, f0⟩ := HRO.out.at_ b hb
        injection e with e
        injection e with e1 e2
        subst e1; subst e2
        rw [if_pos hb, Nat.zero_add] at c0
        rw [Nat.zero_add] at f0
        exact ⟨c0, f0⟩
theorem mkTop4 (W : World) : (Instr.makeSlice 60 (.int .i64 ((4 : Nat) : Int)) (.int .i64 ((4 : Nat) : Int))).run Try.prog W = .ok (.slice (some ⟨W.heap.size, 0, none⟩) 4 4) (W.alloc (.cells (Array.replicate 4 (.slice none 0 0)) 26)) := by kernel_rfl
theorem mkTop8 (W : World) : (Instr.makeSlice 60 (.int .i64 ((8 : Nat) : Int)) (.int .i64 ((8 : Nat) : Int))).run Try.prog W = .ok (.slice (some ⟨W.heap.size, 0, none⟩) 8 8) (W.alloc (.cells (Array.replicate 8 (.slice none 0 0)) 26)) := by kernel_rfl
theorem mkTop16 (W : World) : (Instr.makeSlice 60 (.int .i64 ((16 : Nat) : Int)) (.int .i64 ((16 : Nat) : Int))).run Try.prog W = .ok (.slice (some ⟨W.heap.size, 0, none⟩) 16 16) (W.alloc (.cells (Array.replicate 16 (.slice none 0 0)) 26)) := by kernel_rfl
theorem mkTop32 (W : World) : (Instr.makeSlice 60 (.int .i64 ((32 : Nat) : Int)) (.int .i64 ((32 : Nat) : Int))).run Try.prog W = .ok (.slice (some ⟨W.heap.size, 0, none⟩) 32 32) (W.alloc (.cells (Array.replicate 32 (.slice none 0 0)) 26)) := by kernel_rfl
theorem mkTop64 (W : World) : (Instr.makeSlice 60 (.int .i64 ((64 : Nat) : Int)) (.int .i64 ((64 : Nat) : Int))).run Try.prog W = .ok (.slice (some ⟨W.heap.size, 0, none⟩) 64 64) (W.alloc (.cells (Array.replicate 64 (.slice none 0 0)) 26)) := by kernel_rfl
theorem mkTop (W : World) (m N : Nat) (h2 : 2 ≤ m) (h6 : m ≤ 6) (hN : 2 ^ m = N) : (Instr.makeSlice 60 (.int .i64 ((N : Nat) : Int)) (.int .i64 ((N : Nat) : Int))).run Try.prog W = .ok (.slice (some ⟨W.heap.size, 0, none⟩) N N) (W.alloc (.cells (Array.replicate N (.slice none 0 0)) 26)) := by
  have : m = 2 ∨ m = 3 ∨ m = 4 ∨ m = 5 ∨ m = 6 := by omega
  rcases this with rfl | rfl | rfl | rfl | rfl
  · have : N = 4 := by rw [← hN]
    subst this; exact mkTop4 W
  · have : N = 8 := by rw [← hN]
    subst this; exact mkTop8 W
  · have : N = 16 := by rw [← hN]
    subst this; exact mkTop16 W
  · have : N = 32 := by rw [← hN]
    subst this; exact mkTop32 W
  · have : N = 64 := by rw [← hN]
    subst this; exact mkTop64 W
/-- a new table over all sets -/
def NewFeet (m : Nat) (ws : List Wy) (w : World) (e : Ending) (w' : World) : Prop :=
  ∃ T cT lo hi R C, e = .returned (.slice (some ⟨T, 0, none⟩) (2 ^ m) cT) ∧ TabR w' lo hi T (2 ^ m) m R C (FT ws) ∧ w.heap.size ≤ lo ∧ Below w.heap.size w w'
set_option maxHeartbeats 4000000 in
theorem FootTable_any (m : Nat) (A : Option Addr) (cap : Nat) (ws : List Wy) (w : World) (hr : RW w w.heap.size A ws) (hno : netOk (m : Int) ws = true) :
    Calls Try.prog 45 #[.agg #[.int .i64 m, .slice A ws.length cap]] w (NewFeet m ws w) := by
  have HR := Lib.hid hr
  have HNO := Lib.hid hno
  have hn := netOk_t hno
  have HN := Lib.hid hn
  have hn2 := hn.lo
  have hn6 := hn.hi
  have hm2 : 2 ≤ m := by omega
  have hm6 : m ≤ 6 := by omega
  unfold NewFeet
  obtain ⟨N, hN⟩ : ∃ N, 2 ^ m = N := ⟨_, rfl⟩
  rw [hN]
  have hN64 : N ≤ 64 := by rw [← hN]; exact Nat.pow_le_pow_right (n := 2) (by omega) hm6
  have hall : allPl (m : Int) + 1 = (N : Int) := by
    unfold allPl
    rw [Int.toNat_natCast, ← hN]
    simp
  have hwN : IntKind.i64.wrap (allPl (m : Int) + 1) = (N : Int) := by rw [hall]; exact IntWalk.i64_in _ ⟨by omega, by omega⟩
  have hmk1 := fun W => mkTop W m N hm2 hm6 hN
  have HNN := Lib.hid hN
  clear hr hno hn hN hall
  go_enter Try.func45, Try.ntmps45
  go_wp2_with fail
  refine (NetOk_any (m : Int) A cap ws _ (HR.out.later (by go_grown))).mono ?_; rintro e w1 ⟨rfl, hb1⟩; rw [HNO.out]
  have k1 : w1.cell? ⟨w.heap.size, 0, none⟩ = some (.int .i64 m) ∧ w1.cell? ⟨w.heap.size, 1, none⟩ = some (.slice A ws.length cap) := by
    obtain ⟨hc1, hf1⟩ := bcell hb1
    exact ⟨by go_simp, by go_simp⟩
  have hz1 : w.heap.size < w1.heap.size := by have hq := hb1.size; (try simp at hq); omega
  have HB1 := Lib.hid (bstep (B := w.heap.size) (W := w) (by go_grown) (by go_size) hb1)
  clear hb1
  obtain ⟨k10, k11⟩ := k1
  go_wp2_with fail
  refine (FarTable_any m A cap ws _ (HR.out.later HB1.out) HNO.out).mono ?_; rintro e w2 ⟨T0, hT0, rfl, htab, hb2⟩
  obtain ⟨k20, k21⟩ := keep2 hb2 ⟨k10, k11⟩ hz1
  have hz2 : w.heap.size < w2.heap.size := Nat.lt_of_lt_of_le hz1 hb2.size
  have HB2 := Lib.hid (bstep (B := w.heap.size) (W := w) HB1.out (Nat.le_of_lt hz1) hb2)
  have HF2 := Lib.hid htab
  clear hb2 htab hT0
  go_wp2_with fail
  refine (allPlaces_any (m : Int) _ (by omega) (by omega) _).mono ?_; rintro e w3 ⟨rfl, hb3⟩
  obtain ⟨k30, k31⟩ := keep2 hb3 ⟨k20, k21⟩ hz2
  have hz3 : w.heap.size < w3.heap.size := Nat.lt_of_lt_of_le hz2 hb3.size
  have HB3 := Lib.hid (bstep (B := w.heap.size) (W := w) HB2.out (Nat.le_of_lt hz2) hb3)
  have HF3 := Lib.hid (HF2.out.below hb3)
  have htop : T0 + 1 + m ≤ w3.heap.size := HF3.out.his
  clear hb3
  go_wp2_with fail
  clear hmk1 hwN
  obtain ⟨T, hT⟩ : ∃ T, w3.heap.size = T := ⟨_, rfl⟩
  have hTz : w.heap.size < T := by omega
  have hst : (∀ j, j < N → (w3.alloc (.cells (Array.replicate N (.slice none 0 0)) 26)).cell? ⟨T, j, none⟩ = some (.slice none 0 0) ∧ (w3.alloc (.cells (Array.replicate N (.slice none 0 0)) 26)).frozen? ⟨T, j, none⟩ = false) := fun j hj => by
    have h := new_cells w3 N (.slice none 0 0) 26 j hj
    rw [hT] at h; exact h
  have hsz : (w3.alloc (.cells (Array.replicate N (.slice none 0 0)) 26)).heap.size = T + 1 := by rw [World.size_alloc, hT]
  have k40 : (w3.alloc (.cells (Array.replicate N (.slice none 0 0)) 26)).cell? ⟨w.heap.size, 0, none⟩ = some (.int .i64 m) := (World.cell?_alloc_lt _ _ _ hz3).trans k30
  have k41 : (w3.alloc (.cells (Array.replicate N (.slice none 0 0)) 26)).cell? ⟨w.heap.size, 1, none⟩ = some (.slice A ws.length cap) := (World.cell?_alloc_lt _ _ _ hz3).trans k31
  have HB4 := Lib.hid (HB3.out.alloc (Nat.le_of_lt hz3) (.cells (Array.replicate N (.slice none 0 0)) 26))
  have HF4 := Lib.hid (HF3.out.below ((Below.refl w3.heap.size w3).alloc (Nat.le_refl _) (.cells (Array.replicate N (.slice none 0 0)) 26)))
  rw [hT] at htop ⊢
  generalize hw4 : w3.alloc (.cells (Array.replicate N (.slice none 0 0)) 26) = w4 at hst hsz k40 k41 HB4 HF4 ⊢
  have HST := Lib.hid hst
  clear hst k10 k11 k20 k21 k30 k31 HB1 HB2 HB3 HF2 HF3 hw4 hz1 hz2 hz3 hT
  go_loopw [17] (fun c wr => ∃ (k : Nat) (R C : Nat → Nat), k ≤ N ∧ c = .int .i64 k ∧ wr.cell? ⟨w.heap.size, 0, none⟩ = some (.int .i64 m) ∧ wr.cell? ⟨w.heap.size, 1, none⟩ = some (.slice A ws.length cap) ∧ Below w.heap.size w wr ∧ T < wr.heap.size ∧ TabM wr T0 (T0 + 1 + m) T0 m (fun i => T0 + 1 + i) (fun _ => m) (farF ws m) ∧ (∀ j, k ≤ j → j < N → wr.cell? ⟨T, j, none⟩ = some (.slice none 0 0) ∧ wr.frozen? ⟨T, j, none⟩ = false) ∧ TabR wr T wr.heap.size T k m R C (FT ws)) (fun c _ => N - (intOf c).toNat)
  case atStart => exact ⟨0, fun _ => 0, fun _ => 0, Nat.zero_le _, rfl, k40, k41, HB4.out, by omega, HF4.out, fun j _ hj => HST.out j hj, ⟨fun a h => by omega, fun a b h => by omega, fun a b h => by omega, fun a h => by omega, ⟨Nat.le_refl _, by omega⟩, fun a h => by omega, Nat.le_refl _⟩⟩
  case round =>
    clear k40 k41 HB4 HF4 HST hsz
    obtain ⟨k, R, C, hk, rfl, b0, b1, hb, hz, hfar, hfree, htab⟩ := hrel
    have HB0 := Lib.hid hb
    have HF0 := Lib.hid hfar
    have HFR := Lib.hid hfree
    have HT0 := Lib.hid htab
    have k0 : (0 : Int) ≤ (k : Int) := by omega
    clear hb hfar hfree htab
    by_cases hlk : k < N
    · have k1 : (k : Int) < (N : Int) := by omega
      have hkm : k < 2 ^ m := by rw [HNN.out]; exact hlk
      have hhz : w.heap.size < wr.heap.size := by omega
      go_wp2_with fail
      refine (firstFeet_any m k A ws.length cap _ hm6 (by omega)).mono ?_; rintro e w5 ⟨g, hg1, hg2, rfl, hrow, hb5⟩
      obtain ⟨c0, c1⟩ := keep2 hb5 ⟨b0, b1⟩ hhz
      have z5 : w.heap.size < w5.heap.size := Nat.lt_of_lt_of_le hhz hb5.size
      have t5 : T < w5.heap.size := Nat.lt_of_lt_of_le hz hb5.size
      obtain ⟨hfc, hff⟩ := HFR.out k (Nat.le_refl _) hlk
      have hfc5 := (hb5.cell (p := ⟨T, k, none⟩) hz).trans hfc
      have hff5 : w5.frozen? ⟨T, k, none⟩ = false := (World.frozen?_of_block (w := wr) (hb5.block T hz)).trans hff
      have HB5 := Lib.hid (bstep (B := w.heap.size) (W := w) HB0.out (Nat.le_of_lt hhz) hb5)
      have HM : Hid (TabR (w5.setCell ⟨T, k, none⟩ (.slice (some ⟨g, 0, none⟩) m m)) T w5.heap.size T (k + 1) m (fun i => if i = k then g else R i) (fun i => if i = k then m else C i) (rowsF ws k (footF k))) := (HT0.out.below hb5).more hg1 hg2 hrow hfc5
      have HFR5 := Lib.hid (show ∀ j, k + 1 ≤ j → j < N → (w5.setCell ⟨T, k, none⟩ (.slice (some ⟨g, 0, none⟩) m m)).cell? ⟨T, j, none⟩ = some (.slice none 0 0) ∧ (w5.setCell ⟨T, k, none⟩ (.slice (some ⟨g, 0, none⟩) m m)).frozen? ⟨T, j, none⟩ = false from fun j h1 h2 => by
        obtain ⟨q1, q2⟩ := HFR.out j (by omega) h2
        rw [World.cell?_setCell_other _ _ _ _ (by intro e'; simp only [Addr.mk.injEq] at e'; omega), World.frozen?_setCell]
        exact ⟨(hb5.cell (p := ⟨T, j, none⟩) hz).trans q1, (World.frozen?_of_block (w := wr) (hb5.block T hz)).trans q2⟩)
      have ho6 : Only T w5.heap.size w5 (w5.setCell ⟨T, k, none⟩ (.slice (some ⟨g, 0, none⟩) m m)) := (Only.refl T w5.heap.size w5).setCell (p := ⟨T, k, none⟩) ⟨Nat.le_refl _, t5⟩ _
      have HF6 := Lib.hid ((HF0.out.below hb5).only ho6 (.inl htop))
      have HB6 := Lib.hid (Below.only_ HB5.out (Nat.le_of_lt hTz) (Nat.le_of_lt z5) ho6)
      obtain ⟨d0, d1⟩ := ho6.keep2_ hTz z5 ⟨c0, c1⟩
      have hs6 : (w5.setCell ⟨T, k, none⟩ (.slice (some ⟨g, 0, none⟩) m m)).heap.size = w5.heap.size := by simp [World.setCell]
      clear hb5 hrow hfc hff ho6
      go_wp2_with fail
      generalize hw6 : w5.setCell ⟨T, k, none⟩ (.slice (some ⟨g, 0, none⟩) m m) = w6 at HM HFR5 HF6 HB6 d0 d1 hs6 ⊢
      clear hw6 hfc5 hff5 c0 c1 HFR HT0 HB0 HF0 b0 b1
      refine (splitEnds_any T w5.heap.size T N m N k _ _ ws (footF k) _ HM.out HN.out hlk (by omega) hkm (fun u hu => foot_first HN.out k hu)).mono ?_; rintro e w7 ⟨rfl, r1, ht7, hs7, ho7⟩
      have HT7 := Lib.hid ht7
      have HS7 := Lib.hid hs7
      have HF7 := Lib.hid (HF6.out.only ho7.only (.inl htop))
      have HB7 := Lib.hid (Below.only_ HB6.out (Nat.le_of_lt hTz) (by omega) ho7.only)
      obtain ⟨e0, e1⟩ := ho7.only.keep2_ hTz (by omega) ⟨d0, d1⟩
      have hz7 := ho7.only.size
      have htp7 := ho7.top
      clear ht7 hs7 ho7 HM
      go_wp2_with fail
      refine (moveFeet_any T w5.heap.size T N m N k T0 T0 (T0 + 1 + m) m _ _ _ _ ws r1 _ HT7.out HF7.out htop HN.out hlk hkm HS7.out).mono ?_; rintro e w8 ⟨rfl, ht8, ho8⟩
      have HF8 := Lib.hid (HF7.out.only ho8.only (.inl htop))
      have HB8 := Lib.hid (Below.only_ HB7.out (Nat.le_of_lt hTz) (by omega) ho8.only)
      obtain ⟨f0, f1⟩ := ho8.only.keep2_ hTz (by omega) ⟨e0, e1⟩
      have hz8 := ho8.only.size
      have htp8 := ho8.top.trans htp7
      have HT8 := Lib.hid (ht8.wider (by omega) (Nat.le_refl _))
      have HFR8 := Lib.hid (show ∀ j, k + 1 ≤ j → j < N → w8.cell? ⟨T, j, none⟩ = some (.slice none 0 0) ∧ w8.frozen? ⟨T, j, none⟩ = false from fun j h1 h2 => by
        obtain ⟨q1, q2⟩ := HFR5.out j h1 h2
        exact ⟨(World.cell?_of_block (w := w6) htp8).trans q1, (World.frozen?_of_block (w := w6) htp8).trans q2⟩)
      clear ht8 ho8 htp7 htp8 HT7 HS7
      go_wp2_with fail
      go_roundw
      case rel => exact ⟨k + 1, _, _, by omega, by go_num, f0, f1, HB8.out, by omega, HF8.out, HFR8.out, HT8.out⟩
      case measure => simp [intOf]; omega
    · have hkN : k = N := by omega
      subst hkN
      go_wp2_with fail
      go_ret
      exact ⟨T, k, T, wr.heap.size, R, C, rfl, HT0.out, Nat.le_of_lt hTz, HB0.out⟩
theorem FootTable_none (n : Int) (A : Option Addr) (cap : Nat) (ws : List Wy) (w : World) (hr : RW w w.heap.size A ws) (hno : netOk n ws = false) :
    Calls Try.prog 45 #[.agg #[.int .i64 n, .slice A ws.length cap]] w fun e w' => e = .returned (.slice none 0 0) ∧ Below w.heap.size w w' := by
  have HR := Lib.hid hr
  have HNO := Lib.hid hno
  clear hr hno
  go_enter Try.func45, Try.ntmps45
  go_wp2_with fail
  refine (NetOk_any _ _ _ _ _ (HR.out.later (by go_grown))).mono ?_; rintro e w1 ⟨rfl, hb1⟩
  rw [HNO.out]
  obtain ⟨hc1, hf1⟩ := bcell hb1
  have hz1_0 : w.heap.size < w1.heap.size := by have hq := hb1.size; (try simp at hq); omega
  have HK1 := Lib.hid hb1
  have HB1 := Lib.hid (bstep (B := w.heap.size) (W := w) (by (try have hp := HB0.out); go_grown) (by go_size) hb1); clear hb1
  go_wp2_with fail
  go_ret
  exact ⟨rfl, HB1.out⟩
end Go.Proofs.Ytoekaembfieigaa
