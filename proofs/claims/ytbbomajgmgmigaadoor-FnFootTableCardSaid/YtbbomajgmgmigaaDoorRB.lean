/- LeastIn, of the program and of its model: ways are taken away from behind. -/
import Derived.Test.YtbbomajgmgmigaaDoorRA
set_option linter.unusedSimpArgs false
set_option linter.unusedVariables false
namespace Go.Proofs.YtbbomajgmgmigaaDoor
open Go.ChangeShapes Go.WideShapes Go.ChangeAt Go.RowKit

/-- what is left when the last j ways have been looked at -/
noncomputable def thS (ws : List Wy) (e s : Int) : Nat → Int
  | 0 => s
  | j + 1 => if joins ws (idiff (thS ws e s j) (2 ^ (ws.length - 1 - j))) e = true then idiff (thS ws e s j) (2 ^ (ws.length - 1 - j)) else thS ws e s j
theorem thS_bd {ws : List Wy} {e s : Int} (h0 : 0 ≤ s) : ∀ j, 0 ≤ thS ws e s j ∧ thS ws e s j ≤ s
  | 0 => ⟨h0, Int.le_refl _⟩
  | j + 1 => by
    have ih := thS_bd (ws := ws) (e := e) h0 j
    have hd := idiff_bd (thS ws e s j) (2 ^ (ws.length - 1 - j)) ih.1
    rw [thS]
    split <;> omega
theorem thS_le {ws : List Wy} {e s : Int} (h0 : 0 ≤ s) (j : Nat) : thS ws e s (j + 1) ≤ thS ws e s j := by
  have ih := thS_bd (ws := ws) (e := e) h0 j
  have hd := idiff_bd (thS ws e s j) (2 ^ (ws.length - 1 - j)) ih.1
  rw [thS]
  split <;> omega
theorem thS_le2 {ws : List Wy} {e s : Int} (h0 : 0 ≤ s) (j : Nat) : ∀ d, thS ws e s (j + d) ≤ thS ws e s j
  | 0 => Int.le_refl _
  | d + 1 => Int.le_trans (thS_le h0 (j + d)) (thS_le2 h0 j d)
theorem thS_yes {ws : List Wy} {e s : Int} {j k : Nat} (hk : k + j + 1 = ws.length) (h : joins ws (idiff (thS ws e s j) (2 ^ k)) e = true) : thS ws e s (j + 1) = idiff (thS ws e s j) (2 ^ k) := by
  have e1 : ws.length - 1 - j = k := by omega
  rw [thS, e1, if_pos h]
theorem thS_no {ws : List Wy} {e s : Int} {j k : Nat} (hk : k + j + 1 = ws.length) (h : joins ws (idiff (thS ws e s j) (2 ^ k)) e = false) : thS ws e s (j + 1) = thS ws e s j := by
  have e1 : ws.length - 1 - j = k := by omega
  rw [thS, e1, if_neg (by rw [h]; simp)]
theorem idiff_not {u : Int} {k : Nat} (h0 : 0 ≤ u) (hb : bit u k = false) : idiff u (2 ^ k) = u := by
  have hd := idiff_bd u (2 ^ k) h0
  refine set_ext hd.1 h0 fun q hq => ?_
  have e2 : ((2 : Int) ^ k) = 2 ^ ((k : Int)).toNat := by rw [Int.toNat_natCast]
  rw [bit_idiff, e2, bit_shl (k : Int) q (by omega) hq]
  by_cases h : q = k
  · subst h; rw [hb]; rfl
  · rw [decide_eq_false h]; simp
theorem thS_same {ws : List Wy} {e s : Int} {j k : Nat} (h0 : 0 ≤ s) (hk : k + j + 1 = ws.length) (hb : bit (thS ws e s j) k = false) : thS ws e s (j + 1) = thS ws e s j := by
  have ih := thS_bd (ws := ws) (e := e) h0 j
  cases h : joins ws (idiff (thS ws e s j) (2 ^ k)) e
  · exact thS_no hk h
  · rw [thS_yes hk h, idiff_not ih.1 hb]
theorem thS_joins {ws : List Wy} {e s : Int} (h : joins ws s e = true) : ∀ j, joins ws (thS ws e s j) e = true
  | 0 => h
  | j + 1 => by
    have ih := thS_joins h j
    rw [thS]
    split
    · assumption
    · exact ih
noncomputable def leastIn (n : Int) (ws : List Wy) (s e : Int) : Int := if joinsEnds n ws s e = true then thS ws e s ws.length else -1
theorem joinsEnds_t {n : Int} {ws : List Wy} {s e : Int} (h : joinsEnds n ws s e = true) : setOk n ws s = true ∧ plOk n e = true ∧ joins ws s e = true := by
  unfold joinsEnds at h
  rw [Bool.and_eq_true, Bool.and_eq_true] at h
  exact ⟨h.1.1, h.1.2, h.2⟩

set_option maxHeartbeats 2000000 in
theorem thinned_any (n s e : Int) (A : Option Addr) (cap : Nat) (ws : List Wy) (w : World) (hr : RW w w.heap.size A ws) (hn : NetIs n ws) (h2 : 0 ≤ s) (h3 : s ≤ 511) (he0 : 0 ≤ e) (he1 : e < 2 ^ n.toNat) (hT : Tab w) :
    Calls Tryd.prog 47 #[.agg #[.int .i64 n, .slice A ws.length cap], .int .i64 s, .int .i64 e] w fun en w' => en = .returned (.int .i64 (thS ws e s ws.length)) ∧ Below w.heap.size w w' := by
  have HR := Lib.hid hr
  have HN := Lib.hid hn
  have HT := Lib.hid hT
  have HE := Lib.hid he1
  have hl9 := hn.len
  clear hr hn hT he1
  go_enter Tryd.func47, Tryd.ntmps47
  go_wp2_with fail
  go_loopw [1, 7] (fun c i wr => ∃ (j : Nat) (q : Int), -1 ≤ q ∧ q + j + 1 = ws.length ∧ i = .int .i64 q ∧ c = .int .i64 (thS ws e s j) ∧ wr.cell? ⟨w.heap.size, 0, none⟩ = some (.int .i64 n) ∧ wr.cell? ⟨w.heap.size, 1, none⟩ = some (.slice A ws.length cap) ∧ Below w.heap.size w wr ∧ w.heap.size < wr.heap.size) (fun _ i _ => (intOf i + 1).toNat)
  case atStart => exact ⟨0, (ws.length : Int) - 1, by omega, by omega, by go_num, rfl, cell_of_row _ _ 0 _ _ (0, 0) (heap_alloc_new w _), cell_of_row _ _ 1 _ _ (0, 0) (heap_alloc_new w _), by go_grown, by simp⟩
  case round =>
    obtain ⟨j, q, hq, hqj, rfl, rfl, b0, b1, hb, hz⟩ := hrel
    have HB0 := Lib.hid hb
    have hbd := thS_bd (ws := ws) (e := e) h2 j
    have hbd0 := hbd.1
    have hbd1 := hbd.2
    clear hb hbd
    by_cases hlt : 0 ≤ q
    · obtain ⟨k, rfl⟩ := Int.eq_ofNat_of_zero_le hlt
      have hk : k + j + 1 = ws.length := by omega
      have hpk := pow_bd (k : Int) 8 (by omega)
      rw [Int.toNat_natCast] at hpk
      obtain ⟨u, hud⟩ : ∃ u : Int, bits .andNot .i64 (thS ws e s j) (2 ^ k) = u := ⟨_, rfl⟩
      have hu : u = idiff (thS ws e s j) (2 ^ k) := by rw [← hud, bits_andNot _ _ hbd0 (by omega) (by omega) (by omega)]
      have hub := idiff_bd (thS ws e s j) (2 ^ k) hbd0
      rw [← hu] at hub
      have hu0 : 0 ≤ u := hub.1
      have hu1 : u ≤ 1048576 := by omega
      have hkm : (-1 : Int) ≤ (k : Int) - 1 := by omega
      have hkj : (k : Int) - 1 + ((j + 1 : Nat) : Int) + 1 = ws.length := by omega
      have hkd : (k : Int) - 1 + 1 < k + 1 := by omega
      have hw1 : IntKind.i64.wrap (2 ^ k) = 2 ^ k := IntWalk.i64_in _ ⟨by omega, by omega⟩
      have hw2 : wrap64 (2 ^ k) = 2 ^ k := IntWalk.wrap64_in _ ⟨by omega, by omega⟩
      clear hpk
      cases hj : joins ws u e
      · have HY := Lib.hid (thS_no (s := s) hk (by rw [← hu]; exact hj))
        have HJ := Lib.hid hj
        clear hj hu
        go_wp2_with fail
        refine (setJoins_any n u e A cap ws _ (HR.out.later (by have := HB0.out; go_grown)) HN.out hu0 hu1 he0 HE.out (HT.out.later (by have := HB0.out; go_grown))).mono ?_; rintro e3 w3 ⟨rfl, hb3⟩; rw [HJ.out]
        have k3 := keep2 hb3 ⟨b0, b1⟩ hz
        have z3 := Nat.lt_of_lt_of_le hz hb3.size
        have HB3 := Lib.hid (bstep (B := w.heap.size) (W := w) HB0.out (Nat.le_of_lt hz) hb3)
        clear hb3
        go_wp2_with fail
        clear hw1 hw2
        go_roundw
        case rel => exact ⟨j + 1, (k : Int) - 1, hkm, hkj, by go_num, by rw [HY.out], k3.1, k3.2, HB3.out, z3⟩
        case measure => (simp [intOf]) <;> omega
      · have HY : Hid (thS ws e s (j + 1) = u) := by show thS ws e s (j + 1) = u; rw [hu]; exact thS_yes (s := s) hk (by rw [← hu]; exact hj)
        have HJ := Lib.hid hj
        clear hj hu
        go_wp2_with fail
        refine (setJoins_any n u e A cap ws _ (HR.out.later (by have := HB0.out; go_grown)) HN.out hu0 hu1 he0 HE.out (HT.out.later (by have := HB0.out; go_grown))).mono ?_; rintro e3 w3 ⟨rfl, hb3⟩; rw [HJ.out]
        have k3 := keep2 hb3 ⟨b0, b1⟩ hz
        have z3 := Nat.lt_of_lt_of_le hz hb3.size
        have HB3 := Lib.hid (bstep (B := w.heap.size) (W := w) HB0.out (Nat.le_of_lt hz) hb3)
        clear hb3
        go_wp2_with fail
        clear hw1 hw2
        go_roundw
        case rel => exact ⟨j + 1, (k : Int) - 1, hkm, hkj, by go_num, by rw [HY.out], k3.1, k3.2, HB3.out, z3⟩
        case measure => (simp [intOf]) <;> omega
    · have hjl : j = ws.length := by omega
      subst hjl
      go_wp2_with fail
      go_ret
      exact ⟨rfl, HB0.out⟩
end Go.Proofs.YtbbomajgmgmigaaDoor
