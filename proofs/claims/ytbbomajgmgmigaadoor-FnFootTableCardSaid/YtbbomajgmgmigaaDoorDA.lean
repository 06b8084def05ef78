/- The least place of a set, how many members it has, and whether ways join places: of the program and of its model. -/
import Derived.Test.YtbbomajgmgmigaaDoorWS
import Derived.Test.YtbbomajgmgmigaaDoorSets
set_option linter.unusedSimpArgs false
set_option linter.unusedVariables false
namespace Go.Proofs.YtbbomajgmgmigaaDoor
open Go.ChangeShapes Go.WideShapes Go.ChangeAt Go.RowKit

/-- the library's table lies as its text lays it -/
def Tab (w : World) : Prop := 1 < w.heap.size ∧ ∀ j, j < 64 → w.cell? ⟨1, j, none⟩ = some (.int .u8 ((Lib.deBruijn64tab.getD j 0 : Nat) : Int))
theorem Tab.later {w w' : World} (h : Tab w) (hb : Below w.heap.size w w') : Tab w' :=
  ⟨Nat.lt_of_lt_of_le h.1 hb.size, fun j hj => (hb.cell (p := ⟨1, j, none⟩) h.1).trans (h.2 j hj)⟩
theorem Tab.drewR {w : World} (h : Tab w) : Tab w.drew := h
theorem Tab.drewNR {w : World} (h : Tab w) (k : Nat) : Tab (w.drewN k) := h
theorem u64_and_nat (a b : Nat) (ha : a < 18446744073709551616) (hb : b < 18446744073709551616) : bits .and .u64 (a : Int) (b : Int) = ((a &&& b : Nat) : Int) := by
  have hx : a &&& b < 2 ^ 64 := Nat.and_lt_two_pow _ (by omega)
  have h1 : (BitVec.ofInt 64 (a : Int)).toNat = a := by rw [BitVec.ofInt_natCast, BitVec.toNat_ofNat]; exact Nat.mod_eq_of_lt (by omega)
  have h2 : (BitVec.ofInt 64 (b : Int)).toNat = b := by rw [BitVec.ofInt_natCast, BitVec.toNat_ofNat]; exact Nat.mod_eq_of_lt (by omega)
  show IntKind.u64.wrap ((BitVec.ofInt 64 (a : Int) &&& BitVec.ofInt 64 (b : Int)).toNat : Int) = _
  rw [BitVec.toNat_and, h1, h2, IntKind.wrap_u64]
  omega
theorem tz_key (x a : Nat) (hx : x < 18446744073709551616) (hx0 : x ≠ 0) (hlow : x &&& (18446744073709551616 - x) = a) :
    IntKind.u64.wrap (bits BinOp.and IntKind.u64 (x : Int) (IntKind.u64.wrap (-(x : Int))) * 285870213051353865) / 288230376151711744 = ((a * 285870213051353865 % 18446744073709551616 / 288230376151711744 : Nat) : Int) := by
  have e1 : IntKind.u64.wrap (-(x : Int)) = ((18446744073709551616 - x : Nat) : Int) := by rw [IntKind.wrap_u64]; omega
  rw [e1, u64_and_nat x _ hx (by omega), hlow, IntKind.wrap_u64]
  omega
set_option maxHeartbeats 1000000 in
theorem TZ64_core (x : Int) (k idx : Nat) (w : World) (hx0 : (x == 0) = false)
    (key : IntKind.u64.wrap (bits BinOp.and IntKind.u64 x (IntKind.u64.wrap (-x)) * 285870213051353865) / 288230376151711744 = (idx : Int))
    (hi : idx < 64) (hk : k < 64) (hcell : w.cell? ⟨1, idx, none⟩ = some (.int .u8 k)) :
    Calls Tryd.prog 75 #[.int .u64 x] w fun e w' => e = .returned (.int .i64 k) ∧ w = w' := by
  go_enter Tryd.func75, Tryd.ntmps75
  go_wp2_with (simp only [key])
  go_ret
  exact ⟨rfl, rfl⟩
theorem TZ64_any (x : Int) (h0 : 0 < x) (h1 : x < 9223372036854775808) (w : World) (hT : Tab w) :
    Calls Tryd.prog 75 #[.int .u64 x] w fun e w' => e = .returned (.int .i64 (low x)) ∧ w = w' := by
  obtain ⟨n, rfl⟩ := Int.eq_ofNat_of_zero_le (Int.le_of_lt h0)
  obtain ⟨hlow, hk⟩ := Lib.lowest_bit 64 n (by omega) (by omega)
  obtain ⟨hi, htab⟩ := Lib.deBruijn64_at _ hk
  have hcell := hT.2 _ hi
  rw [htab] at hcell
  have e : low (n : Int) = ((Lib.ctz 64 n : Nat) : Int) := by unfold low; rw [Int.toNat_natCast]
  rw [e]
  exact TZ64_core n _ _ w (by simp; omega) (tz_key n _ (by omega) (by omega) hlow) hi hk hcell
theorem TZ_any (x : Int) (h0 : 0 < x) (h1 : x < 1073741824) (w : World) (hT : Tab w) :
    Calls Tryd.prog 62 #[.int .u64 x] w fun e w' => e = .returned (.int .i64 (low x)) ∧ w = w' := by
  have hw : IntKind.u64.wrap x = x := by rw [IntKind.wrap_u64]; omega
  have HT := Lib.hid hT
  clear hT
  go_enter Tryd.func62, Tryd.ntmps62
  go_wp2_with fail
  refine (TZ64_any x h0 (by omega) _ HT.out).mono ?_; rintro e w' ⟨rfl, rfl⟩
  go_wp2_with fail
  go_ret
  exact ⟨rfl, rfl⟩
theorem hasPlaces_any (n p : Int) (v : Value) (h0 : 0 ≤ n) (h6 : n ≤ 6) (w : World) :
    Calls Tryd.prog 42 #[.agg #[.int .i64 n, v], .int .i64 p] w fun e w' => e = .returned (.bool (decide (0 ≤ p) && decide (p < 2 ^ n.toNat))) ∧ Below w.heap.size w w' := by
  have hp := pow_bd n 6 (by omega)
  go_enter Tryd.func42, Tryd.ntmps42
  go_wp2
  all_goals
    go_ret
    exact ⟨ret_bool (by first | (simp [*]; done) | (rw [Bool.eq_iff_iff]; simp only [Bool.and_eq_true, Bool.or_eq_true, Bool.not_eq_true', bne_iff_ne, beq_iff_eq, decide_eq_true_eq, decide_eq_false_iff_not, beq_eq_false_iff_ne, ne_eq, Bool.true_and, Bool.and_true, Bool.false_and, Bool.and_false, Bool.true_or, Bool.false_or, Bool.or_false, true_and, and_true, Bool.false_eq_true, false_iff, iff_false, true_iff, iff_true, iff_self]; done) | (rw [Bool.eq_iff_iff]; simp only [Bool.and_eq_true, Bool.or_eq_true, Bool.not_eq_true', bne_iff_ne, beq_iff_eq, decide_eq_true_eq, decide_eq_false_iff_not, beq_eq_false_iff_ne, ne_eq, Bool.true_and, Bool.and_true, Bool.false_and, Bool.and_false, Bool.true_or, Bool.false_or, Bool.or_false, true_and, and_true, Bool.false_eq_true, false_iff, iff_false, true_iff, iff_true]; omega)), by go_grown⟩

set_option maxHeartbeats 1000000 in
theorem setJoins_any (n s e : Int) (A : Option Addr) (cap : Nat) (ws : List Wy) (w : World) (hr : RW w w.heap.size A ws) (hn : NetIs n ws) (h2 : 0 ≤ s) (h3 : s ≤ 1048576)
    (he0 : 0 ≤ e) (he1 : e < 2 ^ n.toNat) (hT : Tab w) :
    Calls Tryd.prog 43 #[.agg #[.int .i64 n, .slice A ws.length cap], .int .i64 s, .int .i64 e] w fun en w' => en = .returned (.bool (joins ws s e)) ∧ Below w.heap.size w w' := by
  have HR := Lib.hid hr
  have HT := Lib.hid hT
  have HN := Lib.hid hn
  have h6 := pow_bd n 6 (by have := hn.hi; omega)
  have heb : e < 64 := by omega
  by_cases hz : e = 0
  · subst hz
    rw [joins_none]
    clear hr hT hn he1 h6
    go_enter Tryd.func43, Tryd.ntmps43
    go_wp2_with fail
    go_ret
    exact ⟨rfl, by go_grown⟩
  · obtain ⟨l0, l1, lb, ll⟩ := low_spec (e := e) (by omega) (by omega)
    have ln : low e < n := by have := set_sub he0 he1 lb; have := hn.lo; omega
    have HJ : Hid (joins ws s e = (idiff e (reach ws s (low e)) == 0)) := by show joins ws s e = _; unfold joins; rw [if_neg hz]
    have hri := reach_is (s := s) hn l0 ln
    have hb0 := hri.lo
    have hb1 := hri.hi
    have HA := Lib.hid (bits_andNot e (reach ws s (low e)) (by omega) (by omega) (by omega) (by omega))
    have hpos : 0 < e := by omega
    have hz' : (e == 0) = false := by simp [hz]
    clear hr hT hn he1 h6 lb ll hz hri
    go_enter Tryd.func43, Tryd.ntmps43
    go_wp2_with fail
    refine (TZ_any e (by omega) (by omega) _ (HT.out.later (by go_grown))).mono ?_; rintro e1 w1 ⟨rfl, rfl⟩
    go_wp2_with fail
    refine (setReach_any n s (low e) A cap ws _ (HR.out.later (by go_grown)) HN.out h2 (by omega) l0 ln).mono ?_; rintro e w1 ⟨rfl, hb1⟩
    obtain ⟨hc1, hf1⟩ := bcell hb1
    have hz1_0 : w.heap.size < w1.heap.size := by have hq := hb1.size; (try simp at hq); omega
    have HK1 := Lib.hid hb1
    have HB1 := Lib.hid (bstep (B := w.heap.size) (W := w) (by (try have hp := HB0.out); go_grown) (by go_size) hb1); clear hb1
    go_wp2_with fail
    go_ret
    exact ⟨ret_bool (by rw [HJ.out, ← HA.out]), HB1.out⟩

def plOk (n e : Int) : Bool := decide (0 ≤ e) && decide (e < 2 ^ n.toNat)
theorem plOk_t {n e : Int} (h : plOk n e = true) : 0 ≤ e ∧ e < 2 ^ n.toNat := by unfold plOk at h; simpa using h
noncomputable def joinsEnds (n : Int) (ws : List Wy) (s e : Int) : Bool := setOk n ws s && plOk n e && joins ws s e
set_option maxHeartbeats 1000000 in
theorem JoinsEnds_any (n s e : Int) (A : Option Addr) (cap : Nat) (ws : List Wy) (w : World) (hr : RW w w.heap.size A ws) (hT : Tab w) :
    Calls Tryd.prog 15 #[.agg #[.int .i64 n, .slice A ws.length cap], .int .i64 s, .int .i64 e] w fun en w' => en = .returned (.bool (joinsEnds n ws s e)) ∧ Below w.heap.size w w' := by
  have HR := Lib.hid hr
  have HT := Lib.hid hT
  clear hr hT
  unfold joinsEnds
  cases hn : setOk n ws s
  · have HN := Lib.hid hn
    rw [Bool.false_and, Bool.false_and]
    clear hn
    go_enter Tryd.func15, Tryd.ntmps15
    go_wp2_with fail
    refine (waysOk_any _ _ _ _ _ _ (HR.out.later (by go_grown))).mono ?_; rintro e w1 ⟨rfl, hb1⟩
    rw [HN.out]
    obtain ⟨hc1, hf1⟩ := bcell hb1
    have hz1_0 : w.heap.size < w1.heap.size := by have hq := hb1.size; (try simp at hq); omega
    have HK1 := Lib.hid hb1
    have HB1 := Lib.hid (bstep (B := w.heap.size) (W := w) (by (try have hp := HB0.out); go_grown) (by go_size) hb1); clear hb1
    go_wp2_with fail
    go_ret
    exact ⟨rfl, HB1.out⟩
  · have HN := Lib.hid hn
    obtain ⟨hnet, hs0, hs1, hs2⟩ := setOk_t hn
    have HS := Lib.hid hnet
    have hn0 := hnet.lo
    have hn6 := hnet.hi
    rw [Bool.true_and]
    clear hn hnet
    cases hp : plOk n e
    · have HP : Hid ((decide (0 ≤ e) && decide (e < 2 ^ n.toNat)) = false) := hp
      rw [Bool.false_and]
      clear hp
      go_enter Tryd.func15, Tryd.ntmps15
      go_wp2_with fail
      refine (waysOk_any _ _ _ _ _ _ (HR.out.later (by go_grown))).mono ?_; rintro e w1 ⟨rfl, hb1⟩
      rw [HN.out]
      obtain ⟨hc1, hf1⟩ := bcell hb1
      have hz1_0 : w.heap.size < w1.heap.size := by have hq := hb1.size; (try simp at hq); omega
      have HK1 := Lib.hid hb1
      have HB1 := Lib.hid (bstep (B := w.heap.size) (W := w) (by (try have hp := HB0.out); go_grown) (by go_size) hb1); clear hb1
      go_wp2_with fail
      refine (hasPlaces_any _ _ _ (by omega) (by omega) _).mono ?_; rintro e w2 ⟨rfl, hb2⟩
      rw [HP.out]
      obtain ⟨hc2, hf2⟩ := bcell hb2
      have hz2_0 : w.heap.size < w2.heap.size := by have hq := hb2.size; (try simp at hq); omega
      have HK2 := Lib.hid hb2
      have HB2 := Lib.hid (bstep (B := w.heap.size) (W := w) (by have hp := HB1.out; go_grown) (by go_size) hb2); clear hb2
      go_wp2_with fail
      go_ret
      exact ⟨rfl, HB2.out⟩
    · have HP : Hid ((decide (0 ≤ e) && decide (e < 2 ^ n.toNat)) = true) := hp
      obtain ⟨he0, he1⟩ := plOk_t hp
      have HE := Lib.hid he1
      rw [Bool.true_and]
      clear hp he1
      go_enter Tryd.func15, Tryd.ntmps15
      go_wp2_with fail
      refine (waysOk_any _ _ _ _ _ _ (HR.out.later (by go_grown))).mono ?_; rintro e w1 ⟨rfl, hb1⟩
      rw [HN.out]
      obtain ⟨hc1, hf1⟩ := bcell hb1
      have hz1_0 : w.heap.size < w1.heap.size := by have hq := hb1.size; (try simp at hq); omega
      have HK1 := Lib.hid hb1
      have HB1 := Lib.hid (bstep (B := w.heap.size) (W := w) (by (try have hp := HB0.out); go_grown) (by go_size) hb1); clear hb1
      go_wp2_with fail
      refine (hasPlaces_any _ _ _ (by omega) (by omega) _).mono ?_; rintro e w2 ⟨rfl, hb2⟩
      rw [HP.out]
      obtain ⟨hc2, hf2⟩ := bcell hb2
      have hz2_0 : w.heap.size < w2.heap.size := by have hq := hb2.size; (try simp at hq); omega
      have HK2 := Lib.hid hb2
      have HB2 := Lib.hid (bstep (B := w.heap.size) (W := w) (by have hp := HB1.out; go_grown) (by go_size) hb2); clear hb2
      go_wp2_with fail
      refine (setJoins_any n s e A cap ws _ (HR.out.later (by have := HB2.out; go_grown)) HS.out hs0 (by omega) he0 HE.out (HT.out.later (by have := HB2.out; go_grown))).mono ?_; rintro e w3 ⟨rfl, hb3⟩
      obtain ⟨hc3, hf3⟩ := bcell hb3
      have hz3_0 : w.heap.size < w3.heap.size := by have hq := hb3.size; (try simp at hq); omega
      have HK3 := Lib.hid hb3
      have HB3 := Lib.hid (bstep (B := w.heap.size) (W := w) (by have hp := HB2.out; go_grown) (by go_size) hb3); clear hb3
      go_wp2_with fail
      go_ret
      exact ⟨rfl, HB3.out⟩

set_option maxHeartbeats 1000000 in
theorem l1Joins_any (n s e : Int) (A : Option Addr) (cap : Nat) (ws : List Wy) (w : World) (hr : RW w w.heap.size A ws) (hn : NetIs n ws) (h2 : 0 ≤ s) (h3 : s ≤ 1048576) (he0 : 0 ≤ e) (he1 : e < 2 ^ n.toNat) :
    Calls Tryd.prog 48 #[.agg #[.int .i64 n, .slice A ws.length cap], .int .i64 s, .int .i64 e] w fun en w' => en = .returned (.bool (joins ws s e)) ∧ Below w.heap.size w w' := by
  have HR := Lib.hid hr
  have HN := Lib.hid hn
  have HE := Lib.hid he1
  have hn0 := hn.lo
  have hn6 := hn.hi
  have h6 := pow_bd n 6 (by omega)
  have heb : e < 64 := by omega
  clear hr hn he1 h6
  go_enter Tryd.func48, Tryd.ntmps48
  go_wp2_with fail
  go_loopw [7] (fun i wr => ∃ k : Nat, (k : Int) ≤ n ∧ i = .int .i64 k ∧ (∀ j : Int, 0 ≤ j → j < k → bit e j = false) ∧ Below (w.heap.size + 1) (w.alloc (.cells #[.int .i64 n, .slice A ws.length cap] 25)) wr) (fun i _ => n.toNat - (intOf i).toNat)
  case atStart => exact ⟨0, by omega, rfl, fun j h0 h1 => by omega, Below.refl _ _⟩
  case round =>
    obtain ⟨k, hk, rfl, hall, hb⟩ := hrel
    obtain ⟨hb1, b0, b1, hz⟩ := box2 hb
    have HB0 := Lib.hid hb
    have HB00 := Lib.hid hb1
    have HA := Lib.hid hall
    clear hb hb1 hall
    by_cases hlt : (k : Int) < n
    · have hq0 : 0 ≤ e / 2 ^ k := (div_pow_bd e k he0).1
      have hq1 : (e / 2 ^ k % 2 == 1) = bit e k := bit_mod_nat e k he0
      cases hbit : bit e k
      · rw [hbit] at hq1
        have HY : Hid (∀ j : Int, 0 ≤ j → j < ((k + 1 : Nat) : Int) → bit e j = false) := fun j h0 h1 => by
          by_cases hj : j = k
          · rw [hj]; exact hbit
          · exact HA.out j h0 (by omega)
        clear hbit
        go_wp2_with fail
        go_roundw
        case rel => exact ⟨k + 1, by omega, by go_num, HY.out, by have := HB0.out; go_grown⟩
        case measure => simp [intOf]; omega
      · rw [hbit] at hq1
        have HJ := Lib.hid (joins_at (ws := ws) (s := s) (e := e) (k := k) he0 (by omega) (by omega) hbit HA.out)
        have hri := reach_is (s := s) HN.out (p := k) (by omega) hlt
        have hr0 := hri.lo
        have hr1 := hri.hi
        have HD := Lib.hid (bits_andNot e (reach ws s k) (by omega) (by omega) (by omega) (by omega))
        clear hbit hri
        go_wp2_with fail
        refine (l1Reach_any n s k A cap ws _ (HR.out.later (by have := HB00.out; go_grown)) HN.out h2 (by omega) (by omega) hlt).mono ?_; rintro e1 w1 ⟨rfl, hb1⟩
        have HE1 := Lib.hid (bstep (B := w.heap.size) (W := w) (by have := HB00.out; go_grown) (by go_size) hb1)
        clear hb1
        go_wp2_with fail
        go_ret
        exact ⟨ret_bool (by rw [HJ.out, ← HD.out]), HE1.out⟩
    · have HJ : Hid (joins ws s e = true) := by
        have : e = 0 := set_none he0 HE.out (fun j h0 h1 => HA.out j h0 (by omega))
        show joins ws s e = true
        rw [this]; exact joins_none ws s
      go_wp2_with fail
      go_ret
      exact ⟨ret_bool HJ.out.symm, HB00.out⟩

theorem plOk_in (n e : Int) : plOk n e = inB e 0 (2 ^ n.toNat - 1) := by
  unfold plOk inB
  rw [Bool.eq_iff_iff]; simp; omega
set_option maxHeartbeats 400000 in
theorem l1EndsOk_any (n e : Int) (A : Option Addr) (cap : Nat) (ws : List Wy) (w : World) (hr : RW w w.heap.size A ws) (hm : ws.length ≤ 1073741824) :
    Calls Tryd.prog 35 #[.agg #[.int .i64 n, .slice A ws.length cap], .int .i64 e] w fun en w' => en = .returned (.bool (netOk n ws && plOk n e)) ∧ Below w.heap.size w w' := by
  have HR := Lib.hid hr
  clear hr
  cases hn : netOk n ws
  · have HN := Lib.hid hn
    rw [Bool.false_and]
    clear hn
    go_enter Tryd.func35, Tryd.ntmps35
    go_wp2_with fail
    refine (sNetOk_any _ _ _ _ _ (HR.out.later (by go_grown)) hm).mono ?_; rintro e w1 ⟨rfl, hb1⟩
    rw [HN.out]
    obtain ⟨hc1, hf1⟩ := bcell hb1
    have hz1_0 : w.heap.size < w1.heap.size := by have hq := hb1.size; (try simp at hq); omega
    have HK1 := Lib.hid hb1
    have HB1 := Lib.hid (bstep (B := w.heap.size) (W := w) (by (try have hp := HB0.out); go_grown) (by go_size) hb1); clear hb1
    go_wp2_with fail
    go_ret
    exact ⟨rfl, HB1.out⟩
  · have HN := Lib.hid hn
    have hn2 := (netOk_t hn).lo
    have hn6 := (netOk_t hn).hi
    have hp := pow_bd n 6 (by omega)
    have HP := Lib.hid (plOk_in n e)
    rw [Bool.true_and]
    clear hn
    go_enter Tryd.func35, Tryd.ntmps35
    go_wp2_with fail
    refine (sNetOk_any _ _ _ _ _ (HR.out.later (by go_grown)) hm).mono ?_; rintro e w1 ⟨rfl, hb1⟩
    rw [HN.out]
    obtain ⟨hc1, hf1⟩ := bcell hb1
    have hz1_0 : w.heap.size < w1.heap.size := by have hq := hb1.size; (try simp at hq); omega
    have HK1 := Lib.hid hb1
    have HB1 := Lib.hid (bstep (B := w.heap.size) (W := w) (by (try have hp := HB0.out); go_grown) (by go_size) hb1); clear hb1
    go_wp2_with fail
    refine (l1In_any _ _ _ _).mono ?_; rintro e w' ⟨rfl, rfl⟩
    go_wp2_with fail
    go_ret
    exact ⟨ret_bool HP.out.symm, HB1.out⟩
end Go.Proofs.YtbbomajgmgmigaaDoor
