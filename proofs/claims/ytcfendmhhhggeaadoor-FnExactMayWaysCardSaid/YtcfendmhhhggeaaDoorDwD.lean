/- The model's changes of ways: l11Cost, CostWithout, CostWith, MustWays, MayWays. -/
import Derived.Test.YtcfendmhhhggeaaDoorDwN
import Derived.Test.YtcfendmhhhggeaaDoorRI
import Derived.Test.YtcfendmhhhggeaaDoorMD
import Derived.Test.YtcfendmhhhggeaaDoorME
import Derived.Test.YtcfendmhhhggeaaDoorMG
import Derived.Test.YtcfendmhhhggeaaDoorWC
set_option linter.unusedSimpArgs false
set_option linter.unusedVariables false
attribute [local go_sem ↓] Go.wp_at_zero Go.wp_at_succ
namespace Go.Proofs.YtcfendmhhhggeaaDoor
open Go.ChangeShapes Go.WideShapes Go.ChangeAt Go.RowKit

theorem lcTo_bd {n : Int} {ws : List Wy} (hn : NetIs n ws) (P : Int → Bool) (e : Int) (k : Nat) : -1 ≤ lcTo ws P e k := (lcTo_ok hn P e k).1
theorem lcTo_yes {ws : List Wy} {P : Int → Bool} {e : Int} {k : Nat} (hp : P k = true) (hj : joins ws k e = true) : lcTo ws P e (k + 1) = lowC (lcTo ws P e k) (cost ws k) := by
  rw [lcTo, if_pos (by rw [hp, hj]; rfl)]
theorem lcTo_no {ws : List Wy} {P : Int → Bool} {e : Int} {k : Nat} (h : P k = false ∨ joins ws k e = false) : lcTo ws P e (k + 1) = lcTo ws P e k := by
  rw [lcTo, if_neg]
  rcases h with h | h <;> rw [h] <;> simp
set_option maxHeartbeats 1000000 in
theorem l3Lw_any (a c : Int) (hc : 0 ≤ c) (w : World) :
    Calls Tryd.prog 51 #[.int .i64 a, .int .i64 c] w fun e w' => e = .returned (.int .i64 (lowC a c)) ∧ Below w.heap.size w w' := by
  by_cases h1 : a < 0
  · have HV : Hid (lowC a c = c) := if_pos (.inl h1)
    go_enter Tryd.func51, Tryd.ntmps51
    go_wp2_with fail
    go_ret
    exact ⟨by rw [HV.out]; rfl, Below.refl _ _⟩
  · have hd1 : decide (a < 0) = false := by simpa using h1
    by_cases h2 : c < a
    · have HV : Hid (lowC a c = c) := if_pos (.inr h2)
      go_enter Tryd.func51, Tryd.ntmps51
      go_wp2_with fail
      go_ret
      exact ⟨by rw [HV.out]; rfl, Below.refl _ _⟩
    · have hd2 : decide (c < a) = false := by simpa using h2
      have HV : Hid (lowC a c = a) := if_neg (fun e => e.elim h1 h2)
      go_enter Tryd.func51, Tryd.ntmps51
      go_wp2_with fail
      go_ret
      exact ⟨by rw [HV.out]; rfl, Below.refl _ _⟩
theorem plOk_t' {n e : Int} (h : plOk n e = true) : 0 ≤ e ∧ e < 2 ^ n.toNat := plOk_t h
theorem costWithout_no {n : Int} {ws : List Wy} {e t : Int} (h : (netOk n ws && plOk n e) = false ∨ inB t 0 (full ws.length) = false) : costWithout n ws e t = -1 := by
  unfold costWithout
  rw [if_neg]
  rw [← Bool.and_assoc]
  rcases h with h | h
  · rw [h]; simp
  · have h9 : costWithout.inB' t (full ws.length) = false := by unfold costWithout.inB'; unfold inB at h; exact h
    rw [h9]; simp
theorem costWith_no {n : Int} {ws : List Wy} {e t : Int} (h : (netOk n ws && plOk n e) = false ∨ inB t 0 (full ws.length) = false) : costWith n ws e t = -1 := by
  unfold costWith
  rw [if_neg]
  rw [← Bool.and_assoc]
  rcases h with h | h
  · rw [h]; simp
  · have h9 : costWithout.inB' t (full ws.length) = false := by unfold costWithout.inB'; unfold inB at h; exact h
    rw [h9]; simp
set_option maxHeartbeats 4000000 in
theorem l11Cost_any (n e M : Int) (A : Option Addr) (cap : Nat) (ws : List Wy) (w : World) (hr : RW w w.heap.size A ws) (hn : NetIs n ws) (e0 : 0 ≤ e) (e1 : e < 2 ^ n.toNat) (m0 : 0 ≤ M) (m1 : M ≤ 1048576) :
    Calls Tryd.prog 45 #[.agg #[.int .i64 n, .slice A ws.length cap], .int .i64 e, .int .i64 M] w fun en w' => en = .returned (.int .i64 (lc ws (fun s => subS s M) e)) ∧ Below w.heap.size w w' := by
  have HR := Lib.hid hr
  have HN := Lib.hid hn
  have HE1 := Lib.hid e1
  have hl9 := hn.len
  have hpl := pow_bd (ws.length : Int) 9 (by omega)
  rw [Int.toNat_natCast] at hpl
  have hpw : ((2 : Int) ^ ws.length) = ((2 ^ ws.length : Nat) : Int) := by simp
  obtain ⟨K, hK⟩ : ∃ K : Nat, 2 ^ ws.length = K := ⟨_, rfl⟩
  have hK9 : K ≤ 512 := by omega
  have HLC : Hid (lc ws (fun s => subS s M) e = lcTo ws (fun s => subS s M) e K) := by show lc ws _ e = _; unfold lc; rw [hK]
  have HW1 : Hid (IntKind.i64.wrap (2 ^ ws.length) = (K : Int)) := by show _ = _; rw [hpw, hK]; exact IntWalk.i64_in _ ⟨by omega, by omega⟩
  have HW2 : Hid (wrap64 (2 ^ ws.length) = (K : Int)) := by show _ = _; rw [hpw, hK]; exact IntWalk.wrap64_in _ ⟨by omega, by omega⟩
  clear hr hn e1 hpl hpw hK
  go_enter Tryd.func45, Tryd.ntmps45
  go_wp2_with fail
  go_loopw [7, 8] (fun c i wr => ∃ k : Nat, k ≤ K ∧ i = .int .i64 k ∧ c = .int .i64 (lcTo ws (fun s => subS s M) e k) ∧ wr.cell? ⟨w.heap.size, 0, none⟩ = some (.int .i64 n) ∧ wr.cell? ⟨w.heap.size, 1, none⟩ = some (.slice A ws.length cap) ∧ Below w.heap.size w wr ∧ w.heap.size < wr.heap.size) (fun _ i _ => K - (intOf i).toNat)
  case atStart => exact ⟨0, Nat.zero_le _, rfl, rfl, by go_simp, by go_simp, (Below.refl _ _).alloc (Nat.le_refl _) _, by simp⟩
  case round =>
    skip
    obtain ⟨k, hk, rfl, rfl, b0, b1, hb, hz⟩ := hrel
    have HB0 := Lib.hid hb
    have hk0 : (0 : Int) ≤ (k : Int) := by omega
    have hbd := lcTo_bd HN.out (fun s => subS s M) e k
    have HYES := Lib.hid (fun hp hj => lcTo_yes (ws := ws) (P := (fun s => subS s M)) (e := e) (k := k) hp hj)
    have HNOT := Lib.hid (fun h => lcTo_no (ws := ws) (P := (fun s => subS s M)) (e := e) (k := k) h)
    have HPK : Hid ((fun s => subS s M) (k : Int) = (idiff (k : Int) M == 0)) := rfl
    obtain ⟨L, hL⟩ : ∃ L, lcTo ws (fun s => subS s M) e k = L := ⟨_, rfl⟩
    rw [hL] at hbd HYES HNOT ⊢
    have HLE := Lib.hid hL
    clear hb hL
    by_cases hlt : k < K
    · have hk1 : (k : Int) < (K : Int) := by omega
      have HCW : Hid (bits .andNot .i64 (k : Int) M = idiff (k : Int) M) := bits_andNot _ _ (by omega) (by omega) (by omega) (by omega)
      cases hp : (fun s => subS s M) (k : Int)
      · have HY : Hid (lcTo ws (fun s => subS s M) e (k + 1) = L) := HNOT.out (.inl hp)
        have hcw : (bits .andNot .i64 (k : Int) M == 0) = false := by rw [HCW.out, ← HPK.out]; exact hp
        clear hp hbd
        have hw1 := HW1.out
        have hw2 := HW2.out
        go_wp2_with fail
        clear hcw hw1 hw2
        go_roundw
        case rel => exact ⟨k + 1, by omega, by go_num, by rw [HY.out], b0, b1, HB0.out, hz⟩
        case measure => (simp [intOf]) <;> omega
      · have hcw : (bits .andNot .i64 (k : Int) M == 0) = true := by rw [HCW.out, ← HPK.out]; exact hp
        cases hj : joins ws (k : Int) e
        · have HJ := Lib.hid hj
          have HY : Hid (lcTo ws (fun s => subS s M) e (k + 1) = L) := HNOT.out (.inr hj)
          clear hp hbd hj
          have hw1 := HW1.out
          have hw2 := HW2.out
          go_wp2_with fail
          refine (l1Joins_any n k e A cap ws _ (HR.out.later (by have := HB0.out; go_grown)) HN.out hk0 (by clear hw1 hw2; omega) e0 HE1.out).mono ?_; rintro e1 w1 ⟨rfl, hb1⟩; rw [HJ.out]
          have k1 := keep2 hb1 ⟨b0, b1⟩ hz
          have z1 := Nat.lt_of_lt_of_le hz hb1.size
          have HB1 := Lib.hid (bstep (B := w.heap.size) (W := w) HB0.out (Nat.le_of_lt hz) hb1)
          clear hb1 hcw hw1 hw2
          go_wp2_with fail
          go_roundw
          case rel => exact ⟨k + 1, by omega, by go_num, by rw [HY.out], k1.1, k1.2, HB1.out, z1⟩
          case measure => (simp [intOf]) <;> omega
        · have HJ := Lib.hid hj
          have HY : Hid (lcTo ws (fun s => subS s M) e (k + 1) = lowC L (cost ws k)) := HYES.out hp hj
          have hcb := cost_bds HN.out (k : Int)
          have hcb0 := hcb.1
          clear hp hbd hj hcb
          have hw1 := HW1.out
          have hw2 := HW2.out
          go_wp2_with fail
          refine (l1Joins_any n k e A cap ws _ (HR.out.later (by have := HB0.out; go_grown)) HN.out hk0 (by clear hw1 hw2; omega) e0 HE1.out).mono ?_; rintro e1 w1 ⟨rfl, hb1⟩; rw [HJ.out]
          have k1 := keep2 hb1 ⟨b0, b1⟩ hz
          have z1 := Nat.lt_of_lt_of_le hz hb1.size
          have HB1 := Lib.hid (bstep (B := w.heap.size) (W := w) HB0.out (Nat.le_of_lt hz) hb1)
          clear hb1 hcw hw1 hw2
          obtain ⟨k10, k11⟩ := k1
          go_wp2_with fail
          refine (l1Cost_any n k A cap ws _ (HR.out.later (by have := HB1.out; go_grown)) HN.out hk0 (by omega)).mono ?_; rintro e2 w2 ⟨rfl, hb2⟩
          have k2 := keep2 hb2 ⟨k10, k11⟩ z1
          have z2 := Nat.lt_of_lt_of_le z1 hb2.size
          have HB2 := Lib.hid (bstep (B := w.heap.size) (W := w) HB1.out (Nat.le_of_lt z1) hb2)
          clear hb2
          obtain ⟨k20, k21⟩ := k2
          go_wp2_with fail
          refine (l3Lw_any L (cost ws k) hcb0 _).mono ?_; rintro e3 w3 ⟨rfl, hb3⟩
          have k3 := keep2 hb3 ⟨k20, k21⟩ z2
          have z3 := Nat.lt_of_lt_of_le z2 hb3.size
          have HB3 := Lib.hid (bstep (B := w.heap.size) (W := w) HB2.out (Nat.le_of_lt z2) hb3)
          clear hb3
          go_wp2_with fail
          go_roundw
          case rel => exact ⟨k + 1, by omega, by go_num, by rw [HY.out], k3.1, k3.2, HB3.out, z3⟩
          case measure => (simp [intOf]) <;> omega
    · obtain rfl : k = K := by omega
      have hw1 := HW1.out
      have hw2 := HW2.out
      clear hbd
      go_wp2_with fail
      go_ret
      exact ⟨ret_int (by rw [HLC.out, HLE.out]), HB0.out⟩
set_option maxHeartbeats 4000000 in
theorem sCostWithout_any (n e t : Int) (A : Option Addr) (cap : Nat) (ws : List Wy) (w : World) (hr : RW w w.heap.size A ws) (hm : ws.length ≤ 1073741824) :
    Calls Tryd.prog 15 #[.agg #[.int .i64 n, .slice A ws.length cap], .int .i64 e, .int .i64 t] w fun en w' => en = .returned (.int .i64 (costWithout n ws e t)) ∧ Below w.heap.size w w' := by
  have HR := Lib.hid hr
  clear hr
  cases hok : netOk n ws && plOk n e
  · have HOK := Lib.hid hok
    rw [costWithout_no (.inl hok)]
    clear hok
    go_enter Tryd.func15, Tryd.ntmps15
    go_wp2_with fail
    refine (l1EndsOk_any _ _ _ _ _ _ (HR.out.later (by go_grown)) hm).mono ?_; rintro e w1 ⟨rfl, hb1⟩
    rw [HOK.out]
    obtain ⟨hc1, hf1⟩ := bcell hb1
    have hz1_0 : w.heap.size < w1.heap.size := by have hq := hb1.size; (try simp at hq); omega
    have HK1 := Lib.hid hb1
    have HB1 := Lib.hid (bstep (B := w.heap.size) (W := w) (by (try have hp := HB0.out); go_grown) (by go_size) hb1); clear hb1
    go_wp2_with fail
    go_ret
    exact ⟨rfl, HB1.out⟩
  · have HOK := Lib.hid hok
    obtain ⟨hno, hpe⟩ : netOk n ws = true ∧ plOk n e = true := by simpa using hok
    have hn := netOk_t hno
    have HN := Lib.hid hn
    obtain ⟨e0, e1⟩ := plOk_t hpe
    have HE1 := Lib.hid e1
    have hfb := full_bd ws.length hn.len
    have hl9 := hn.len
    have hpl := pow_bd (ws.length : Int) 9 (by omega)
    rw [Int.toNat_natCast] at hpl
    have hpw : ((2 : Int) ^ ws.length) = ((2 ^ ws.length : Nat) : Int) := by simp
    obtain ⟨K, hK⟩ : ∃ K : Nat, 2 ^ ws.length = K := ⟨_, rfl⟩
    have hK9 : K ≤ 512 := by omega
    have HLC : Hid (lc ws (fun s => subS t s) e = lcTo ws (fun s => subS t s) e K) := by show lc ws _ e = _; unfold lc; rw [hK]
    have HW1 : Hid (IntKind.i64.wrap (2 ^ ws.length) = (K : Int)) := by show _ = _; rw [hpw, hK]; exact IntWalk.i64_in _ ⟨by omega, by omega⟩
    have HW2 : Hid (wrap64 (2 ^ ws.length) = (K : Int)) := by show _ = _; rw [hpw, hK]; exact IntWalk.wrap64_in _ ⟨by omega, by omega⟩
    have hf9 : full ws.length = (K : Int) - 1 := by unfold full; rw [hpw, hK]
    have HF9 := Lib.hid hf9
    have HW3 : Hid (IntKind.i64.wrap ((K : Int) - 1) = full ws.length) := by show _ = _; rw [hf9]; exact IntWalk.i64_in _ ⟨by omega, by omega⟩
    have HW4 : Hid (wrap64 ((K : Int) - 1) = full ws.length) := by show _ = _; rw [hf9]; exact IntWalk.wrap64_in _ ⟨by omega, by omega⟩
    have HCI : Hid (inB t 0 (full ws.length) = true → costWithout n ws e t = lc ws (fun s => subS s (idiff (full ws.length) t)) e) := fun h => by
      unfold inB at h
      rw [Bool.and_eq_true, decide_eq_true_eq, decide_eq_true_eq] at h
      exact cw_is hno hpe h.1 h.2
    obtain ⟨FF, hFF⟩ : ∃ FF, full ws.length = FF := ⟨_, rfl⟩
    rw [hFF] at HW3 HW4 hfb HCI
    have hFK : FF = (K : Int) - 1 := by rw [← hFF]; exact HF9.out
    cases hin : inB t 0 FF
    · have HIN := Lib.hid hin
      rw [costWithout_no (.inr (by rw [hFF]; exact hin))]
      clear hok hno hpe hn e1 hpl hpw hK hin hf9 hFF hfb hFK
      go_enter Tryd.func15, Tryd.ntmps15
      have hw1 := HW1.out
      have hw2 := HW2.out
      have hw3 := HW3.out
      have hw4 := HW4.out
      go_wp2_with fail
      refine (l1EndsOk_any _ _ _ _ _ _ (HR.out.later (by go_grown)) hm).mono ?_; rintro e w1 ⟨rfl, hb1⟩
      rw [HOK.out]
      obtain ⟨hc1, hf1⟩ := bcell hb1
      have hz1_0 : w.heap.size < w1.heap.size := by have hq := hb1.size; (try simp at hq); omega
      have HK1 := Lib.hid hb1
      have HB1 := Lib.hid (bstep (B := w.heap.size) (W := w) (by (try have hp := HB0.out); go_grown) (by go_size) hb1); clear hb1
      go_wp2_with fail
      refine (l1In_any _ _ _ _).mono ?_; rintro e2 w2 ⟨rfl, rfl⟩; rw [HIN.out]
      go_wp2_with fail
      go_ret
      exact ⟨rfl, HB1.out⟩
    · have HIN := Lib.hid hin
      rw [HCI.out hin]
      obtain ⟨t0, t1⟩ := inB_t hin
      have t9 : t ≤ 1048576 := by omega
      have hdb := idiff_bd FF t (by omega)
      have hd0 := hdb.1
      have hd1 : idiff FF t ≤ 1048576 := by omega
      have HAN : Hid (bits .andNot .i64 FF t = idiff FF t) := bits_andNot _ _ (by omega) (by omega) (by omega) (by omega)
      clear hok hno hpe hn e1 hpl hpw hK hin hf9 hFF hfb hFK hdb t1
      go_enter Tryd.func15, Tryd.ntmps15
      have hw1 := HW1.out
      have hw2 := HW2.out
      have hw3 := HW3.out
      have hw4 := HW4.out
      go_wp2_with fail
      refine (l1EndsOk_any _ _ _ _ _ _ (HR.out.later (by go_grown)) hm).mono ?_; rintro e w1 ⟨rfl, hb1⟩
      rw [HOK.out]
      obtain ⟨hc1, hf1⟩ := bcell hb1
      have hz1_0 : w.heap.size < w1.heap.size := by have hq := hb1.size; (try simp at hq); omega
      have HK1 := Lib.hid hb1
      have HB1 := Lib.hid (bstep (B := w.heap.size) (W := w) (by (try have hp := HB0.out); go_grown) (by go_size) hb1); clear hb1
      go_wp2_with fail
      refine (l1In_any _ _ _ _).mono ?_; rintro e2 w2 ⟨rfl, rfl⟩; rw [HIN.out]
      have k10 : w1.cell? ⟨w.heap.size, 0, none⟩ = some (.int .i64 n) := by go_simp
      have k11 : w1.cell? ⟨w.heap.size, 1, none⟩ = some (.slice A ws.length cap) := by go_simp
      clear hc1 hf1
      go_wp2_with fail
      refine wp_region_held_drew (S := (fun w' => w'.cell? ⟨w.heap.size, 0, none⟩ = some (.int .i64 n) ∧ w'.cell? ⟨w.heap.size, 1, none⟩ = some (.slice A ws.length cap))) (by kernel_rfl) ?_ (fun hHeld => ?_)
      · exact ⟨k10, k11⟩
      refine wpAnyH_take (i := 0) (v := ?_) rfl (by kernel_rfl) (by kernel_rfl) (by kernel_rfl) (fun _ _ _ h => h) (Or.inl ⟨by rfl, ?_⟩) (by assumption) ?_
      rotate_left
      · (intro w hSw; (try dsimp only at hSw); (try simp only [List.getElem_toArray, List.getElem_cons_succ, List.getElem_cons_zero]); first | (go_simp; done) | (go_simp; with_reducible rfl))
      try simp only [Act.put, List.getElem_toArray, List.getElem_cons_succ, List.getElem_cons_zero, List.setIfInBounds_toArray, List.set_cons_zero, List.set_cons_succ]
      refine wpAnyH_take (i := 1) (v := ?_) rfl (by kernel_rfl) (by kernel_rfl) (by kernel_rfl) (fun _ _ _ h => h) (Or.inl ⟨by rfl, ?_⟩) (by assumption) ?_
      rotate_left
      · (intro w hSw; (try dsimp only at hSw); (try simp only [List.getElem_toArray, List.getElem_cons_succ, List.getElem_cons_zero]); first | (go_simp; done) | (go_simp; with_reducible rfl))
      try simp only [Act.put, List.getElem_toArray, List.getElem_cons_succ, List.getElem_cons_zero, List.setIfInBounds_toArray, List.set_cons_zero, List.set_cons_succ]
      refine wpAnyH_take (i := 2) (v := ?_) rfl (by kernel_rfl) (by kernel_rfl) (by kernel_rfl) (fun _ _ _ h => h) (Or.inl ⟨by rfl, ?_⟩) (by assumption) ?_
      rotate_left
      · (intro w hSw; (try dsimp only at hSw); (try simp only [List.getElem_toArray, List.getElem_cons_succ, List.getElem_cons_zero]); first | (go_simp; done) | (go_simp; with_reducible rfl))
      try simp only [Act.put, List.getElem_toArray, List.getElem_cons_succ, List.getElem_cons_zero, List.setIfInBounds_toArray, List.set_cons_zero, List.set_cons_succ]
      refine wpAnyH_take (i := 3) (v := ?_) rfl (by kernel_rfl) (by kernel_rfl) (by kernel_rfl) (fun _ _ _ h => h) (Or.inl ⟨by rfl, ?_⟩) (by assumption) ?_
      rotate_left
      · (intro w hSw; (try dsimp only at hSw); (try simp only [List.getElem_toArray, List.getElem_cons_succ, List.getElem_cons_zero]); first | (go_simp; done) | (go_simp; with_reducible rfl))
      try simp only [Act.put, List.getElem_toArray, List.getElem_cons_succ, List.getElem_cons_zero, List.setIfInBounds_toArray, List.set_cons_zero, List.set_cons_succ]
      refine wpAnyH_take (i := 4) (v := ?_) rfl (by kernel_rfl) (by kernel_rfl) (by kernel_rfl) (fun _ _ _ h => h) (Or.inl ⟨by rfl, ?_⟩) (by assumption) ?_
      rotate_left
      · (intro w hSw; (try dsimp only at hSw); (try simp only [List.getElem_toArray, List.getElem_cons_succ, List.getElem_cons_zero]); first | (go_simp; done) | (go_simp; with_reducible rfl))
      try simp only [Act.put, List.getElem_toArray, List.getElem_cons_succ, List.getElem_cons_zero, List.setIfInBounds_toArray, List.set_cons_zero, List.set_cons_succ]
      refine wpAnyH_take (i := 5) (v := ?_) rfl (by kernel_rfl) (by kernel_rfl) (by kernel_rfl) (fun _ _ _ h => h) (Or.inl ⟨by rfl, ?_⟩) (by assumption) ?_
      rotate_left
      · (intro w hSw; (try dsimp only at hSw); (try simp only [List.getElem_toArray, List.getElem_cons_succ, List.getElem_cons_zero]); first | (go_simp; done) | (go_simp; with_reducible rfl))
      try simp only [Act.put, List.getElem_toArray, List.getElem_cons_succ, List.getElem_cons_zero, List.setIfInBounds_toArray, List.set_cons_zero, List.set_cons_succ]
      refine wpAnyH_take (i := 6) (v := ?_) rfl (by kernel_rfl) (by kernel_rfl) (by kernel_rfl) (fun _ _ _ h => h) (Or.inl ⟨by rfl, ?_⟩) (by assumption) ?_
      rotate_left
      · (intro w hSw; (try dsimp only at hSw); (try simp only [List.getElem_toArray, List.getElem_cons_succ, List.getElem_cons_zero]); first | (go_simp; done) | (go_simp; with_reducible rfl))
      try simp only [Act.put, List.getElem_toArray, List.getElem_cons_succ, List.getElem_cons_zero, List.setIfInBounds_toArray, List.set_cons_zero, List.set_cons_succ]
      refine wpAnyH_take (i := 7) (v := ?_) rfl (by kernel_rfl) (by kernel_rfl) (by kernel_rfl) (fun _ _ _ h => h) (Or.inl ⟨by rfl, ?_⟩) (by assumption) ?_
      rotate_left
      · (intro w hSw; (try dsimp only at hSw); (try simp only [List.getElem_toArray, List.getElem_cons_succ, List.getElem_cons_zero]); first | (go_simp; done) | (go_simp; with_reducible rfl))
      try simp only [Act.put, List.getElem_toArray, List.getElem_cons_succ, List.getElem_cons_zero, List.setIfInBounds_toArray, List.set_cons_zero, List.set_cons_succ]
      refine wpAnyH_take (i := 8) (v := ?_) rfl (by kernel_rfl) (by kernel_rfl) (by kernel_rfl) (fun _ _ _ h => h) (Or.inl ⟨by rfl, ?_⟩) (by assumption) ?_
      rotate_left
      · (intro w hSw; (try dsimp only at hSw); (try simp only [List.getElem_toArray, List.getElem_cons_succ, List.getElem_cons_zero]); first | (go_simp; done) | (go_simp; with_reducible rfl))
      try simp only [Act.put, List.getElem_toArray, List.getElem_cons_succ, List.getElem_cons_zero, List.setIfInBounds_toArray, List.set_cons_zero, List.set_cons_succ]
      refine wpAnyH_ready (rs := [9]) (by kernel_rfl) (by simp) ?_
      refine AllReadyH.cons rfl (fun K hK => ?_) AllReadyH.nil
      try simp only [List.getElem_toArray, List.getElem_cons_succ, List.getElem_cons_zero]
      go_simp
      go_at_call 45; rw [HAN.out]; refine (l11Cost_any _ _ _ _ _ _ _ (HR.out.later (by have := HB1.out; go_grown)) HN.out e0 HE1.out hd0 hd1).mono ?_; rintro e3 w3 ⟨rfl, hb3⟩; have gg3 := und hb3; have HB3 := Lib.hid (bstep (B := w.heap.size) (W := w) (by have := HB1.out; go_grown) (by go_size) gg3); have k3 := keep2 gg3 ⟨k10, k11⟩ hz1_0; clear hb3
      refine hK.out _ _ ?_ (fun hHeld => ?_)
      · exact k3
      clear hK K
      try simp only [Act.put, List.getElem_toArray, List.getElem_cons_succ, List.getElem_cons_zero, List.setIfInBounds_toArray, List.set_cons_zero, List.set_cons_succ]
      refine wpAnyH_take (i := 10) (v := ?_) rfl (by kernel_rfl) (by kernel_rfl) (by kernel_rfl) (fun _ _ _ h => h) (Or.inl ⟨by rfl, ?_⟩) (by assumption) ?_
      rotate_left
      · (intro w hSw; (try dsimp only at hSw); (try simp only [List.getElem_toArray, List.getElem_cons_succ, List.getElem_cons_zero]); first | (go_simp; done) | (go_simp; with_reducible rfl))
      try simp only [Act.put, List.getElem_toArray, List.getElem_cons_succ, List.getElem_cons_zero, List.setIfInBounds_toArray, List.set_cons_zero, List.set_cons_succ]
      refine wpAnyH_done (by kernel_rfl) ?_ _
      go_wp2_with fail
      go_ret
      exact ⟨rfl, HB3.out⟩
set_option maxHeartbeats 4000000 in
theorem sCostWith_any (n e t : Int) (A : Option Addr) (cap : Nat) (ws : List Wy) (w : World) (hr : RW w w.heap.size A ws) (hm : ws.length ≤ 1073741824) :
    Calls Tryd.prog 22 #[.agg #[.int .i64 n, .slice A ws.length cap], .int .i64 e, .int .i64 t] w fun en w' => en = .returned (.int .i64 (costWith n ws e t)) ∧ Below w.heap.size w w' := by
  have HR := Lib.hid hr
  clear hr
  cases hok : netOk n ws && plOk n e
  · have HOK := Lib.hid hok
    rw [costWith_no (.inl hok)]
    clear hok
    go_enter Tryd.func22, Tryd.ntmps22
    go_wp2_with fail
    refine (l1EndsOk_any _ _ _ _ _ _ (HR.out.later (by go_grown)) hm).mono ?_; rintro e w1 ⟨rfl, hb1⟩
    rw [HOK.out]
    obtain ⟨hc1, hf1⟩ := bcell hb1
    have hz1_0 : w.heap.size < w1.heap.size := by have hq := hb1.size; (try simp at hq); omega
    have HK1 := Lib.hid hb1
    have HB1 := Lib.hid (bstep (B := w.heap.size) (W := w) (by (try have hp := HB0.out); go_grown) (by go_size) hb1); clear hb1
    go_wp2_with fail
    go_ret
    exact ⟨rfl, HB1.out⟩
  · have HOK := Lib.hid hok
    obtain ⟨hno, hpe⟩ : netOk n ws = true ∧ plOk n e = true := by simpa using hok
    have hn := netOk_t hno
    have HN := Lib.hid hn
    obtain ⟨e0, e1⟩ := plOk_t hpe
    have HE1 := Lib.hid e1
    have hfb := full_bd ws.length hn.len
    have hl9 := hn.len
    have hpl := pow_bd (ws.length : Int) 9 (by omega)
    rw [Int.toNat_natCast] at hpl
    have hpw : ((2 : Int) ^ ws.length) = ((2 ^ ws.length : Nat) : Int) := by simp
    obtain ⟨K, hK⟩ : ∃ K : Nat, 2 ^ ws.length = K := ⟨_, rfl⟩
    have hK9 : K ≤ 512 := by omega
    have HLC : Hid (lc ws (fun s => subS t s) e = lcTo ws (fun s => subS t s) e K) := by show lc ws _ e = _; unfold lc; rw [hK]
    have HW1 : Hid (IntKind.i64.wrap (2 ^ ws.length) = (K : Int)) := by show _ = _; rw [hpw, hK]; exact IntWalk.i64_in _ ⟨by omega, by omega⟩
    have HW2 : Hid (wrap64 (2 ^ ws.length) = (K : Int)) := by show _ = _; rw [hpw, hK]; exact IntWalk.wrap64_in _ ⟨by omega, by omega⟩
    have hf9 : full ws.length = (K : Int) - 1 := by unfold full; rw [hpw, hK]
    have HF9 := Lib.hid hf9
    have HW3 : Hid (IntKind.i64.wrap ((K : Int) - 1) = full ws.length) := by show _ = _; rw [hf9]; exact IntWalk.i64_in _ ⟨by omega, by omega⟩
    have HW4 : Hid (wrap64 ((K : Int) - 1) = full ws.length) := by show _ = _; rw [hf9]; exact IntWalk.wrap64_in _ ⟨by omega, by omega⟩
    have HCI : Hid (inB t 0 (full ws.length) = true → costWith n ws e t = lc ws (fun s => subS t s) e) := fun h => by
      unfold inB at h
      rw [Bool.and_eq_true, decide_eq_true_eq, decide_eq_true_eq] at h
      exact ch_is hno hpe h.1 h.2
    obtain ⟨FF, hFF⟩ : ∃ FF, full ws.length = FF := ⟨_, rfl⟩
    rw [hFF] at HW3 HW4 hfb HCI
    have hFK : FF = (K : Int) - 1 := by rw [← hFF]; exact HF9.out
    cases hin : inB t 0 FF
    · have HIN := Lib.hid hin
      rw [costWith_no (.inr (by rw [hFF]; exact hin))]
      clear hok hno hpe hn e1 hpl hpw hK hin hf9 hFF hfb hFK
      go_enter Tryd.func22, Tryd.ntmps22
      have hw1 := HW1.out
      have hw2 := HW2.out
      have hw3 := HW3.out
      have hw4 := HW4.out
      go_wp2_with fail
      refine (l1EndsOk_any _ _ _ _ _ _ (HR.out.later (by go_grown)) hm).mono ?_; rintro e w1 ⟨rfl, hb1⟩
      rw [HOK.out]
      obtain ⟨hc1, hf1⟩ := bcell hb1
      have hz1_0 : w.heap.size < w1.heap.size := by have hq := hb1.size; (try simp at hq); omega
      have HK1 := Lib.hid hb1
      have HB1 := Lib.hid (bstep (B := w.heap.size) (W := w) (by (try have hp := HB0.out); go_grown) (by go_size) hb1); clear hb1
      go_wp2_with fail
      refine (l1In_any _ _ _ _).mono ?_; rintro e2 w2 ⟨rfl, rfl⟩; rw [HIN.out]
      go_wp2_with fail
      go_ret
      exact ⟨rfl, HB1.out⟩
    · have HIN := Lib.hid hin
      rw [HCI.out hin]
      obtain ⟨t0, t1⟩ := inB_t hin
      have t9 : t ≤ 1048576 := by omega
      clear hok hno hpe hn e1 hpl hpw hK hin hf9 hFF hfb hFK t1
      go_enter Tryd.func22, Tryd.ntmps22
      have hw1 := HW1.out
      have hw2 := HW2.out
      have hw3 := HW3.out
      have hw4 := HW4.out
      go_wp2_with fail
      refine (l1EndsOk_any _ _ _ _ _ _ (HR.out.later (by go_grown)) hm).mono ?_; rintro e w1 ⟨rfl, hb1⟩
      rw [HOK.out]
      obtain ⟨hc1, hf1⟩ := bcell hb1
      have hz1_0 : w.heap.size < w1.heap.size := by have hq := hb1.size; (try simp at hq); omega
      have HK1 := Lib.hid hb1
      have HB1 := Lib.hid (bstep (B := w.heap.size) (W := w) (by (try have hp := HB0.out); go_grown) (by go_size) hb1); clear hb1
      have k10 : w1.cell? ⟨w.heap.size, 0, none⟩ = some (.int .i64 n) := by go_simp
      have k11 : w1.cell? ⟨w.heap.size, 1, none⟩ = some (.slice A ws.length cap) := by go_simp
      clear hc1 hf1
      go_wp2_with fail
      refine (l1In_any _ _ _ _).mono ?_; rintro e2 w2 ⟨rfl, rfl⟩; rw [HIN.out]
      clear hw1 hw2 hw3 hw4
      go_wp2_with fail
      go_loopw [7, 8] (fun c i wr => ∃ k : Nat, k ≤ K ∧ i = .int .i64 k ∧ c = .int .i64 (lcTo ws (fun s => subS t s) e k) ∧ wr.cell? ⟨w.heap.size, 0, none⟩ = some (.int .i64 n) ∧ wr.cell? ⟨w.heap.size, 1, none⟩ = some (.slice A ws.length cap) ∧ Below w.heap.size w wr ∧ w.heap.size < wr.heap.size) (fun _ i _ => K - (intOf i).toNat)
      case atStart => exact ⟨0, Nat.zero_le _, rfl, rfl, k10, k11, HB1.out, hz1_0⟩
      case round =>
        clear k10 k11 HB1 HK1 hz1_0
        obtain ⟨k, hk, rfl, rfl, b0, b1, hb, hz⟩ := hrel
        have HB0 := Lib.hid hb
        have hk0 : (0 : Int) ≤ (k : Int) := by omega
        have hbd := lcTo_bd HN.out (fun s => subS t s) e k
        have HYES := Lib.hid (fun hp hj => lcTo_yes (ws := ws) (P := (fun s => subS t s)) (e := e) (k := k) hp hj)
        have HNOT := Lib.hid (fun h => lcTo_no (ws := ws) (P := (fun s => subS t s)) (e := e) (k := k) h)
        have HPK : Hid ((fun s => subS t s) (k : Int) = (idiff t (k : Int) == 0)) := rfl
        obtain ⟨L, hL⟩ : ∃ L, lcTo ws (fun s => subS t s) e k = L := ⟨_, rfl⟩
        rw [hL] at hbd HYES HNOT ⊢
        have HLE := Lib.hid hL
        clear hb hL
        by_cases hlt : k < K
        · have hk1 : (k : Int) < (K : Int) := by omega
          have HCW : Hid (bits .andNot .i64 t (k : Int) = idiff t (k : Int)) := bits_andNot _ _ (by omega) (by omega) (by omega) (by omega)
          cases hp : (fun s => subS t s) (k : Int)
          · have HY : Hid (lcTo ws (fun s => subS t s) e (k + 1) = L) := HNOT.out (.inl hp)
            have hcw : (bits .andNot .i64 t (k : Int) == 0) = false := by rw [HCW.out, ← HPK.out]; exact hp
            clear hp hbd
            have hw1 := HW1.out
            have hw2 := HW2.out
            go_wp2_with fail
            clear hcw hw1 hw2
            go_roundw
            case rel => exact ⟨k + 1, by omega, by go_num, by rw [HY.out], b0, b1, HB0.out, hz⟩
            case measure => (simp [intOf]) <;> omega
          · have hcw : (bits .andNot .i64 t (k : Int) == 0) = true := by rw [HCW.out, ← HPK.out]; exact hp
            cases hj : joins ws (k : Int) e
            · have HJ := Lib.hid hj
              have HY : Hid (lcTo ws (fun s => subS t s) e (k + 1) = L) := HNOT.out (.inr hj)
              clear hp hbd hj
              have hw1 := HW1.out
              have hw2 := HW2.out
              go_wp2_with fail
              refine (l1Joins_any n k e A cap ws _ (HR.out.later (by have := HB0.out; go_grown)) HN.out hk0 (by clear hw1 hw2; omega) e0 HE1.out).mono ?_; rintro e1 w1 ⟨rfl, hb1⟩; rw [HJ.out]
              have k1 := keep2 hb1 ⟨b0, b1⟩ hz
              have z1 := Nat.lt_of_lt_of_le hz hb1.size
              have HB1 := Lib.hid (bstep (B := w.heap.size) (W := w) HB0.out (Nat.le_of_lt hz) hb1)
              clear hb1 hcw hw1 hw2
              go_wp2_with fail
              go_roundw
              case rel => exact ⟨k + 1, by omega, by go_num, by rw [HY.out], k1.1, k1.2, HB1.out, z1⟩
              case measure => (simp [intOf]) <;> omega
            · have HJ := Lib.hid hj
              have HY : Hid (lcTo ws (fun s => subS t s) e (k + 1) = lowC L (cost ws k)) := HYES.out hp hj
              have hcb := cost_bds HN.out (k : Int)
              have hcb0 := hcb.1
              clear hp hbd hj hcb
              have hw1 := HW1.out
              have hw2 := HW2.out
              go_wp2_with fail
              refine (l1Joins_any n k e A cap ws _ (HR.out.later (by have := HB0.out; go_grown)) HN.out hk0 (by clear hw1 hw2; omega) e0 HE1.out).mono ?_; rintro e1 w1 ⟨rfl, hb1⟩; rw [HJ.out]
              have k1 := keep2 hb1 ⟨b0, b1⟩ hz
              have z1 := Nat.lt_of_lt_of_le hz hb1.size
              have HB1 := Lib.hid (bstep (B := w.heap.size) (W := w) HB0.out (Nat.le_of_lt hz) hb1)
              clear hb1 hcw hw1 hw2
              obtain ⟨k10, k11⟩ := k1
              go_wp2_with fail
              refine (l1Cost_any n k A cap ws _ (HR.out.later (by have := HB1.out; go_grown)) HN.out hk0 (by omega)).mono ?_; rintro e2 w2 ⟨rfl, hb2⟩
              have k2 := keep2 hb2 ⟨k10, k11⟩ z1
              have z2 := Nat.lt_of_lt_of_le z1 hb2.size
              have HB2 := Lib.hid (bstep (B := w.heap.size) (W := w) HB1.out (Nat.le_of_lt z1) hb2)
              clear hb2
              obtain ⟨k20, k21⟩ := k2
              go_wp2_with fail
              refine (l3Lw_any L (cost ws k) hcb0 _).mono ?_; rintro e3 w3 ⟨rfl, hb3⟩
              have k3 := keep2 hb3 ⟨k20, k21⟩ z2
              have z3 := Nat.lt_of_lt_of_le z2 hb3.size
              have HB3 := Lib.hid (bstep (B := w.heap.size) (W := w) HB2.out (Nat.le_of_lt z2) hb3)
              clear hb3
              go_wp2_with fail
              go_roundw
              case rel => exact ⟨k + 1, by omega, by go_num, by rw [HY.out], k3.1, k3.2, HB3.out, z3⟩
              case measure => (simp [intOf]) <;> omega
        · obtain rfl : k = K := by omega
          have hw1 := HW1.out
          have hw2 := HW2.out
          clear hbd
          go_wp2_with fail
          go_ret
          exact ⟨ret_int (by rw [HLC.out, HLE.out]), HB0.out⟩
theorem mustTo_yes {n : Int} {ws : List Wy} {e : Int} {k : Nat} (h : costWithout n ws e (2 ^ k) = rootCost n ws e) : mustTo n ws e (k + 1) = mustTo n ws e k := by rw [mustTo, if_pos h]
theorem mustTo_no {n : Int} {ws : List Wy} {e : Int} {k : Nat} (h : ¬ costWithout n ws e (2 ^ k) = rootCost n ws e) : mustTo n ws e (k + 1) = ior (mustTo n ws e k) (2 ^ k) := by rw [mustTo, if_neg h]
theorem mustTo_bd (n : Int) (ws : List Wy) (e : Int) : ∀ k : Nat, 0 ≤ mustTo n ws e k ∧ mustTo n ws e k < 2 ^ k
  | 0 => by simp [mustTo]
  | k + 1 => by
    have ih := mustTo_bd n ws e k
    have hp : ((2 : Int) ^ (k + 1)) = 2 ^ k + 2 ^ k := by rw [Int.pow_succ]; omega
    by_cases h : costWithout n ws e (2 ^ k) = rootCost n ws e
    · rw [mustTo_yes h]; omega
    · rw [mustTo_no h]
      have := ior_bd (mustTo n ws e k) (2 ^ k) (k + 1) (by omega) (by have := Int.pow_pos (n := 2) (m := k) (by decide); omega)
      exact this
set_option maxHeartbeats 4000000 in
theorem sMustWays_any (n e : Int) (A : Option Addr) (cap : Nat) (ws : List Wy) (w : World) (hr : RW w w.heap.size A ws) (hm : ws.length ≤ 1073741824) :
    Calls Tryd.prog 26 #[.agg #[.int .i64 n, .slice A ws.length cap], .int .i64 e] w fun en w' => en = .returned (.int .i64 (mustWays n ws e)) ∧ Below w.heap.size w w' := by
  have HR := Lib.hid hr
  clear hr
  unfold mustWays
  obtain ⟨R, hR⟩ : ∃ R, rootCost n ws e = R := ⟨_, rfl⟩
  have HRC := Lib.hid hR
  have HST : Hid (∀ k : Nat, (costWithout n ws e (2 ^ k) = R → mustTo n ws e (k + 1) = mustTo n ws e k) ∧ (¬ costWithout n ws e (2 ^ k) = R → mustTo n ws e (k + 1) = ior (mustTo n ws e k) (2 ^ k))) := fun k => by
    rw [← hR]; exact ⟨mustTo_yes, mustTo_no⟩
  rw [hR]
  by_cases h0 : R < 0
  · rw [if_pos h0]
    clear hR
    go_enter Tryd.func26, Tryd.ntmps26
    go_wp2_with fail
    refine (sRootCost_any _ _ _ _ _ _ (HR.out.later (by go_grown)) hm).mono ?_; rintro e w1 ⟨rfl, hb1⟩
    rw [HRC.out]
    obtain ⟨hc1, hf1⟩ := bcell hb1
    have hz1_0 : w.heap.size < w1.heap.size := by have hq := hb1.size; (try simp at hq); omega
    have HK1 := Lib.hid hb1
    have HB1 := Lib.hid (bstep (B := w.heap.size) (W := w) (by (try have hp := HB0.out); go_grown) (by go_size) hb1); clear hb1
    go_wp2_with fail
    go_ret
    exact ⟨rfl, HB1.out⟩
  · rw [if_neg h0]
    have hl9 : ws.length ≤ 9 := (netOk_t (rootCost_told (n := n) (ws := ws) (e := e) (by rw [hR]; exact h0)).1).len
    clear hR
    go_enter Tryd.func26, Tryd.ntmps26
    go_wp2_with fail
    refine (sRootCost_any _ _ _ _ _ _ (HR.out.later (by go_grown)) hm).mono ?_; rintro e w1 ⟨rfl, hb1⟩
    rw [HRC.out]
    obtain ⟨hc1, hf1⟩ := bcell hb1
    have hz1_0 : w.heap.size < w1.heap.size := by have hq := hb1.size; (try simp at hq); omega
    have HK1 := Lib.hid hb1
    have HB1 := Lib.hid (bstep (B := w.heap.size) (W := w) (by (try have hp := HB0.out); go_grown) (by go_size) hb1); clear hb1
    have k10 : w1.cell? ⟨w.heap.size, 0, none⟩ = some (.int .i64 n) := by go_simp
    have k11 : w1.cell? ⟨w.heap.size, 1, none⟩ = some (.slice A ws.length cap) := by go_simp
    clear hc1 hf1
    go_wp2_with fail
    go_loopw [6, 7] (fun c i wr => ∃ k : Nat, k ≤ ws.length ∧ i = .int .i64 k ∧ c = .int .i64 (mustTo n ws e k) ∧ wr.cell? ⟨w.heap.size, 0, none⟩ = some (.int .i64 n) ∧ wr.cell? ⟨w.heap.size, 1, none⟩ = some (.slice A ws.length cap) ∧ Below w.heap.size w wr ∧ w.heap.size < wr.heap.size) (fun _ i _ => ws.length - (intOf i).toNat)
    case atStart => exact ⟨0, Nat.zero_le _, rfl, rfl, k10, k11, HB1.out, hz1_0⟩
    case round =>
      clear k10 k11 HB1 HK1 hz1_0
      obtain ⟨k, hk, rfl, rfl, b0, b1, hb, hz⟩ := hrel
      have HB0 := Lib.hid hb
      have hk0 : (0 : Int) ≤ (k : Int) := by omega
      have hst := HST.out k
      have hmb := mustTo_bd n ws e k
      have hpk := pow_bd (k : Int) 9 (by omega)
      rw [Int.toNat_natCast] at hpk
      obtain ⟨X, hX⟩ : ∃ X, mustTo n ws e k = X := ⟨_, rfl⟩
      have HXE := Lib.hid hX
      rw [hX] at hst hmb ⊢
      clear hb hX
      by_cases hlt : k < ws.length
      · have hk1 : (k : Int) < (ws.length : Int) := by omega
        have HP1 : Hid (IntKind.i64.wrap (2 ^ k) = 2 ^ k) := IntWalk.i64_in _ ⟨by omega, by omega⟩
        have HP2 : Hid (wrap64 (2 ^ k) = 2 ^ k) := IntWalk.wrap64_in _ ⟨by omega, by omega⟩
        have HOR : Hid (bits .or .i64 X (2 ^ k) = ior X (2 ^ k)) := bits_or _ _ hmb.1 (by omega) (by omega) (by omega)
        obtain ⟨V, hV⟩ : ∃ V, costWithout n ws e (2 ^ k) = V := ⟨_, rfl⟩
        have HV := Lib.hid hV
        rw [hV] at hst
        by_cases hVR : V = R
        · have HY : Hid (mustTo n ws e (k + 1) = X) := hst.1 hVR
          have hne : (V != R) = false := by rw [hVR]; simp
          clear hst hmb hpk hV hVR
          have hp1 := HP1.out
          have hp2 := HP2.out
          go_wp2_with fail
          refine wp_region_held_drew (S := (fun w' => w'.cell? ⟨w.heap.size, 0, none⟩ = some (.int .i64 n) ∧ w'.cell? ⟨w.heap.size, 1, none⟩ = some (.slice A ws.length cap))) (by kernel_rfl) ?_ (fun hHeld => ?_)
          · exact ⟨b0, b1⟩
          refine wpAnyH_take (i := 0) (v := ?_) rfl (by kernel_rfl) (by kernel_rfl) (by kernel_rfl) (fun _ _ _ h => h) (Or.inl ⟨by rfl, ?_⟩) (by assumption) ?_
          rotate_left
          · (intro w hSw; (try dsimp only at hSw); (try simp only [List.getElem_toArray, List.getElem_cons_succ, List.getElem_cons_zero]); first | (go_simp; done) | (go_simp; with_reducible rfl))
          try simp only [Act.put, List.getElem_toArray, List.getElem_cons_succ, List.getElem_cons_zero, List.setIfInBounds_toArray, List.set_cons_zero, List.set_cons_succ]
          refine wpAnyH_take (i := 1) (v := ?_) rfl (by kernel_rfl) (by kernel_rfl) (by kernel_rfl) (fun _ _ _ h => h) (Or.inl ⟨by rfl, ?_⟩) (by assumption) ?_
          rotate_left
          · (intro w hSw; (try dsimp only at hSw); (try simp only [List.getElem_toArray, List.getElem_cons_succ, List.getElem_cons_zero]); first | (go_simp; done) | (go_simp; with_reducible rfl))
          try simp only [Act.put, List.getElem_toArray, List.getElem_cons_succ, List.getElem_cons_zero, List.setIfInBounds_toArray, List.set_cons_zero, List.set_cons_succ]
          refine wpAnyH_take (i := 2) (v := ?_) rfl (by kernel_rfl) (by kernel_rfl) (by kernel_rfl) (fun _ _ _ h => h) (Or.inl ⟨by rfl, ?_⟩) (by assumption) ?_
          rotate_left
          · (intro w hSw; (try dsimp only at hSw); (try simp only [List.getElem_toArray, List.getElem_cons_succ, List.getElem_cons_zero]); first | (go_simp; done) | (go_simp; with_reducible rfl))
          try simp only [Act.put, List.getElem_toArray, List.getElem_cons_succ, List.getElem_cons_zero, List.setIfInBounds_toArray, List.set_cons_zero, List.set_cons_succ]
          refine wpAnyH_take (i := 3) (v := ?_) rfl (by kernel_rfl) (by kernel_rfl) (by kernel_rfl) (fun _ _ _ h => h) (Or.inl ⟨by rfl, ?_⟩) (by assumption) ?_
          rotate_left
          · (intro w hSw; (try dsimp only at hSw); (try simp only [List.getElem_toArray, List.getElem_cons_succ, List.getElem_cons_zero]); first | (go_simp; done) | (go_simp; with_reducible rfl))
          try simp only [Act.put, List.getElem_toArray, List.getElem_cons_succ, List.getElem_cons_zero, List.setIfInBounds_toArray, List.set_cons_zero, List.set_cons_succ]
          refine wpAnyH_take (i := 5) (v := ?_) rfl (by kernel_rfl) (by kernel_rfl) (by kernel_rfl) (fun _ _ _ h => h) (Or.inl ⟨by rfl, ?_⟩) (by assumption) ?_
          rotate_left
          · (intro w hSw; (try dsimp only at hSw); (try simp only [List.getElem_toArray, List.getElem_cons_succ, List.getElem_cons_zero]); first | (go_simp; done) | (go_simp; with_reducible rfl))
          try simp only [Act.put, List.getElem_toArray, List.getElem_cons_succ, List.getElem_cons_zero, List.setIfInBounds_toArray, List.set_cons_zero, List.set_cons_succ]
          refine wpAnyH_ready (rs := [4]) (by kernel_rfl) (by simp) ?_
          refine AllReadyH.cons rfl (fun K hK => ?_) AllReadyH.nil
          try simp only [List.getElem_toArray, List.getElem_cons_succ, List.getElem_cons_zero]
          go_simp
          go_at_call 15; refine (sCostWithout_any _ _ _ _ _ _ _ (HR.out.later (by have := HB0.out; go_grown)) hm).mono ?_; rintro e2 w2 ⟨rfl, hb2⟩; rw [HV.out]; have gg2 := und hb2; have k2 := keep2 gg2 ⟨b0, b1⟩ hz; have z2 := Nat.lt_of_lt_of_le hz gg2.size; have HB2 := Lib.hid (bstep (B := w.heap.size) (W := w) HB0.out (Nat.le_of_lt hz) gg2); clear hb2
          refine hK.out _ _ ?_ (fun hHeld => ?_)
          · exact k2
          clear hK K
          try simp only [Act.put, List.getElem_toArray, List.getElem_cons_succ, List.getElem_cons_zero, List.setIfInBounds_toArray, List.set_cons_zero, List.set_cons_succ]
          refine wpAnyH_take (i := 6) (v := ?_) rfl (by kernel_rfl) (by kernel_rfl) (by kernel_rfl) (fun _ _ _ h => h) (Or.inl ⟨by rfl, ?_⟩) (by assumption) ?_
          rotate_left
          · (intro w hSw; (try dsimp only at hSw); (try simp only [List.getElem_toArray, List.getElem_cons_succ, List.getElem_cons_zero]); first | (go_simp; done) | (go_simp; with_reducible rfl))
          try simp only [Act.put, List.getElem_toArray, List.getElem_cons_succ, List.getElem_cons_zero, List.setIfInBounds_toArray, List.set_cons_zero, List.set_cons_succ]
          refine wpAnyH_done (by kernel_rfl) ?_ _
          clear hp1 hp2
          go_wp2_with fail
          clear hne
          go_roundw
          case rel => exact ⟨k + 1, by omega, by go_num, by rw [HY.out], k2.1, k2.2, HB2.out, z2⟩
          case measure => (simp [intOf]) <;> omega
        · have HY : Hid (mustTo n ws e (k + 1) = ior X (2 ^ k)) := hst.2 hVR
          have hne : (V != R) = true := by simp [hVR]
          clear hst hmb hpk hV hVR
          have hp1 := HP1.out
          have hp2 := HP2.out
          go_wp2_with fail
          refine wp_region_held_drew (S := (fun w' => w'.cell? ⟨w.heap.size, 0, none⟩ = some (.int .i64 n) ∧ w'.cell? ⟨w.heap.size, 1, none⟩ = some (.slice A ws.length cap))) (by kernel_rfl) ?_ (fun hHeld => ?_)
          · exact ⟨b0, b1⟩
          refine wpAnyH_take (i := 0) (v := ?_) rfl (by kernel_rfl) (by kernel_rfl) (by kernel_rfl) (fun _ _ _ h => h) (Or.inl ⟨by rfl, ?_⟩) (by assumption) ?_
          rotate_left
          · (intro w hSw; (try dsimp only at hSw); (try simp only [List.getElem_toArray, List.getElem_cons_succ, List.getElem_cons_zero]); first | (go_simp; done) | (go_simp; with_reducible rfl))
          try simp only [Act.put, List.getElem_toArray, List.getElem_cons_succ, List.getElem_cons_zero, List.setIfInBounds_toArray, List.set_cons_zero, List.set_cons_succ]
          refine wpAnyH_take (i := 1) (v := ?_) rfl (by kernel_rfl) (by kernel_rfl) (by kernel_rfl) (fun _ _ _ h => h) (Or.inl ⟨by rfl, ?_⟩) (by assumption) ?_
          rotate_left
          · (intro w hSw; (try dsimp only at hSw); (try simp only [List.getElem_toArray, List.getElem_cons_succ, List.getElem_cons_zero]); first | (go_simp; done) | (go_simp; with_reducible rfl))
          try simp only [Act.put, List.getElem_toArray, List.getElem_cons_succ, List.getElem_cons_zero, List.setIfInBounds_toArray, List.set_cons_zero, List.set_cons_succ]
          refine wpAnyH_take (i := 2) (v := ?_) rfl (by kernel_rfl) (by kernel_rfl) (by kernel_rfl) (fun _ _ _ h => h) (Or.inl ⟨by rfl, ?_⟩) (by assumption) ?_
          rotate_left
          · (intro w hSw; (try dsimp only at hSw); (try simp only [List.getElem_toArray, List.getElem_cons_succ, List.getElem_cons_zero]); first | (go_simp; done) | (go_simp; with_reducible rfl))
          try simp only [Act.put, List.getElem_toArray, List.getElem_cons_succ, List.getElem_cons_zero, List.setIfInBounds_toArray, List.set_cons_zero, List.set_cons_succ]
          refine wpAnyH_take (i := 3) (v := ?_) rfl (by kernel_rfl) (by kernel_rfl) (by kernel_rfl) (fun _ _ _ h => h) (Or.inl ⟨by rfl, ?_⟩) (by assumption) ?_
          rotate_left
          · (intro w hSw; (try dsimp only at hSw); (try simp only [List.getElem_toArray, List.getElem_cons_succ, List.getElem_cons_zero]); first | (go_simp; done) | (go_simp; with_reducible rfl))
          try simp only [Act.put, List.getElem_toArray, List.getElem_cons_succ, List.getElem_cons_zero, List.setIfInBounds_toArray, List.set_cons_zero, List.set_cons_succ]
          refine wpAnyH_take (i := 5) (v := ?_) rfl (by kernel_rfl) (by kernel_rfl) (by kernel_rfl) (fun _ _ _ h => h) (Or.inl ⟨by rfl, ?_⟩) (by assumption) ?_
          rotate_left
          · (intro w hSw; (try dsimp only at hSw); (try simp only [List.getElem_toArray, List.getElem_cons_succ, List.getElem_cons_zero]); first | (go_simp; done) | (go_simp; with_reducible rfl))
          try simp only [Act.put, List.getElem_toArray, List.getElem_cons_succ, List.getElem_cons_zero, List.setIfInBounds_toArray, List.set_cons_zero, List.set_cons_succ]
          refine wpAnyH_ready (rs := [4]) (by kernel_rfl) (by simp) ?_
          refine AllReadyH.cons rfl (fun K hK => ?_) AllReadyH.nil
          try simp only [List.getElem_toArray, List.getElem_cons_succ, List.getElem_cons_zero]
          go_simp
          go_at_call 15; refine (sCostWithout_any _ _ _ _ _ _ _ (HR.out.later (by have := HB0.out; go_grown)) hm).mono ?_; rintro e2 w2 ⟨rfl, hb2⟩; rw [HV.out]; have gg2 := und hb2; have k2 := keep2 gg2 ⟨b0, b1⟩ hz; have z2 := Nat.lt_of_lt_of_le hz gg2.size; have HB2 := Lib.hid (bstep (B := w.heap.size) (W := w) HB0.out (Nat.le_of_lt hz) gg2); clear hb2
          refine hK.out _ _ ?_ (fun hHeld => ?_)
          · exact k2
          clear hK K
          try simp only [Act.put, List.getElem_toArray, List.getElem_cons_succ, List.getElem_cons_zero, List.setIfInBounds_toArray, List.set_cons_zero, List.set_cons_succ]
          refine wpAnyH_take (i := 6) (v := ?_) rfl (by kernel_rfl) (by kernel_rfl) (by kernel_rfl) (fun _ _ _ h => h) (Or.inl ⟨by rfl, ?_⟩) (by assumption) ?_
          rotate_left
          · (intro w hSw; (try dsimp only at hSw); (try simp only [List.getElem_toArray, List.getElem_cons_succ, List.getElem_cons_zero]); first | (go_simp; done) | (go_simp; with_reducible rfl))
          try simp only [Act.put, List.getElem_toArray, List.getElem_cons_succ, List.getElem_cons_zero, List.setIfInBounds_toArray, List.set_cons_zero, List.set_cons_succ]
          refine wpAnyH_done (by kernel_rfl) ?_ _
          go_wp2_with fail
          clear hne hp1 hp2
          go_roundw
          case rel => exact ⟨k + 1, by omega, by go_num, by rw [HY.out, HOR.out], k2.1, k2.2, HB2.out, z2⟩
          case measure => (simp [intOf]) <;> omega
      · obtain rfl : k = ws.length := by omega
        clear hst hmb hpk
        go_wp2_with fail
        go_ret
        exact ⟨ret_int HXE.out.symm, HB0.out⟩
theorem orAll_take {L : List Int} {k : Nat} {x : Int} (hx : L[k]? = some x) : orAll (L.take (k + 1)) = ior (orAll (L.take k)) x := foldF_take hx
theorem roots_bd {n : Int} {ws : List Wy} {e x : Int} (hx : x ∈ rootsOf n ws e) : 0 ≤ x ∧ x < 512 := by
  by_cases h : rootCost n ws e < 0
  · rw [rootsOf_no rfl h] at hx; cases hx
  · obtain ⟨a, b, _, _⟩ := rootCost_told h
    have hl := (netOk_t a).len
    have hr : 0 ≤ rc ws e := by rw [← rootCost_rc a b]; omega
    have h9 := (roots_mem a b hr).1 hx
    have hf := full_bd ws.length hl
    omega
theorem orAll_bd {n : Int} {ws : List Wy} {e : Int} (k : Nat) : 0 ≤ orAll ((rootsOf n ws e).take k) ∧ orAll ((rootsOf n ws e).take k) < 512 :=
  ⟨orF_nn _ _ (Int.le_refl 0), orF_lt 9 _ _ (by decide) fun r hr => (roots_bd (List.mem_of_mem_take hr)).2⟩
set_option maxHeartbeats 4000000 in
theorem sMayWays_any (n e : Int) (A : Option Addr) (cap : Nat) (ws : List Wy) (w : World) (hr : RW w w.heap.size A ws) (hm : ws.length ≤ 1073741824) :
    Calls Tryd.prog 30 #[.agg #[.int .i64 n, .slice A ws.length cap], .int .i64 e] w fun en w' => en = .returned (.int .i64 (mayWays n ws e)) ∧ Below w.heap.size w w' := by
  have HR := Lib.hid hr
  clear hr
  unfold mayWays
  obtain ⟨R, hR⟩ : ∃ R, rootCost n ws e = R := ⟨_, rfl⟩
  have HRC := Lib.hid hR
  rw [hR]
  clear hR
  by_cases h0 : R < 0
  · rw [if_pos h0]
    go_enter Tryd.func30, Tryd.ntmps30
    go_wp2_with fail
    refine (sRootCost_any _ _ _ _ _ _ (HR.out.later (by go_grown)) hm).mono ?_; rintro e w1 ⟨rfl, hb1⟩
    rw [HRC.out]
    obtain ⟨hc1, hf1⟩ := bcell hb1
    have hz1_0 : w.heap.size < w1.heap.size := by have hq := hb1.size; (try simp at hq); omega
    have HK1 := Lib.hid hb1
    have HB1 := Lib.hid (bstep (B := w.heap.size) (W := w) (by (try have hp := HB0.out); go_grown) (by go_size) hb1); clear hb1
    go_wp2_with fail
    go_ret
    exact ⟨rfl, HB1.out⟩
  · rw [if_neg h0]
    have hl5 := rootsOf_len (n := n) (ws := ws) (e := e)
    have HAB := Lib.hid (fun k => orAll_bd (n := n) (ws := ws) (e := e) k)
    have HRB := Lib.hid (fun x (hx : x ∈ rootsOf n ws e) => roots_bd hx)
    obtain ⟨L, hL⟩ : ∃ L, rootsOf n ws e = L := ⟨_, rfl⟩
    have HL := Lib.hid hL
    rw [hL] at hl5 HAB HRB ⊢
    obtain ⟨ln, hln⟩ : ∃ ln, L.length = ln := ⟨_, rfl⟩
    have HLN := Lib.hid hln
    rw [hln] at hl5
    clear hL hln
    go_enter Tryd.func30, Tryd.ntmps30
    go_wp2_with fail
    refine (sRootCost_any _ _ _ _ _ _ (HR.out.later (by go_grown)) hm).mono ?_; rintro e w1 ⟨rfl, hb1⟩
    rw [HRC.out]
    obtain ⟨hc1, hf1⟩ := bcell hb1
    have hz1_0 : w.heap.size < w1.heap.size := by have hq := hb1.size; (try simp at hq); omega
    have HK1 := Lib.hid hb1
    have HB1 := Lib.hid (bstep (B := w.heap.size) (W := w) (by (try have hp := HB0.out); go_grown) (by go_size) hb1); clear hb1
    go_wp2_with fail
    refine (sAllRoots_any _ _ _ _ _ _ (HR.out.later (by have := HB1.out; go_grown)) hm).mono ?_
    rw [HL.out]
    rintro en2 w2 ⟨A1, c1, rfl, hrow, hb2⟩
    rw [HLN.out] at hrow ⊢
    have HROW := Lib.hid hrow
    have HB2 := Lib.hid (bstep (B := w.heap.size) (W := w) (by have := HB1.out; go_grown) (by go_size) hb2)
    clear hb2 hrow hc1 hf1 HK1 hz1_0
    go_wp2_with fail
    go_loopw [5, 7] (fun c i wr => ∃ k : Nat, k ≤ ln ∧ i = .int .i64 k ∧ c = .int .i64 (orAll (L.take k)) ∧ wr = w2) (fun _ i _ => ln - (intOf i).toNat)
    case atStart => exact ⟨0, Nat.zero_le _, rfl, rfl, rfl⟩
    case round =>
      obtain ⟨k, hk, rfl, rfl, rfl⟩ := hrel
      have hk0 : (0 : Int) ≤ (k : Int) := by omega
      have hab := HAB.out k
      by_cases hlt : k < ln
      · have hk1 : (k : Int) < (ln : Int) := by omega
        obtain ⟨x, hx⟩ : ∃ x, L[k]? = some x := ⟨_, List.getElem?_eq_getElem (by rw [HLN.out]; exact hlt)⟩
        have hxb := HRB.out x (List.mem_of_getElem? hx)
        have HT := Lib.hid (orAll_take hx)
        obtain ⟨b, o, rfl, -, -, hc, -⟩ := HROW.out.at_ k hlt
        (try simp only at hc)
        have hgx : L.getD k 0 = x := by rw [List.getD_eq_getElem?_getD, hx]; rfl
        rw [hgx] at hc
        have HOR : Hid (bits .or .i64 (orAll (L.take k)) x = ior (orAll (L.take k)) x) := bits_or _ _ hab.1 (by omega) hxb.1 (by omega)
        obtain ⟨X, hX⟩ : ∃ X, orAll (L.take k) = X := ⟨_, rfl⟩
        rw [hX] at HT HOR ⊢
        clear hx hxb hgx hX hab
        go_wp2_with fail
        go_roundw
        case rel => exact ⟨k + 1, by omega, by go_num, by rw [HT.out, HOR.out], by first | rfl | trivial⟩
        case measure => (simp [intOf]) <;> omega
      · obtain rfl : k = ln := by omega
        have HTT : Hid (orAll (L.take k) = orAll L) := by show _ = _; rw [← HLN.out, List.take_length]
        rw [HTT.out]
        clear hab
        go_wp2_with fail
        go_ret
        exact ⟨rfl, HB2.out⟩
end Go.Proofs.YtcfendmhhhggeaaDoor
