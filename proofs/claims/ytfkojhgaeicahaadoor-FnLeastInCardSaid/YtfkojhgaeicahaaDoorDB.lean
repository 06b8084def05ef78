/- How many members sets have, and whether sets of ways are trees: of the program and of its model. -/
import Derived.Test.YtfkojhgaeicahaaDoorDA
import Derived.Test.YtfkojhgaeicahaaDoorWG
set_option linter.unusedSimpArgs false
set_option linter.unusedVariables false
namespace Go.Proofs.YtfkojhgaeicahaaDoor
open Go.ChangeShapes Go.WideShapes Go.ChangeAt Go.RowKit

set_option maxHeartbeats 1000000 in
theorem OC64_any (x : Int) (h0 : 0 ≤ x) (h1 : x < 512) (w : World) :
    Calls Tryd.prog 109 #[.int .u64 x] w fun e w' => e = .returned (.int .i64 (pop x)) ∧ w = w' := by
  go_enter Tryd.func109, Tryd.ntmps109
  go_wp2
  go_ret
  refine ⟨ret_int ?_, rfl⟩
  obtain ⟨n, rfl⟩ := Int.eq_ofNat_of_zero_le h0
  obtain ⟨k, rfl⟩ : ∃ k : Fin 512, n = k.val := ⟨⟨n, by omega⟩, rfl⟩
  clear h0 h1
  revert k
  decide +kernel
theorem OC_any (x : Int) (h0 : 0 ≤ x) (h1 : x < 512) (w : World) :
    Calls Tryd.prog 97 #[.int .u64 x] w fun e w' => e = .returned (.int .i64 (pop x)) ∧ w = w' := by
  have hw : IntKind.u64.wrap x = x := by rw [IntKind.wrap_u64]; omega
  go_enter Tryd.func97, Tryd.ntmps97
  go_wp2_with fail
  refine (OC64_any x h0 h1 _).mono ?_; rintro e w' ⟨rfl, rfl⟩
  go_wp2_with fail
  go_ret
  exact ⟨rfl, rfl⟩
theorem sizeOf_any (x : Int) (h0 : 0 ≤ x) (h1 : x < 512) (w : World) :
    Calls Tryd.prog 72 #[.int .i64 x] w fun e w' => e = .returned (.int .i64 (pop x)) ∧ w = w' := by
  go_enter Tryd.func72, Tryd.ntmps72
  go_wp2_with fail
  refine (OC_any x h0 h1 _).mono ?_; rintro e w' ⟨rfl, rfl⟩
  go_wp2_with fail
  go_ret
  exact ⟨rfl, rfl⟩
set_option maxHeartbeats 400000 in
theorem l1Size_any (x : Int) (h0 : 0 ≤ x) (h1 : x < 512) (w : World) :
    Calls Tryd.prog 104 #[.int .i64 x] w fun e w' => e = .returned (.int .i64 (pop x)) ∧ w = w' := by
  have hpx := pop_bd x
  go_enter Tryd.func104, Tryd.ntmps104
  go_wp2_with fail
  go_loop [0, 3] (fun v c => ∃ y d : Int, v = .int .i64 y ∧ c = .int .i64 d ∧ 0 ≤ y ∧ y < 512 ∧ 0 ≤ d ∧ d ≤ 20 ∧ d + pop y = pop x) (fun v _ => (intOf v).toNat)
  case atStart => exact ⟨x, 0, rfl, rfl, h0, h1, by omega, by omega, by omega⟩
  case round =>
    obtain ⟨y, d, rfl, rfl, hy0, hy1, hd0, hd1, hsum⟩ := hrel
    have HS := Lib.hid hsum
    have HP := Lib.hid (pop_half y hy0 (by omega))
    have hb := pop_bd (y / 2)
    have hbx : d + pop y ≤ 20 := by omega
    have HB := Lib.hid hb
    by_cases hlt : 0 < y
    · have hle : d + y % 2 ≤ 20 := by have := HP.out; omega
      clear hsum hb hbx
      go_wp2_with fail
      go_round
      case rel => exact ⟨y / 2, d + y % 2, rfl, rfl, by omega, by omega, by omega, by omega, by have := HS.out; have := HP.out; omega⟩
      case measure => simp [intOf]; omega
    · have hy : y = 0 := by omega
      subst hy
      clear hsum hb hbx
      go_wp2_with fail
      go_ret
      exact ⟨ret_int (by have := HS.out; rw [pop_zero] at this; omega), rfl⟩

theorem ior_lt {a b : Int} {k : Nat} (ha : a < 2 ^ k) (hb : b < 2 ^ k) : ior a b < 2 ^ k := (ior_bd a b k ha hb).2
theorem shl_lt {a n : Int} (h0 : 0 ≤ a) (h1 : a < n) : (2 : Int) ^ a.toNat < 2 ^ n.toNat := by
  have h : 2 ^ a.toNat < 2 ^ n.toNat := Nat.pow_lt_pow_right (by omega) (by omega)
  have e1 : ((2 : Int) ^ a.toNat) = ((2 ^ a.toNat : Nat) : Int) := by simp
  have e2 : ((2 : Int) ^ n.toNat) = ((2 ^ n.toNat : Nat) : Int) := by simp
  omega
theorem wayPl_lt {n : Int} {ws : List Wy} (hn : NetIs n ws) {x : Wy} {k : Nat} (hx : ws[k]? = some x) : wayPl x < 2 ^ n.toNat := by
  obtain ⟨a0, a1, b0, b1, _⟩ := hn.at_ hx
  exact ior_lt (shl_lt a0 a1) (shl_lt b0 b1)
theorem nodesTo_lt {n : Int} {ws : List Wy} (hn : NetIs n ws) (s : Int) : ∀ k, nodesTo ws s k < 2 ^ n.toNat
  | 0 => by have := pow_bd n n.toNat (Nat.le_refl _); simp only [nodesTo]; omega
  | k + 1 => by
    have ih := nodesTo_lt hn s k
    cases hx : ws[k]? with
    | none => simp only [nodesTo, hx]; exact ih
    | some x =>
      cases hb : bit s k
      · rw [nodesTo_no hx hb]; exact ih
      · rw [nodesTo_yes hx hb]; exact ior_lt ih (wayPl_lt hn hx)
def nds (ws : List Wy) (s : Int) : Int := nodesTo ws s ws.length
theorem nds_bd {n : Int} {ws : List Wy} (hn : NetIs n ws) (s : Int) : 0 ≤ nds ws s ∧ nds ws s < 64 ∧ nds ws s < 2 ^ n.toNat :=
  ⟨(nodesTo_bd hn s _).1, (nodesTo_bd hn s _).2, nodesTo_lt hn s _⟩
noncomputable def tree (ws : List Wy) (s : Int) : Bool := s == 0 || (pop s == pop (nds ws s) - 1 && joins ws s (nds ws s))
noncomputable def treeOk (n : Int) (ws : List Wy) (s : Int) : Bool := setOk n ws s && tree ws s

set_option maxHeartbeats 1000000 in
theorem TreeOk_any (n s : Int) (A : Option Addr) (cap : Nat) (ws : List Wy) (w : World) (hr : RW w w.heap.size A ws) (hT : Tab w) :
    Calls Tryd.prog 34 #[.agg #[.int .i64 n, .slice A ws.length cap], .int .i64 s] w fun en w' => en = .returned (.bool (treeOk n ws s)) ∧ Below w.heap.size w w' := by
  have HR := Lib.hid hr
  have HT := Lib.hid hT
  clear hr hT
  unfold treeOk
  cases hn : setOk n ws s
  · have HN := Lib.hid hn
    rw [Bool.false_and]
    clear hn
    go_enter Tryd.func34, Tryd.ntmps34
    go_wp2_with fail
    refine (waysOk_any _ _ _ _ _ _ (HR.out.later (by go_grown))).mono ?_; rintro e w1 ⟨rfl, hb1⟩
    rw [HN.out]
    obtain ⟨hc1, hf1⟩ := bcell hb1
    have hz1_0 : w.heap.size < w1.heap.size := by have hq := hb1.size; (try simp at hq); omega
    have HK1 := Lib.hid hb1
    have HB1 := Lib.hid (bstep (B := w.heap.size) (W := w) (by (try have hp := HB0.out); go_grown) (by go_size) hb1); clear hb1
    go_wp2_with fail
    go_ret
    exact ⟨rfl, HB1.out⟩
  · have HN := Lib.hid hn
    obtain ⟨hnet, hs0, hs1, hs2⟩ := setOk_t hn
    have HS := Lib.hid hnet
    obtain ⟨d0, d1, d2⟩ := nds_bd hnet s
    have HD := Lib.hid d2
    have HNO : Hid (nodesOf n ws s = nds ws s) := by show nodesOf n ws s = _; unfold nodesOf; rw [if_pos hn]; rfl
    have hps := pop_bd s
    have hpd := pop_bd (nds ws s)
    rw [Bool.true_and]
    unfold tree
    clear hn hnet d2
    by_cases hz : s = 0
    · subst hz
      go_enter Tryd.func34, Tryd.ntmps34
      go_wp2_with fail
      refine (waysOk_any _ _ _ _ _ _ (HR.out.later (by go_grown))).mono ?_; rintro e w1 ⟨rfl, hb1⟩
      rw [HN.out]
      obtain ⟨hc1, hf1⟩ := bcell hb1
      have hz1_0 : w.heap.size < w1.heap.size := by have hq := hb1.size; (try simp at hq); omega
      have HK1 := Lib.hid hb1
      have HB1 := Lib.hid (bstep (B := w.heap.size) (W := w) (by (try have hp := HB0.out); go_grown) (by go_size) hb1); clear hb1
      go_wp2_with fail
      refine (NodesOf_any _ _ _ _ _ _ (HR.out.later (by have := HB1.out; go_grown))).mono ?_; rintro e w2 ⟨rfl, hb2⟩
      rw [HNO.out]
      obtain ⟨hc2, hf2⟩ := bcell hb2
      have hz2_0 : w.heap.size < w2.heap.size := by have hq := hb2.size; (try simp at hq); omega
      have HK2 := Lib.hid hb2
      have HB2 := Lib.hid (bstep (B := w.heap.size) (W := w) (by have hp := HB1.out; go_grown) (by go_size) hb2); clear hb2
      go_wp2_with fail
      go_ret
      exact ⟨rfl, HB2.out⟩
    · have hz' : (s == 0) = false := by simp [hz]
      rw [hz', Bool.false_or]
      cases hq : pop s == pop (nds ws s) - 1
      · have hq' := hq
        rw [Bool.false_and]
        clear hz
        go_enter Tryd.func34, Tryd.ntmps34
        go_wp2_with fail
        refine (waysOk_any _ _ _ _ _ _ (HR.out.later (by go_grown))).mono ?_; rintro e w1 ⟨rfl, hb1⟩
        rw [HN.out]
        obtain ⟨hc1, hf1⟩ := bcell hb1
        have hz1_0 : w.heap.size < w1.heap.size := by have hq := hb1.size; (try simp at hq); omega
        have HK1 := Lib.hid hb1
        have HB1 := Lib.hid (bstep (B := w.heap.size) (W := w) (by (try have hp := HB0.out); go_grown) (by go_size) hb1); clear hb1
        go_wp2_with fail
        refine (NodesOf_any _ _ _ _ _ _ (HR.out.later (by have := HB1.out; go_grown))).mono ?_; rintro e w2 ⟨rfl, hb2⟩
        rw [HNO.out]
        obtain ⟨hc2, hf2⟩ := bcell hb2
        have hz2_0 : w.heap.size < w2.heap.size := by have hq := hb2.size; (try simp at hq); omega
        have HK2 := Lib.hid hb2
        have HB2 := Lib.hid (bstep (B := w.heap.size) (W := w) (by have hp := HB1.out; go_grown) (by go_size) hb2); clear hb2
        go_wp2_with fail
        refine (sizeOf_any s hs0 (by omega) _).mono ?_; rintro e w3 ⟨rfl, rfl⟩
        go_wp2_with fail
        refine (sizeOf_any (nds ws s) d0 (by omega) _).mono ?_; rintro e w3 ⟨rfl, rfl⟩
        go_wp2_with fail
        go_ret
        exact ⟨rfl, HB2.out⟩
      · have hq' := hq
        rw [Bool.true_and]
        clear hz
        go_enter Tryd.func34, Tryd.ntmps34
        go_wp2_with fail
        refine (waysOk_any _ _ _ _ _ _ (HR.out.later (by go_grown))).mono ?_; rintro e w1 ⟨rfl, hb1⟩
        rw [HN.out]
        obtain ⟨hc1, hf1⟩ := bcell hb1
        have hz1_0 : w.heap.size < w1.heap.size := by have hq := hb1.size; (try simp at hq); omega
        have HK1 := Lib.hid hb1
        have HB1 := Lib.hid (bstep (B := w.heap.size) (W := w) (by (try have hp := HB0.out); go_grown) (by go_size) hb1); clear hb1
        go_wp2_with fail
        refine (NodesOf_any _ _ _ _ _ _ (HR.out.later (by have := HB1.out; go_grown))).mono ?_; rintro e w2 ⟨rfl, hb2⟩
        rw [HNO.out]
        obtain ⟨hc2, hf2⟩ := bcell hb2
        have hz2_0 : w.heap.size < w2.heap.size := by have hq := hb2.size; (try simp at hq); omega
        have HK2 := Lib.hid hb2
        have HB2 := Lib.hid (bstep (B := w.heap.size) (W := w) (by have hp := HB1.out; go_grown) (by go_size) hb2); clear hb2
        go_wp2_with fail
        refine (sizeOf_any s hs0 (by omega) _).mono ?_; rintro e w3 ⟨rfl, rfl⟩
        go_wp2_with fail
        refine (sizeOf_any (nds ws s) d0 (by omega) _).mono ?_; rintro e w3 ⟨rfl, rfl⟩
        go_wp2_with fail
        refine (setJoins_any n s (nds ws s) A cap ws _ (HR.out.later (by have := HB2.out; go_grown)) HS.out hs0 (by omega) d0 HD.out (HT.out.later (by have := HB2.out; go_grown))).mono ?_; rintro e w3 ⟨rfl, hb3⟩
        obtain ⟨hc3, hf3⟩ := bcell hb3
        have hz3_0 : w.heap.size < w3.heap.size := by have hq := hb3.size; (try simp at hq); omega
        have HK3 := Lib.hid hb3
        have HB3 := Lib.hid (bstep (B := w.heap.size) (W := w) (by have hp := HB2.out; go_grown) (by go_size) hb3); clear hb3
        go_wp2_with fail
        go_ret
        exact ⟨rfl, HB3.out⟩


end Go.Proofs.YtfkojhgaeicahaaDoor
