/- The least place of a set, how many members it has, and whether ways join places: of the program and of its model. How many members sets have, and whether sets of ways are trees: of the program and of its model. The places with just one way of a set: of a tree with ways there are two. Plain mathematics. -/
import Derived.Test.YthadehgpeafniaaMD
import Derived.Test.YthadehgpeafniaaMA
import Derived.Test.YthadehgpeafniaaMC
set_option linter.unusedSimpArgs false
set_option linter.unusedVariables false
namespace Go.Proofs.Ythadehgpeafniaa
open Go.ChangeShapes Go.WideShapes Go.ChangeAt Go.RowKit

theorem u64_and_nat (a b : Nat) (ha : a < 18446744073709551616) (hb : b < 18446744073709551616) : bits .and .u64 (a : Int) (b : Int) = ((a &&& b : Nat) : Int) := by
  have hx : a &&& b < 2 ^ 64 := Nat.and_lt_two_pow _ (by omega)
  have h1 : (BitVec.ofInt 64 (a : Int)).toNat = a := by rw [BitVec.ofInt_natCast, BitVec.toNat_ofNat]; exact Nat.mod_eq_of_lt (by omega)
  have h2 : (BitVec.ofInt 64 (b : Int)).toNat = b := by rw [BitVec.ofInt_natCast, BitVec.toNat_ofNat]; exact Nat.mod_eq_of_lt (by omega)
  show IntKind.u64.wrap ((BitVec.ofInt 64 (a : Int) &&& BitVec.ofInt 64 (b : Int)).toNat : Int) = _
  rw [BitVec.toNat_and, h1, h2, IntKind.wrap_u64]
  omega
theorem tz_key (x a : Nat) (hx : x < 18446744073709551616) (hx0 : x ≠ 0) (hlow : x &&& (18446744073709551616 - x) = a) :
    IntKind.u64.wrap (bits BinOp.and IntKind.u64 (x : Int) (IntKind.u64.wrap (-(x : Int))) * 285870213051353865) / 288230376151711744 = ((a * 285870213051353865 % 18446744073709551616 / 288230376151711744 : Nat) : Int) := by
  have e1 : IntKind.u64.wrap (-(x : Int)) = ((18446744073709551616 - x : Nat) : Int) := by rw [IntKind.wrap_u64]; omega
  rw [e1, u64_and_nat x _ hx (by omega), hlow, IntKind.wrap_u64]
  omega
theorem hasPlaces_any (n p : Int) (v : Value) (h0 : 0 ≤ n) (h6 : n ≤ 6) (w : World) :
    Calls Try.prog 62 #[.agg #[.int .i64 n, v], .int .i64 p] w fun e w' => e = .returned (.bool (decide (0 ≤ p) && decide (p < 2 ^ n.toNat))) ∧ Below w.heap.size w w' := by
  have hp := pow_bd n 6 (by omega)
  go_enter Try.func62, Try.ntmps62
  go_wp2
  all_goals
    go_ret
    exact ⟨ret_bool (by first | (simp [*]; done) | (rw [Bool.eq_iff_iff]; simp only [Bool.and_eq_true, Bool.or_eq_true, Bool.not_eq_true', bne_iff_ne, beq_iff_eq, decide_eq_true_eq, decide_eq_false_iff_not, beq_eq_false_iff_ne, ne_eq, Bool.true_and, Bool.and_true, Bool.false_and, Bool.and_false, Bool.true_or, Bool.false_or, Bool.or_false, true_and, and_true, Bool.false_eq_true, false_iff, iff_false, true_iff, iff_true, iff_self]; done) | (rw [Bool.eq_iff_iff]; simp only [Bool.and_eq_true, Bool.or_eq_true, Bool.not_eq_true', bne_iff_ne, beq_iff_eq, decide_eq_true_eq, decide_eq_false_iff_not, beq_eq_false_iff_ne, ne_eq, Bool.true_and, Bool.and_true, Bool.false_and, Bool.and_false, Bool.true_or, Bool.false_or, Bool.or_false, true_and, and_true, Bool.false_eq_true, false_iff, iff_false, true_iff, iff_true]; omega)), by go_grown⟩


def plOk (n e : Int) : Bool := decide (0 ≤ e) && decide (e < 2 ^ n.toNat)
theorem plOk_t {n e : Int} (h : plOk n e = true) : 0 ≤ e ∧ e < 2 ^ n.toNat := by unfold plOk at h; simpa using h
noncomputable def joinsEnds (n : Int) (ws : List Wy) (s e : Int) : Bool := setOk n ws s && plOk n e && joins ws s e

theorem plOk_in (n e : Int) : plOk n e = inB e 0 (2 ^ n.toNat - 1) := by
  unfold plOk inB
  rw [Bool.eq_iff_iff]; simp; omega
set_option maxHeartbeats 400000 in
theorem l1EndsOk_any (n e : Int) (A : Option Addr) (cap : Nat) (ws : List Wy) (w : World) (hr : RW w w.heap.size A ws) (hm : ws.length ≤ 1073741824) :
    Calls Try.prog 45 #[.agg #[.int .i64 n, .slice A ws.length cap], .int .i64 e] w fun en w' => en = .returned (.bool (netOk n ws && plOk n e)) ∧ Below w.heap.size w w' := by
  have HR := Lib.hid hr
  clear hr
  cases hn : netOk n ws
  · have HN := Lib.hid hn
    rw [Bool.false_and]
    clear hn
    go_enter Try.func45, Try.ntmps45
    go_wp2_with fail
    refine (sNetOk_any _ _ _ _ _ (HR.out.later (by go_grown)) hm).mono ?_; rintro e w1 ⟨rfl, hb1⟩
    rw [HN.out]
    obtain ⟨hc1, hf1⟩ := bcell hb1
    have hz1_0 : w.heap.size < w1.heap.size := by have hq := hb1.size; (try simp at hq); omega
    have HK1 := Lib.hid hb1
    have HB1 := Lib.hid (bstep (B := w.heap.size) (W := w) (by (try have hp := HB0.out); go_grown) (by go_size) hb1); clear hb1
    go_wp2_with fail
    go_ret
    exact ⟨rfl, HB1.out⟩
  · have HN := Lib.hid hn
    have hn2 := (netOk_t hn).lo
    have hn6 := (netOk_t hn).hi
    have hp := pow_bd n 6 (by omega)
    have HP := Lib.hid (plOk_in n e)
    rw [Bool.true_and]
    clear hn
    go_enter Try.func45, Try.ntmps45
    go_wp2_with fail
    refine (sNetOk_any _ _ _ _ _ (HR.out.later (by go_grown)) hm).mono ?_; rintro e w1 ⟨rfl, hb1⟩
    rw [HN.out]
    obtain ⟨hc1, hf1⟩ := bcell hb1
    have hz1_0 : w.heap.size < w1.heap.size := by have hq := hb1.size; (try simp at hq); omega
    have HK1 := Lib.hid hb1
    have HB1 := Lib.hid (bstep (B := w.heap.size) (W := w) (by (try have hp := HB0.out); go_grown) (by go_size) hb1); clear hb1
    go_wp2_with fail
    refine (l1In_any _ _ _ _).mono ?_; rintro e w' ⟨rfl, rfl⟩
    go_wp2_with fail
    go_ret
    exact ⟨ret_bool HP.out.symm, HB1.out⟩
end Go.Proofs.Ythadehgpeafniaa
namespace Go.Proofs.Ythadehgpeafniaa
open Go.ChangeShapes Go.WideShapes Go.ChangeAt Go.RowKit

set_option maxHeartbeats 1000000 in
theorem OC64_any (x : Int) (h0 : 0 ≤ x) (h1 : x < 512) (w : World) :
    Calls Try.prog 70 #[.int .u64 x] w fun e w' => e = .returned (.int .i64 (pop x)) ∧ w = w' := by
  go_enter Try.func70, Try.ntmps70
  go_wp2
  go_ret
  refine ⟨ret_int ?_, rfl⟩
  obtain ⟨n, rfl⟩ := Int.eq_ofNat_of_zero_le h0
  obtain ⟨k, rfl⟩ : ∃ k : Fin 512, n = k.val := ⟨⟨n, by omega⟩, rfl⟩
  clear h0 h1
  revert k
  decide +kernel
theorem OC_any (x : Int) (h0 : 0 ≤ x) (h1 : x < 512) (w : World) :
    Calls Try.prog 65 #[.int .u64 x] w fun e w' => e = .returned (.int .i64 (pop x)) ∧ w = w' := by
  have hw : IntKind.u64.wrap x = x := by rw [IntKind.wrap_u64]; omega
  go_enter Try.func65, Try.ntmps65
  go_wp2_with fail
  refine (OC64_any x h0 h1 _).mono ?_; rintro e w' ⟨rfl, rfl⟩
  go_wp2_with fail
  go_ret
  exact ⟨rfl, rfl⟩
theorem sizeOf_any (x : Int) (h0 : 0 ≤ x) (h1 : x < 512) (w : World) :
    Calls Try.prog 52 #[.int .i64 x] w fun e w' => e = .returned (.int .i64 (pop x)) ∧ w = w' := by
  go_enter Try.func52, Try.ntmps52
  go_wp2_with fail
  refine (OC_any x h0 h1 _).mono ?_; rintro e w' ⟨rfl, rfl⟩
  go_wp2_with fail
  go_ret
  exact ⟨rfl, rfl⟩
set_option maxHeartbeats 400000 in
theorem l1Size_any (x : Int) (h0 : 0 ≤ x) (h1 : x < 512) (w : World) :
    Calls Try.prog 53 #[.int .i64 x] w fun e w' => e = .returned (.int .i64 (pop x)) ∧ w = w' := by
  have hpx := pop_bd x
  go_enter Try.func53, Try.ntmps53
  go_wp2_with fail
  go_loop [0, 3] (fun v c => ∃ y d : Int, v = .int .i64 y ∧ c = .int .i64 d ∧ 0 ≤ y ∧ y < 512 ∧ 0 ≤ d ∧ d ≤ 20 ∧ d + pop y = pop x) (fun v _ => (intOf v).toNat)
  case atStart => exact ⟨x, 0, rfl, rfl, h0, h1, by omega, by omega, by omega⟩
  case round =>
    obtain ⟨y, d, rfl, rfl, hy0, hy1, hd0, hd1, hsum⟩ := hrel
    have HS := Lib.hid hsum
    have HP := Lib.hid (pop_half y hy0 (by omega))
    have hb := pop_bd (y / 2)
    have hbx : d + pop y ≤ 20 := by omega
    have HB := Lib.hid hb
    by_cases hlt : 0 < y
    · have hle : d + y % 2 ≤ 20 := by have := HP.out; omega
      clear hsum hb hbx
      go_wp2_with fail
      go_round
      case rel => exact ⟨y / 2, d + y % 2, rfl, rfl, by omega, by omega, by omega, by omega, by have := HS.out; have := HP.out; omega⟩
      case measure => simp [intOf]; omega
    · have hy : y = 0 := by omega
      subst hy
      clear hsum hb hbx
      go_wp2_with fail
      go_ret
      exact ⟨ret_int (by have := HS.out; rw [pop_zero] at this; omega), rfl⟩

theorem ior_lt {a b : Int} {k : Nat} (ha : a < 2 ^ k) (hb : b < 2 ^ k) : ior a b < 2 ^ k := (ior_bd a b k ha hb).2
theorem shl_lt {a n : Int} (h0 : 0 ≤ a) (h1 : a < n) : (2 : Int) ^ a.toNat < 2 ^ n.toNat := by
  have h : 2 ^ a.toNat < 2 ^ n.toNat := Nat.pow_lt_pow_right (by omega) (by omega)
  have e1 : ((2 : Int) ^ a.toNat) = ((2 ^ a.toNat : Nat) : Int) := by simp
  have e2 : ((2 : Int) ^ n.toNat) = ((2 ^ n.toNat : Nat) : Int) := by simp
  omega
theorem wayPl_lt {n : Int} {ws : List Wy} (hn : NetIs n ws) {x : Wy} {k : Nat} (hx : ws[k]? = some x) : wayPl x < 2 ^ n.toNat := by
  obtain ⟨a0, a1, b0, b1, _⟩ := hn.at_ hx
  exact ior_lt (shl_lt a0 a1) (shl_lt b0 b1)
theorem nodesTo_lt {n : Int} {ws : List Wy} (hn : NetIs n ws) (s : Int) : ∀ k, nodesTo ws s k < 2 ^ n.toNat
  | 0 => by have := pow_bd n n.toNat (Nat.le_refl _); simp only [nodesTo]; omega
  | k + 1 => by
    have ih := nodesTo_lt hn s k
    cases hx : ws[k]? with
    | none => simp only [nodesTo, hx]; exact ih
    | some x =>
      cases hb : bit s k
      · rw [nodesTo_no hx hb]; exact ih
      · rw [nodesTo_yes hx hb]; exact ior_lt ih (wayPl_lt hn hx)
def nds (ws : List Wy) (s : Int) : Int := nodesTo ws s ws.length
theorem nds_bd {n : Int} {ws : List Wy} (hn : NetIs n ws) (s : Int) : 0 ≤ nds ws s ∧ nds ws s < 64 ∧ nds ws s < 2 ^ n.toNat :=
  ⟨(nodesTo_bd hn s _).1, (nodesTo_bd hn s _).2, nodesTo_lt hn s _⟩
noncomputable def tree (ws : List Wy) (s : Int) : Bool := s == 0 || (pop s == pop (nds ws s) - 1 && joins ws s (nds ws s))
noncomputable def treeOk (n : Int) (ws : List Wy) (s : Int) : Bool := setOk n ws s && tree ws s



end Go.Proofs.Ythadehgpeafniaa
namespace Go.Proofs.Ythadehgpeafniaa
open Go.RowKit

theorem lv_nodes (ws : List Wy) (s : Int) : ∀ k, (lvTo ws s k).1 = nodesTo ws s k
  | 0 => rfl
  | k + 1 => by
    have ih := lv_nodes ws s k
    cases hx : ws[k]? with
    | none => simp only [lvTo, nodesTo, hx]; exact ih
    | some x =>
      cases hb : bit s k
      · rw [lvTo_no hx hb, nodesTo_no hx hb]; exact ih
      · rw [(lvTo_yes hx hb).1, nodesTo_yes hx hb, ih]
/-- a place is met again exactly if two ways of the set have it -/
theorem lv_again {n : Int} {ws : List Wy} (hn : NetIs n ws) (s : Int) : ∀ (k : Nat) (i j : Nat) (x y : Wy) (q : Int), 0 ≤ q → i < j → j < k → ws[i]? = some x → ws[j]? = some y → bit s i = true → bit s j = true → (q = x.a ∨ q = x.b) → (q = y.a ∨ q = y.b) → bit (lvTo ws s k).2 q = true
  | 0, i, j, _, _, _, _, _, h, _, _, _, _, _, _ => by omega
  | k + 1, i, j, x, y, q, hq, hij, hjk, hx, hy, hbi, hbj, hqx, hqy => by
    cases hz : ws[k]? with
    | none =>
      have : j ≠ k := fun e => by subst e; rw [hy] at hz; cases hz
      simp only [lvTo, hz]
      exact lv_again hn s k i j x y q hq hij (by omega) hx hy hbi hbj hqx hqy
    | some z =>
      by_cases hj : j = k
      · subst hj
        rw [hy] at hz; injection hz with hz; subst hz
        obtain ⟨a0, _, b0, _⟩ := hn.at_ hy
        have h1 : bit (lvTo ws s j).1 q = true := by
          rw [lv_nodes]
          obtain ⟨xa0, _, xb0, _⟩ := hn.at_ hx
          have key : ∀ m : Nat, i < m → bit (nodesTo ws s m) q = true := fun m => by
            induction m with
            | zero => intro h; omega
            | succ m ih =>
              intro him
              cases hw : ws[m]? with
              | none =>
                have : i ≠ m := fun e => by subst e; rw [hx] at hw; cases hw
                simp only [nodesTo, hw]; exact ih (by omega)
              | some u =>
                by_cases hm : i = m
                · subst hm
                  rw [hx] at hw; injection hw with hw; subst hw
                  rw [nodesTo_yes hx hbi, bit_ior, show wayPl x = ior (2 ^ x.a.toNat) (2 ^ x.b.toNat) from rfl, bit_ior, bit_shl _ _ xa0 hq, bit_shl _ _ xb0 hq]
                  rcases hqx with h | h <;> simp [h]
                · have := ih (by omega)
                  cases hbm : bit s m
                  · rw [nodesTo_no hw hbm]; exact this
                  · rw [nodesTo_yes hw hbm, bit_ior, this]; rfl
          exact key j hij
        rw [(lvTo_yes hy hbj).2, bit_ior, bit_iand, h1, show wayPl y = ior (2 ^ y.a.toNat) (2 ^ y.b.toNat) from rfl, bit_ior, bit_shl _ _ a0 hq, bit_shl _ _ b0 hq]
        rcases hqy with h | h <;> simp [h]
      · have ih := lv_again hn s k i j x y q hq hij (by omega) hx hy hbi hbj hqx hqy
        cases hb : bit s k
        · rw [lvTo_no hz hb]; exact ih
        · rw [(lvTo_yes hz hb).2, bit_ior, ih]; rfl
theorem lv_sub {n : Int} {ws : List Wy} (hn : NetIs n ws) (s : Int) : ∀ (k : Nat) (q : Int), 0 ≤ q → bit (lvTo ws s k).2 q = true → bit (lvTo ws s k).1 q = true
  | 0, q, _, h => h
  | k + 1, q, hq, h => by
    have ih := lv_sub hn s k q hq
    cases hx : ws[k]? with
    | none => simp only [lvTo, hx] at h ⊢; exact ih h
    | some x =>
      cases hb : bit s k
      · rw [lvTo_no hx hb] at h ⊢; exact ih h
      · rw [(lvTo_yes hx hb).2, bit_ior, bit_iand] at h
        rw [(lvTo_yes hx hb).1, bit_ior]
        simp only [Bool.or_eq_true, Bool.and_eq_true] at h ⊢
        rcases h with h | h
        · exact .inl (ih h)
        · exact .inl h.1
/-- how many of the first k ways are of the set -/
def cntTo (s : Int) : Nat → Int
  | 0 => 0
  | k + 1 => cntTo s k + if bit s k then 1 else 0
theorem cnt_all : ∀ (l : Fin 10) (s : Fin 512), s.val < 2 ^ l.val → cntTo (s.val : Int) l.val = pop (s.val : Int) := by decide +kernel
theorem pop_join_all : ∀ (o : Fin 64) (a : Fin 6), pop ((o.val ||| 2 ^ a.val : Nat) : Int) = pop (o.val : Int) + (if o.val.testBit a.val then 0 else 1) := by decide +kernel
theorem pop_join {o a : Int} (o0 : 0 ≤ o) (o1 : o < 64) (a0 : 0 ≤ a) (a1 : a < 6) : pop (ior o (2 ^ a.toNat)) = pop o + (if bit o a then 0 else 1) := by
  have := pop_join_all ⟨o.toNat, by omega⟩ ⟨a.toNat, by omega⟩
  simp only at this
  rw [Int.toNat_of_nonneg o0] at this
  have e : bit o a = o.toNat.testBit a.toNat := rfl
  rw [e, ← this]
  unfold ior
  rw [pow_toNat]
theorem pop_part_all : ∀ (o t : Fin 64), t.val &&& o.val = t.val → pop ((o.val &&& (o.val ^^^ t.val) : Nat) : Int) + pop (t.val : Int) = pop (o.val : Int) := by decide +kernel
theorem pop_part {o t : Int} (o0 : 0 ≤ o) (o1 : o < 64) (t0 : 0 ≤ t) (t1 : t < 64) (h : ∀ q, 0 ≤ q → bit t q = true → bit o q = true) : pop (idiff o t) + pop t = pop o := by
  have hand : t.toNat &&& o.toNat = t.toNat := Nat.eq_of_testBit_eq fun i => by
    rw [Nat.testBit_and]
    cases ht : t.toNat.testBit i
    · rfl
    · have := h (i : Int) (by omega) (by simpa [bit] using ht)
      have : o.toNat.testBit i = true := by simpa [bit] using this
      rw [this]; rfl
  have := pop_part_all ⟨o.toNat, by omega⟩ ⟨t.toNat, by omega⟩ hand
  simp only at this
  rw [Int.toNat_of_nonneg o0, Int.toNat_of_nonneg t0] at this
  exact this
theorem ior_two (o a b : Int) : ior o (ior (2 ^ a.toNat) (2 ^ b.toNat)) = ior (ior o (2 ^ a.toNat)) (2 ^ b.toNat) := by
  unfold ior
  simp only [Int.toNat_natCast]
  rw [Nat.or_assoc]
/-- each way is met at two places -/
theorem lv_count {n : Int} {ws : List Wy} (hn : NetIs n ws) (s : Int) : ∀ k, pop (lvTo ws s k).1 + pop (lvTo ws s k).2 ≤ 2 * cntTo s k
  | 0 => by simp only [lvTo, cntTo, pop_zero]; omega
  | k + 1 => by
    have ih := lv_count hn s k
    have hc : cntTo s (k + 1) = cntTo s k + if bit s k then 1 else 0 := rfl
    cases hx : ws[k]? with
    | none =>
      simp only [lvTo, hx]
      rw [hc]; split <;> omega
    | some x =>
      cases hb : bit s k
      · rw [lvTo_no hx hb, hc, hb]; simpa using ih
      · rw [(lvTo_yes hx hb).1, (lvTo_yes hx hb).2, hc, hb]
        simp only [if_true]
        obtain ⟨⟨o0, o1⟩, ⟨t0, t1⟩⟩ := lvTo_bd hn s k
        obtain ⟨a0, a1, b0, b1, hne, _⟩ := hn.at_ hx
        have h6 := hn.hi
        generalize (lvTo ws s k).1 = o at *
        generalize (lvTo ws s k).2 = t at *
        have hpa := pow_bd x.a 5 (by omega)
        have hpb := pow_bd x.b 5 (by omega)
        have e1 : pop (ior o (wayPl x)) = pop o + (if bit o x.a then 0 else 1) + (if bit o x.b then 0 else 1) := by
          rw [show wayPl x = ior (2 ^ x.a.toNat) (2 ^ x.b.toNat) from rfl, ior_two]
          have hi := ior_bd o (2 ^ x.a.toNat) 6 (by omega) (by omega)
          rw [pop_join hi.1 (by omega) b0 (by omega), pop_join o0 o1 a0 (by omega), bit_ior, bit_shl _ _ a0 b0]
          have : decide (x.b = x.a) = false := by simp; omega
          rw [this, Bool.or_false]
        have e2 : pop (ior t (iand o (wayPl x))) ≤ pop t + (if bit o x.a then 1 else 0) + (if bit o x.b then 1 else 0) := by
          have hset : ior t (iand o (wayPl x)) = ior (ior t (if bit o x.a then 2 ^ x.a.toNat else 0)) (if bit o x.b then 2 ^ x.b.toNat else 0) := by
            refine set_ext (by unfold ior; omega) (by unfold ior; omega) fun q hq => ?_
            rw [bit_ior, bit_iand, bit_ior, bit_ior, show wayPl x = ior (2 ^ x.a.toNat) (2 ^ x.b.toNat) from rfl, bit_ior, bit_shl _ _ a0 hq, bit_shl _ _ b0 hq]
            by_cases hqa : q = x.a
            · subst hqa
              cases ha : bit o x.a
              · cases hbb : bit o x.b <;> simp [bit_zero_, bit_shl _ _ b0 hq, hne]
              · cases hbb : bit o x.b <;> simp [bit_zero_, bit_shl _ _ a0 hq]
            · by_cases hqb : q = x.b
              · subst hqb
                cases ha : bit o x.a
                · cases hbb : bit o x.b <;> simp [bit_zero_, bit_shl _ _ b0 hq, hqa]
                · cases hbb : bit o x.b <;> simp [bit_zero_, bit_shl _ _ b0 hq, bit_shl _ _ a0 hq, hqa]
              · cases ha : bit o x.a <;> cases hbb : bit o x.b <;> simp [bit_zero_, bit_shl _ _ b0 hq, bit_shl _ _ a0 hq, hqa, hqb]
          rw [hset]
          have z : ∀ r : Int, 0 ≤ r → ior r 0 = r := fun r hr => by unfold ior; simp; omega
          have pj : ∀ (r c : Int), 0 ≤ r → r < 64 → 0 ≤ c → c < 6 → pop (ior r (2 ^ c.toNat)) ≤ pop r + 1 := fun r c r0 r1 c0 c1 => by
            rw [pop_join r0 r1 c0 c1]; split <;> omega
          have hi := ior_bd t (2 ^ x.a.toNat) 6 (by omega) (by omega)
          cases ha : bit o x.a <;> cases hbb : bit o x.b
          · simp only [Bool.false_eq_true, if_false]
            rw [z t t0, z t t0]; omega
          · simp only [Bool.false_eq_true, if_false, if_true]
            rw [z t t0]
            have := pj t x.b t0 t1 b0 (by omega)
            omega
          · simp only [Bool.false_eq_true, if_false, if_true]
            rw [z _ hi.1]
            have := pj t x.a t0 t1 a0 (by omega)
            omega
          · simp only [if_true]
            have h1 := pj t x.a t0 t1 a0 (by omega)
            have h2 := pj _ x.b hi.1 (by omega) b0 (by omega)
            omega
        have e3 : ∀ c : Bool, (if c then (0 : Int) else 1) + (if c then (1 : Int) else 0) = 1 := fun c => by cases c <;> rfl
        have ea := e3 (bit o x.a)
        have eb := e3 (bit o x.b)
        omega
/-- a tree with ways has two leaves -/
theorem two_leaves {n : Int} {ws : List Wy} (hn : NetIs n ws) {s : Int} (s0 : 0 ≤ s) (s1 : s ≤ full ws.length) (hp : pop s = pop (nodesTo ws s ws.length) - 1) : 2 ≤ pop (lvs ws s) := by
  have hl9 := hn.len
  have hfb := full_bd ws.length hl9
  obtain ⟨⟨o0, o1⟩, ⟨t0, t1⟩⟩ := lvTo_bd hn s ws.length
  have h1 := lv_count hn s ws.length
  have e2 : ((2 : Int) ^ ws.length) = ((2 ^ ws.length : Nat) : Int) := by simp
  have h2 := cnt_all ⟨ws.length, by omega⟩ ⟨s.toNat, by omega⟩ (by simp only; unfold full at s1; omega)
  simp only [Int.toNat_of_nonneg s0] at h2
  have h3 := pop_part o0 o1 t0 t1 (fun q hq hb => lv_sub hn s _ q hq hb)
  rw [← lv_nodes] at hp
  unfold lvs
  omega
theorem leaves_sub {n : Int} {ws : List Wy} (hn : NetIs n ws) (s : Int) : idiff (lvs ws s) (nodesTo ws s ws.length) = 0 := by
  obtain ⟨⟨o0, o1⟩, _⟩ := lvTo_bd hn s ws.length
  have hb := idiff_bd (lvTo ws s ws.length).1 (lvTo ws s ws.length).2 o0
  refine (idiff_zero hb.1).2 fun q hq h => ?_
  unfold lvs at h
  rw [bit_idiff] at h
  simp only [Bool.and_eq_true] at h
  rw [← lv_nodes]; exact h.1
end Go.Proofs.Ythadehgpeafniaa
