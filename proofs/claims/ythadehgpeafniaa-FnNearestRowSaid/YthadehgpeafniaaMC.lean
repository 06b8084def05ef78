/- More on memory. The leaves: what the small functions of the program compute. NetOk and CostOf, of the program and of its model. Small facts for the walks of laws; the fixed answer. -/
import Derived.Test.YthadehgpeafniaaMA
import Derived.Test.YthadehgpeafniaaRows
import Derived.ProofKit
import Derived.OpenShut
import Derived.Deep.QuietTactic
import Derived.BigQuiet
import Derived.Handy
set_option linter.unusedSimpArgs false
set_option linter.unusedVariables false
namespace Go.Proofs.Ythadehgpeafniaa
open Go.RowKit

theorem RW.keepb {w w' : World} {B B' b o : Nat} {ws : List Wy} (h : RW w B (some ⟨b, o, none⟩) ws) (hb : w'.heap[b]? = w.heap[b]?) (hB : b < B') : RW w' B' (some ⟨b, o, none⟩) ws := by
  intro i x hx
  obtain ⟨b', o', ha, _, h0, h1, h2⟩ := h i x hx
  injection ha with ha
  injection ha with ha1 ha2
  subst ha1; subst ha2
  exact ⟨b, o, rfl, hB, (World.cell?_of_block (w := w) hb).trans h0, (World.cell?_of_block (w := w) hb).trans h1, (World.cell?_of_block (w := w) hb).trans h2⟩
/-- two cells are written, and read again -/
theorem two_cells {w : World} {b : Nat} {x0 x1 v0 v1 : Value} {t : TypeId} (h : w.heap[b]? = some (.cells #[x0, x1] t (0, 0))) :
    ((w.setCell ⟨b, 0, none⟩ v0).setCell ⟨b, 1, none⟩ v1).cell? ⟨b, 0, none⟩ = some v0 ∧ ((w.setCell ⟨b, 0, none⟩ v0).setCell ⟨b, 1, none⟩ v1).cell? ⟨b, 1, none⟩ = some v1 := by
  have e : ((w.setCell ⟨b, 0, none⟩ v0).setCell ⟨b, 1, none⟩ v1).heap[b]? = some (.cells #[v0, v1] t (0, 0)) := by
    simp [World.setCell, Array.getElem?_modify, h]
  exact ⟨cell_of_row _ _ 0 _ _ (0, 0) e, cell_of_row _ _ 1 _ _ (0, 0) e⟩
theorem RW.drewR {w : World} {B : Nat} {A : Option Addr} {ws : List Wy} (h : RW w B A ws) : RW w.drew B A ws := h
end Go.Proofs.Ythadehgpeafniaa
namespace Go.Proofs.Ythadehgpeafniaa
open Go.ChangeShapes Go.WideShapes Go.ChangeAt Go.RowKit

theorem below_drewN {B : Nat} {a w : World} (h : Below B a w) (n : Nat) : Below B a (w.drewN n) := ⟨h.os, h.tape, h.output, h.size, h.block⟩

theorem inSet_any (s i : Int) (h0 : 0 ≤ i) (h1 : i ≤ 60) (h2 : 0 ≤ s) (h3 : s ≤ 1048576) (w : World) :
    Calls Try.prog 37 #[.int .i64 s, .int .i64 i] w fun e w' => e = .returned (.bool (bit s i)) ∧ w = w' := by
  go_enter Try.func37, Try.ntmps37
  go_wp2
  go_ret
  exact ⟨ret_bool (bit_and' s i h0 h2 (by omega)), rfl⟩

theorem hasPlace_any (n p : Int) (v : Value) (w : World) :
    Calls Try.prog 54 #[.agg #[.int .i64 n, v], .int .i64 p] w fun e w' => e = .returned (.bool (hasPl n p)) ∧ Below w.heap.size w w' := by
  unfold hasPl
  go_enter Try.func54, Try.ntmps54
  go_wp2
  all_goals
    go_ret
    exact ⟨ret_bool (by first | (simp [*]; done) | (rw [Bool.eq_iff_iff]; simp only [Bool.and_eq_true, Bool.or_eq_true, Bool.not_eq_true', bne_iff_ne, beq_iff_eq, decide_eq_true_eq, decide_eq_false_iff_not, beq_eq_false_iff_ne, ne_eq, Bool.true_and, Bool.and_true, Bool.false_and, Bool.and_false, Bool.true_or, Bool.false_or, Bool.or_false, true_and, and_true, Bool.false_eq_true, false_iff, iff_false, true_iff, iff_true, iff_self]; done) | (rw [Bool.eq_iff_iff]; simp only [Bool.and_eq_true, Bool.or_eq_true, Bool.not_eq_true', bne_iff_ne, beq_iff_eq, decide_eq_true_eq, decide_eq_false_iff_not, beq_eq_false_iff_ne, ne_eq, Bool.true_and, Bool.and_true, Bool.false_and, Bool.and_false, Bool.true_or, Bool.false_or, Bool.or_false, true_and, and_true, Bool.false_eq_true, false_iff, iff_false, true_iff, iff_true]; omega)), by go_grown⟩

def shl1 (i : Int) : Int := 2 ^ i.toNat
theorem shl1_bd (i : Int) (h : i ≤ 5) : 1 ≤ shl1 i ∧ shl1 i ≤ 32 := by
  have := pow_bd i 5 (by omega)
  unfold shl1; omega
theorem wrap_shl1 (i : Int) (h : i ≤ 5) : wrap64 (2 ^ i.toNat) = shl1 i := by
  have := shl1_bd i h
  exact IntWalk.wrap64_in _ ⟨by unfold shl1 at this; omega, by unfold shl1 at this; omega⟩
def wayPl (x : Wy) : Int := ior (shl1 x.a) (shl1 x.b)
theorem wayPlaces_any (x : Wy) (h0 : 0 ≤ x.a) (h1 : x.a ≤ 5) (h2 : 0 ≤ x.b) (h3 : x.b ≤ 5) (w : World) :
    Calls Try.prog 71 #[.agg #[.int .i64 x.a, .int .i64 x.b, .int .i64 x.c]] w fun e w' => e = .returned (.int .i64 (wayPl x)) ∧ Below w.heap.size w w' := by
  go_enter Try.func71, Try.ntmps71
  go_wp2
  go_quiet (fail)
  go_wp2
  go_ret
  refine ⟨ret_int ?_, below_drewN (by go_grown) _⟩
  have ha := shl1_bd x.a h1
  have hb := shl1_bd x.b h3
  show bits .or .i64 (wrap64 (2 ^ x.a.toNat)) (wrap64 (2 ^ x.b.toNat)) = _
  rw [wrap_shl1 _ h1, wrap_shl1 _ h3]
  exact bits_or _ _ (by omega) (by omega) (by omega) (by omega)

theorem allWays_any (n : Int) (A : Option Addr) (len cap : Nat) (h0 : len ≤ 20) (w : World) :
    Calls Try.prog 60 #[.agg #[.int .i64 n, .slice A len cap]] w fun e w' => e = .returned (.int .i64 (full len)) ∧ Below w.heap.size w w' := by
  have hp := pow_bd (len : Int) 20 (by omega)
  rw [Int.toNat_natCast] at hp
  go_enter Try.func60, Try.ntmps60
  go_wp2
  go_ret
  exact ⟨ret_int rfl, by go_grown⟩

theorem wayOk_any (n : Int) (x : Wy) (v : Value) (w : World) :
    Calls Try.prog 61 #[.agg #[.int .i64 n, v], .agg #[.int .i64 x.a, .int .i64 x.b, .int .i64 x.c]] w fun e w' => e = .returned (.bool (wayOk n x)) ∧ Below w.heap.size w w' := by
  unfold wayOk
  cases hA : hasPl n x.a
  · have HA := Lib.hid hA
    clear hA
    go_enter Try.func61, Try.ntmps61
    go_wp2_with ((go_at_call 54; refine (hasPlace_any _ _ _ _).mono ?_; rintro e w1 ⟨rfl, hb1⟩; rw [HA.out]))
    go_ret
    exact ⟨rfl, bstep (by go_grown) (by go_size) hb1⟩
  · cases hB : hasPl n x.b
    · have HA := Lib.hid hA
      have HB := Lib.hid hB
      clear hA hB
      go_enter Try.func61, Try.ntmps61
      go_wp2_with fail
      refine (hasPlace_any _ _ _ _).mono ?_; rintro e w1 ⟨rfl, hb1⟩
      rw [HA.out]
      obtain ⟨hc1, hf1⟩ := bcell hb1
      have hz1_0 : w.heap.size < w1.heap.size := by have hq := hb1.size; (try simp at hq); omega
      have hz1_1 : w.heap.size + 1 < w1.heap.size := by have hq := hb1.size; (try simp at hq); omega
      have HK1 := Lib.hid hb1
      have HB1 := Lib.hid (bstep (B := w.heap.size) (W := w) (by (try have hp := HB0.out); go_grown) (by go_size) hb1); clear hb1
      go_wp2_with fail
      refine (hasPlace_any _ _ _ _).mono ?_; rintro e w2 ⟨rfl, hb2⟩
      rw [HB.out]
      obtain ⟨hc2, hf2⟩ := bcell hb2
      have hz2_0 : w.heap.size < w2.heap.size := by have hq := hb2.size; (try simp at hq); omega
      have hz2_1 : w.heap.size + 1 < w2.heap.size := by have hq := hb2.size; (try simp at hq); omega
      have HK2 := Lib.hid hb2
      have HB2 := Lib.hid (bstep (B := w.heap.size) (W := w) (by have hp := HB1.out; go_grown) (by go_size) hb2); clear hb2
      go_wp2_with fail
      go_ret
      exact ⟨rfl, HB2.out⟩
    · have HA := Lib.hid hA
      have HB := Lib.hid hB
      clear hA hB
      go_enter Try.func61, Try.ntmps61
      go_wp2_with fail
      refine (hasPlace_any _ _ _ _).mono ?_; rintro e w1 ⟨rfl, hb1⟩
      rw [HA.out]
      obtain ⟨hc1, hf1⟩ := bcell hb1
      have hz1_0 : w.heap.size < w1.heap.size := by have hq := hb1.size; (try simp at hq); omega
      have hz1_1 : w.heap.size + 1 < w1.heap.size := by have hq := hb1.size; (try simp at hq); omega
      have HK1 := Lib.hid hb1
      have HB1 := Lib.hid (bstep (B := w.heap.size) (W := w) (by (try have hp := HB0.out); go_grown) (by go_size) hb1); clear hb1
      go_wp2_with fail
      refine (hasPlace_any _ _ _ _).mono ?_; rintro e w2 ⟨rfl, hb2⟩
      rw [HB.out]
      obtain ⟨hc2, hf2⟩ := bcell hb2
      have hz2_0 : w.heap.size < w2.heap.size := by have hq := hb2.size; (try simp at hq); omega
      have hz2_1 : w.heap.size + 1 < w2.heap.size := by have hq := hb2.size; (try simp at hq); omega
      have HK2 := Lib.hid hb2
      have HB2 := Lib.hid (bstep (B := w.heap.size) (W := w) (by have hp := HB1.out; go_grown) (by go_size) hb2); clear hb2
      go_wp2_with fail
      all_goals
        go_ret
        refine ⟨ret_bool ?_, HB2.out⟩
        clear hc1 hc2 hf1 hf2
        first | (simp [*]; done) | (rw [Bool.eq_iff_iff]; simp only [Bool.and_eq_true, Bool.or_eq_true, Bool.not_eq_true', bne_iff_ne, beq_iff_eq, decide_eq_true_eq, decide_eq_false_iff_not, beq_eq_false_iff_ne, ne_eq, Bool.true_and, Bool.and_true, Bool.false_and, Bool.and_false, Bool.true_or, Bool.false_or, Bool.or_false, true_and, and_true, Bool.false_eq_true, false_iff, iff_false, true_iff, iff_true, iff_self]; done) | (rw [Bool.eq_iff_iff]; simp only [Bool.and_eq_true, Bool.or_eq_true, Bool.not_eq_true', bne_iff_ne, beq_iff_eq, decide_eq_true_eq, decide_eq_false_iff_not, beq_eq_false_iff_ne, ne_eq, Bool.true_and, Bool.and_true, Bool.false_and, Bool.and_false, Bool.true_or, Bool.false_or, Bool.or_false, true_and, and_true, Bool.false_eq_true, false_iff, iff_false, true_iff, iff_true]; omega)
end Go.Proofs.Ythadehgpeafniaa
namespace Go.Proofs.Ythadehgpeafniaa
open Go.ChangeShapes Go.WideShapes Go.ChangeAt Go.RowKit

theorem setCost_any (n s : Int) (A : Option Addr) (cap : Nat) (ws : List Wy) (w : World) (hr : RW w w.heap.size A ws) (hn : NetIs n ws)
    (h2 : 0 ≤ s) (h3 : s ≤ 1048576) :
    Calls Try.prog 41 #[.agg #[.int .i64 n, .slice A ws.length cap], .int .i64 s] w fun e w' => e = .returned (.int .i64 (cost ws s)) ∧ Below w.heap.size w w' := by
  have HR := Lib.hid hr
  have HN := Lib.hid hn
  have hm := hn.len
  clear hr hn
  go_enter Try.func41, Try.ntmps41
  go_wp2_with fail
  go_loopw [5, 11] (fun c i wr => ∃ k : Nat, k ≤ ws.length ∧ i = .int .i64 k ∧ c = .int .i64 (cost (ws.take k) s) ∧ Below w.heap.size w wr ∧ w.heap.size < wr.heap.size) (fun _ i _ => ws.length - (intOf i).toNat)
  case atStart => exact ⟨0, Nat.zero_le _, rfl, rfl, (Below.refl _ _).alloc (Nat.le_refl _) _, by simp⟩
  case round =>
    obtain ⟨k, hk, rfl, rfl, hb, hz⟩ := hrel
    by_cases hlt : k < ws.length
    · obtain ⟨x, hx⟩ : ∃ x, ws[k]? = some x := ⟨_, List.getElem?_eq_getElem hlt⟩
      obtain ⟨b, o, rfl, hB, c0, c1, c2⟩ := HR.out.below hb k x hx
      have HX := Lib.hid (cost_take ws s k x hx)
      have hbd := cost_bd HN.out s k
      have hxc := HN.out.at_ hx
      have hx0 : 0 ≤ x.c := by omega
      have hx9 : x.c ≤ 9 := by omega
      clear hx hxc
      have HB0 := Lib.hid hb
      clear hb
      have HC := Lib.hid (costFrom_bd (n := n) s ws)
      cases hbit : bit s k
      · have Hbit := Lib.hid hbit
        clear hbit
        go_wp2_with fail
        refine (inSet_any _ _ (by omega) (by omega) h2 h3 _).mono ?_; rintro e w' ⟨rfl, rfl⟩; rw [Hbit.out]
        go_wp2_with fail
        go_roundw
        case rel => exact ⟨k + 1, by omega, by go_num, by rw [HX.out, Hbit.out]; simp, by have := HB0.out; go_grown, by go_size⟩
        case measure => simp [intOf]; omega
      · have Hbit := Lib.hid hbit
        clear hbit
        go_wp2_with fail
        refine (inSet_any _ _ (by omega) (by omega) h2 h3 _).mono ?_; rintro e w' ⟨rfl, rfl⟩; rw [Hbit.out]
        go_wp2_with fail
        go_roundw
        case rel => exact ⟨k + 1, by omega, by go_num, by rw [HX.out, Hbit.out]; simp, by have := HB0.out; go_grown, by go_size⟩
        case measure => simp [intOf]; omega
    · go_wp2_with fail
      go_ret
      exact ⟨ret_int (by rw [List.take_of_length_le (by omega)]), hb⟩

theorem all_take (n : Int) (ws : List Wy) (k : Nat) (x : Wy) (hx : ws[k]? = some x) : (ws.take (k + 1)).all (wayOk n) = ((ws.take k).all (wayOk n) && wayOk n x) := by
  rw [List.take_add_one, hx]; simp
theorem all_false (n : Int) (ws : List Wy) (k : Nat) (x : Wy) (hx : ws[k]? = some x) (h : wayOk n x = false) : ws.all (wayOk n) = false := by
  rw [List.all_eq_false]; exact ⟨x, List.mem_of_getElem? hx, by simp [h]⟩

set_option maxHeartbeats 400000 in
theorem NetOk_any (n : Int) (A : Option Addr) (cap : Nat) (ws : List Wy) (w : World) (hr : RW w w.heap.size A ws) :
    Calls Try.prog 40 #[.agg #[.int .i64 n, .slice A ws.length cap]] w fun e w' => e = .returned (.bool (netOk n ws)) ∧ Below w.heap.size w w' := by
  have HR := Lib.hid hr
  clear hr
  by_cases hs : 2 ≤ n ∧ n ≤ 6 ∧ ws.length ≤ 9
  · obtain ⟨hs1, hs2, hs3⟩ := hs
    have hfin : netOk n ws = ws.all (wayOk n) := by simp [netOk, hs1, hs2, hs3]
    rw [hfin]
    clear hfin
    go_enter Try.func40, Try.ntmps40
    go_wp2_with fail
    go_loopw [22] (fun i wr => ∃ k : Nat, k ≤ ws.length ∧ i = .int .i64 k ∧ (ws.take k).all (wayOk n) = true ∧ Below (w.heap.size + 1) (w.alloc (.cells #[.int .i64 n, .slice A ws.length cap] 25)) wr) (fun i _ => ws.length - (intOf i).toNat)
    case atStart => exact ⟨0, Nat.zero_le _, rfl, by simp, Below.refl _ _⟩
    case round =>
      obtain ⟨k, hk, rfl, hall, hb⟩ := hrel
      obtain ⟨hb1, b0, b1, hz⟩ := box2 hb
      by_cases hlt : k < ws.length
      · obtain ⟨x, hx⟩ : ∃ x, ws[k]? = some x := ⟨_, List.getElem?_eq_getElem hlt⟩
        obtain ⟨b, o, rfl, hB, c0, c1, c2⟩ := HR.out.below hb1 k x hx
        have HX := Lib.hid hx
        have HB0 := Lib.hid hb
        have HA := Lib.hid hall
        clear hx hb hb1 hall
        cases hbit : wayOk n x
        · have Hbit := Lib.hid hbit
          clear hbit
          go_wp2_with fail
          refine (wayOk_any _ _ _ _).mono ?_; rintro e w1 ⟨rfl, hb1⟩
          rw [Hbit.out]
          obtain ⟨hc1, hf1⟩ := bcell hb1
          have hz1_0 : w.heap.size < w1.heap.size := by have hq := hb1.size; (try simp at hq); omega
          have HK1 := Lib.hid hb1
          have HB1 := Lib.hid (bstep (B := w.heap.size + 1) (W := (w.alloc (.cells #[.int .i64 n, .slice (some ⟨b, o, none⟩) ws.length cap] 25))) (by (try have hp := HB0.out); go_grown) (by go_size) hb1); clear hb1
          go_wp2_with fail
          go_ret
          exact ⟨ret_bool (all_false n ws k x HX.out Hbit.out).symm, (box2 HB1.out).1⟩
        · have Hbit := Lib.hid hbit
          clear hbit
          go_wp2_with fail
          refine (wayOk_any _ _ _ _).mono ?_; rintro e w1 ⟨rfl, hb1⟩
          rw [Hbit.out]
          obtain ⟨hc1, hf1⟩ := bcell hb1
          have hz1_0 : w.heap.size < w1.heap.size := by have hq := hb1.size; (try simp at hq); omega
          have HK1 := Lib.hid hb1
          have HB1 := Lib.hid (bstep (B := w.heap.size + 1) (W := (w.alloc (.cells #[.int .i64 n, .slice (some ⟨b, o, none⟩) ws.length cap] 25))) (by (try have hp := HB0.out); go_grown) (by go_size) hb1); clear hb1
          go_wp2_with fail
          go_roundw
          case rel => exact ⟨k + 1, by omega, by go_num, by rw [all_take n ws k x HX.out, HA.out, Hbit.out]; rfl, HB1.out⟩
          case measure => simp [intOf]; omega
      · have HB0 := Lib.hid hb1
        have HA := Lib.hid hall
        clear hb hb1 hall
        go_wp2_with fail
        go_ret
        exact ⟨ret_bool (by have := HA.out; rw [List.take_of_length_le (by omega)] at this; rw [this]), HB0.out⟩
  · have hfin : netOk n ws = false := by
      unfold netOk
      by_cases h1 : 2 ≤ n <;> by_cases h2 : n ≤ 6 <;> by_cases h3 : ws.length ≤ 9 <;> simp [h1, h2, h3]
      exact absurd ⟨h1, h2, h3⟩ hs
    rw [hfin]
    clear hfin
    by_cases h1 : n < 2
    · clear hs
      go_enter Try.func40, Try.ntmps40
      go_wp2_with fail
      go_ret
      exact ⟨rfl, by go_grown⟩
    · by_cases h2 : 6 < n
      · clear hs
        go_enter Try.func40, Try.ntmps40
        go_wp2_with fail
        go_ret
        exact ⟨rfl, by go_grown⟩
      · have h3 : 9 < ws.length := by omega
        clear hs
        go_enter Try.func40, Try.ntmps40
        go_wp2_with fail
        go_ret
        exact ⟨rfl, by go_grown⟩

theorem waysOk_any (n s : Int) (A : Option Addr) (cap : Nat) (ws : List Wy) (w : World) (hr : RW w w.heap.size A ws) :
    Calls Try.prog 36 #[.agg #[.int .i64 n, .slice A ws.length cap], .int .i64 s] w fun e w' => e = .returned (.bool (setOk n ws s)) ∧ Below w.heap.size w w' := by
  have HR := Lib.hid hr
  clear hr
  unfold setOk
  cases hn : netOk n ws
  · have HN := Lib.hid hn
    clear hn
    go_enter Try.func36, Try.ntmps36
    go_wp2_with fail
    refine (NetOk_any _ _ _ _ _ (HR.out.later (by go_grown))).mono ?_; rintro e w1 ⟨rfl, hb1⟩
    rw [HN.out]
    obtain ⟨hc1, hf1⟩ := bcell hb1
    have hz1_0 : w.heap.size < w1.heap.size := by have hq := hb1.size; (try simp at hq); omega
    have HK1 := Lib.hid hb1
    have HB1 := Lib.hid (bstep (B := w.heap.size) (W := w) (by (try have hp := HB0.out); go_grown) (by go_size) hb1); clear hb1
    go_wp2_with fail
    go_ret
    exact ⟨rfl, HB1.out⟩
  · have HN := Lib.hid hn
    have hl := (netOk_t hn).len
    clear hn
    by_cases h0 : 0 ≤ s
    · go_enter Try.func36, Try.ntmps36
      go_wp2_with fail
      refine (NetOk_any _ _ _ _ _ (HR.out.later (by go_grown))).mono ?_; rintro e w1 ⟨rfl, hb1⟩
      rw [HN.out]
      obtain ⟨hc1, hf1⟩ := bcell hb1
      have hz1_0 : w.heap.size < w1.heap.size := by have hq := hb1.size; (try simp at hq); omega
      have HK1 := Lib.hid hb1
      have HB1 := Lib.hid (bstep (B := w.heap.size) (W := w) (by (try have hp := HB0.out); go_grown) (by go_size) hb1); clear hb1
      go_wp2_with fail
      refine (allWays_any _ _ _ _ (by omega) _).mono ?_; rintro e w2 ⟨rfl, hb2⟩
      obtain ⟨hc2, hf2⟩ := bcell hb2
      have hz2_0 : w.heap.size < w2.heap.size := by have hq := hb2.size; (try simp at hq); omega
      have HK2 := Lib.hid hb2
      have HB2 := Lib.hid (bstep (B := w.heap.size) (W := w) (by have hp := HB1.out; go_grown) (by go_size) hb2); clear hb2
      go_wp2_with fail
      go_ret
      exact ⟨ret_bool (by first | (simp [*]; done) | (rw [Bool.eq_iff_iff]; simp only [Bool.and_eq_true, Bool.or_eq_true, Bool.not_eq_true', bne_iff_ne, beq_iff_eq, decide_eq_true_eq, decide_eq_false_iff_not, beq_eq_false_iff_ne, ne_eq, Bool.true_and, Bool.and_true, Bool.false_and, Bool.and_false, Bool.true_or, Bool.false_or, Bool.or_false, true_and, and_true, Bool.false_eq_true, false_iff, iff_false, true_iff, iff_true, iff_self]; done) | (rw [Bool.eq_iff_iff]; simp only [Bool.and_eq_true, Bool.or_eq_true, Bool.not_eq_true', bne_iff_ne, beq_iff_eq, decide_eq_true_eq, decide_eq_false_iff_not, beq_eq_false_iff_ne, ne_eq, Bool.true_and, Bool.and_true, Bool.false_and, Bool.and_false, Bool.true_or, Bool.false_or, Bool.or_false, true_and, and_true, Bool.false_eq_true, false_iff, iff_false, true_iff, iff_true]; omega)), HB2.out⟩
    · go_enter Try.func36, Try.ntmps36
      go_wp2_with fail
      refine (NetOk_any _ _ _ _ _ (HR.out.later (by go_grown))).mono ?_; rintro e w1 ⟨rfl, hb1⟩
      rw [HN.out]
      obtain ⟨hc1, hf1⟩ := bcell hb1
      have hz1_0 : w.heap.size < w1.heap.size := by have hq := hb1.size; (try simp at hq); omega
      have HK1 := Lib.hid hb1
      have HB1 := Lib.hid (bstep (B := w.heap.size) (W := w) (by (try have hp := HB0.out); go_grown) (by go_size) hb1); clear hb1
      go_wp2_with fail
      go_ret
      exact ⟨ret_bool (by first | (simp [*]; done) | (rw [Bool.eq_iff_iff]; simp only [Bool.and_eq_true, Bool.or_eq_true, Bool.not_eq_true', bne_iff_ne, beq_iff_eq, decide_eq_true_eq, decide_eq_false_iff_not, beq_eq_false_iff_ne, ne_eq, Bool.true_and, Bool.and_true, Bool.false_and, Bool.and_false, Bool.true_or, Bool.false_or, Bool.or_false, true_and, and_true, Bool.false_eq_true, false_iff, iff_false, true_iff, iff_true, iff_self]; done) | (rw [Bool.eq_iff_iff]; simp only [Bool.and_eq_true, Bool.or_eq_true, Bool.not_eq_true', bne_iff_ne, beq_iff_eq, decide_eq_true_eq, decide_eq_false_iff_not, beq_eq_false_iff_ne, ne_eq, Bool.true_and, Bool.and_true, Bool.false_and, Bool.and_false, Bool.true_or, Bool.false_or, Bool.or_false, true_and, and_true, Bool.false_eq_true, false_iff, iff_false, true_iff, iff_true]; omega)), HB1.out⟩

def costOf (n : Int) (ws : List Wy) (s : Int) : Int := if setOk n ws s = true then cost ws s else -1
theorem CostOf_any (n s : Int) (A : Option Addr) (cap : Nat) (ws : List Wy) (w : World) (hr : RW w w.heap.size A ws) :
    Calls Try.prog 14 #[.agg #[.int .i64 n, .slice A ws.length cap], .int .i64 s] w fun e w' => e = .returned (.int .i64 (costOf n ws s)) ∧ Below w.heap.size w w' := by
  have HR := Lib.hid hr
  clear hr
  unfold costOf
  cases hn : setOk n ws s
  · have HN := Lib.hid hn
    clear hn
    go_enter Try.func14, Try.ntmps14
    go_wp2_with fail
    refine (waysOk_any _ _ _ _ _ _ (HR.out.later (by go_grown))).mono ?_; rintro e w1 ⟨rfl, hb1⟩
    rw [HN.out]
    obtain ⟨hc1, hf1⟩ := bcell hb1
    have hz1_0 : w.heap.size < w1.heap.size := by have hq := hb1.size; (try simp at hq); omega
    have HK1 := Lib.hid hb1
    have HB1 := Lib.hid (bstep (B := w.heap.size) (W := w) (by (try have hp := HB0.out); go_grown) (by go_size) hb1); clear hb1
    go_wp2_with fail
    go_ret
    exact ⟨rfl, HB1.out⟩
  · have HN := Lib.hid hn
    have HS := Lib.hid (setOk_t hn)
    have hs0 := (setOk_t hn).2.1
    have hs1 := (setOk_t hn).2.2.2
    clear hn
    go_enter Try.func14, Try.ntmps14
    go_wp2_with fail
    refine (waysOk_any _ _ _ _ _ _ (HR.out.later (by go_grown))).mono ?_; rintro e w1 ⟨rfl, hb1⟩
    rw [HN.out]
    obtain ⟨hc1, hf1⟩ := bcell hb1
    have hz1_0 : w.heap.size < w1.heap.size := by have hq := hb1.size; (try simp at hq); omega
    have HK1 := Lib.hid hb1
    have HB1 := Lib.hid (bstep (B := w.heap.size) (W := w) (by (try have hp := HB0.out); go_grown) (by go_size) hb1); clear hb1
    go_wp2_with fail
    refine (setCost_any _ _ _ _ _ _ (HR.out.later (by have := HB1.out; go_grown)) HS.out.1 hs0 (by omega)).mono ?_; rintro e w2 ⟨rfl, hb2⟩
    obtain ⟨hc2, hf2⟩ := bcell hb2
    have hz2_0 : w.heap.size < w2.heap.size := by have hq := hb2.size; (try simp at hq); omega
    have HK2 := Lib.hid hb2
    have HB2 := Lib.hid (bstep (B := w.heap.size) (W := w) (by have hp := HB1.out; go_grown) (by go_size) hb2); clear hb2
    go_wp2_with fail
    go_ret
    exact ⟨rfl, HB2.out⟩
end Go.Proofs.Ythadehgpeafniaa
namespace Go.Proofs.Ythadehgpeafniaa
open Go.ChangeShapes Go.WideShapes Go.ChangeAt Go.RowKit

theorem bit_iand (a b i : Int) : bit (iand a b) i = (bit a i && bit b i) := by
  unfold bit iand
  rw [Int.toNat_natCast, Nat.testBit_and]
theorem costFrom_join (s o : Int) : ∀ (ws : List Wy) (k : Int), costFrom ws s k + costFrom ws o k = costFrom ws (ior s o) k + costFrom ws (iand s o) k
  | [], _ => rfl
  | x :: ws, k => by
    have ih := costFrom_join s o ws (k + 1)
    simp only [costFrom, bit_ior, bit_iand]
    cases bit s k <;> cases bit o k <;> simp <;> omega
theorem cost_join (ws : List Wy) (s o : Int) : cost ws s + cost ws o = cost ws (ior s o) + cost ws (iand s o) := costFrom_join s o ws 0
theorem full_lt (len : Nat) (s : Int) : s ≤ full len ↔ s < 2 ^ len := by unfold full; omega
theorem setOk_mk {n : Int} {ws : List Wy} {s : Int} (hn : netOk n ws = true) (h0 : 0 ≤ s) (h1 : s ≤ full ws.length) : setOk n ws s = true := by
  unfold setOk; simp [hn, h0, h1]
theorem cost_zero (ws : List Wy) : cost ws 0 = 0 := by
  have : ∀ (ws : List Wy) (k : Int), costFrom ws 0 k = 0 := fun ws => by
    induction ws with
    | nil => intro k; rfl
    | cons x ws ih => intro k; simp [costFrom, bit, ih]
  exact this ws 0

theorem costOf_ok {n : Int} {ws : List Wy} {s : Int} (h : setOk n ws s = true) : costOf n ws s = cost ws s := by unfold costOf; rw [if_pos h]
theorem cost_all {n : Int} {ws : List Wy} (hn : netOk n ws = true) (s : Int) : 0 ≤ cost ws s ∧ cost ws s ≤ 81 := by
  have := cost_bd (netOk_t hn) s ws.length
  rwa [List.take_of_length_le (Nat.le_refl _)] at this
theorem keep2 {w w' : World} {h : Nat} {x0 x1 : Value} (hb : Below w.heap.size w w') (hk : w.cell? ⟨h, 0, none⟩ = some x0 ∧ w.cell? ⟨h, 1, none⟩ = some x1) (hl : h < w.heap.size) : w'.cell? ⟨h, 0, none⟩ = some x0 ∧ w'.cell? ⟨h, 1, none⟩ = some x1 :=
  ⟨(hb.cell (p := ⟨h, 0, none⟩) hl).trans hk.1, (hb.cell (p := ⟨h, 1, none⟩) hl).trans hk.2⟩
theorem RW.drewNR {w : World} {A : Option Addr} {ws : List Wy} (h : RW w w.heap.size A ws) (k : Nat) : RW (w.drewN k) (w.drewN k).heap.size A ws := h
theorem und {w w' : World} {k : Nat} (h : Below (w.drewN k).heap.size (w.drewN k) w') : Below w.heap.size w w' := ⟨h.os, h.tape, h.output, h.size, h.block⟩
theorem RW.nil_ (w : World) : RW w w.heap.size none [] := fun i x hx => by simp at hx
theorem alive_any (w : World) : Calls Try.prog 13 #[] w fun e w' => e = .returned (.bool true) ∧ Below w.heap.size w w' := by
  have e2 : netOk 2 [] = true := by decide
  have e1 : netOk 1 [] = false := by decide
  have E2 := Lib.hid e2
  have E1 := Lib.hid e1
  clear e1 e2
  go_enter Try.func13, Try.ntmps13
  go_wp2_with fail
  refine (NetOk_any 2 none 0 [] _ (RW.nil_ _)).mono ?_; rintro e w1 ⟨rfl, hb1⟩; rw [E2.out]
  go_wp2_with fail
  refine (NetOk_any 1 none 0 [] _ (RW.nil_ _)).mono ?_; rintro e w2 ⟨rfl, hb2⟩; rw [E1.out]
  have HB := Lib.hid (bstep hb1 hb1.size hb2)
  clear hb1 hb2
  go_wp2_with fail
  go_ret
  exact ⟨rfl, HB.out⟩
end Go.Proofs.Ythadehgpeafniaa
