/- The law of SpanDearer: ways that are left out may cost more: the least cost stays. -/
import Derived.Test.YtkjheobeogkhlaaDoorSR
import Derived.Test.YtkjheobeogkhlaaDoorWN
import Derived.Test.YtkjheobeogkhlaaDoorLK
import Derived.Test.YtkjheobeogkhlaaDoorLF
set_option linter.unusedSimpArgs false
set_option linter.unusedVariables false
attribute [local go_sem ↓] Go.wp_at_zero Go.wp_at_succ
namespace Go.Proofs.YtkjheobeogkhlaaDoor
open Go.ChangeShapes Go.WideShapes Go.ChangeAt Go.RowKit

/-! ### nets that are alike -/
theorem isReach_alike {ws ws' : List Wy} {s s' p r : Int} (h : ∀ T : Int → Bool, Closed ws s T ↔ Closed ws' s' T) (hr : IsReach ws s p r) : IsReach ws' s' p r :=
  { lo := hr.lo, hi := hr.hi, has := hr.has, closed := (h _).1 hr.closed, least := fun T hT hc => hr.least T hT ((h T).2 hc) }
theorem reach_alike {ws ws' : List Wy} {s s' : Int} (h : ∀ T : Int → Bool, Closed ws s T ↔ Closed ws' s' T) (p : Int) : reach ws s p = reach ws' s' p := by
  unfold reach
  have : IsReach ws s p = IsReach ws' s' p := by
    funext r
    exact propext ⟨isReach_alike h, isReach_alike fun T => (h T).symm⟩
  rw [this]
theorem joins_alike {ws ws' : List Wy} {s s' : Int} (h : ∀ T : Int → Bool, Closed ws s T ↔ Closed ws' s' T) (e : Int) : joins ws s e = joins ws' s' e := by
  unfold joins
  rw [reach_alike h]
theorem netOk_of {n : Int} {ws : List Wy} (h : NetIs n ws) : netOk n ws = true := by
  unfold netOk
  simp only [Bool.and_eq_true, decide_eq_true_eq, List.all_eq_true]
  exact ⟨⟨⟨h.lo, h.hi⟩, h.len⟩, fun x hx => (wayOk_iff n x).2 (h.ok x hx)⟩

/-! ### dearer ways -/
def dear1 (s : Int) (k : Nat) (x : Wy) : Wy := ⟨x.a, x.b, if bit s k then x.c else 9⟩
def dearTo (ws : List Wy) (s : Int) : Nat → List Wy
  | 0 => []
  | k + 1 => match ws[k]? with
    | some x => dearTo ws s k ++ [dear1 s k x]
    | none => dearTo ws s k
theorem dearTo_step {ws : List Wy} {s : Int} {k : Nat} {x : Wy} (hx : ws[k]? = some x) : dearTo ws s (k + 1) = dearTo ws s k ++ [dear1 s k x] := by
  rw [dearTo, hx]
theorem dearTo_len (ws : List Wy) (s : Int) : ∀ k, k ≤ ws.length → (dearTo ws s k).length = k
  | 0, _ => rfl
  | k + 1, h => by
    obtain ⟨x, hx⟩ : ∃ x, ws[k]? = some x := ⟨_, List.getElem?_eq_getElem (by omega)⟩
    rw [dearTo_step hx, List.length_append, dearTo_len ws s k (by omega)]; rfl
theorem dearTo_at (ws : List Wy) (s : Int) (j : Nat) (x : Wy) (hx : ws[j]? = some x) : ∀ k, j < k → k ≤ ws.length → (dearTo ws s k)[j]? = some (dear1 s j x)
  | 0, h, _ => by omega
  | k + 1, h, hk => by
    obtain ⟨y, hy⟩ : ∃ y, ws[k]? = some y := ⟨_, List.getElem?_eq_getElem (by omega)⟩
    have hl := dearTo_len ws s k (by omega)
    rw [dearTo_step hy]
    by_cases e : j = k
    · subst e
      rw [hx] at hy; injection hy with hy; subst hy
      rw [List.getElem?_append_right (by omega), hl]; simp
    · rw [List.getElem?_append_left (by omega)]
      exact dearTo_at ws s j x hx k (by omega) (by omega)
def dear (ws : List Wy) (s : Int) : List Wy := dearTo ws s ws.length
theorem dear_at {ws : List Wy} {s : Int} {j : Nat} {x : Wy} (hx : ws[j]? = some x) : (dear ws s)[j]? = some (dear1 s j x) :=
  dearTo_at ws s j x hx _ (List.getElem?_eq_some_iff.1 hx).1 (Nat.le_refl _)
theorem dear_len (ws : List Wy) (s : Int) : (dear ws s).length = ws.length := dearTo_len ws s _ (Nat.le_refl _)
theorem dear_back {ws : List Wy} {s : Int} {j : Nat} {y : Wy} (hy : (dear ws s)[j]? = some y) : ∃ x, ws[j]? = some x ∧ y = dear1 s j x := by
  have hj := (List.getElem?_eq_some_iff.1 hy).1
  rw [dear_len] at hj
  obtain ⟨x, hx⟩ : ∃ x, ws[j]? = some x := ⟨_, List.getElem?_eq_getElem hj⟩
  rw [dear_at hx] at hy
  injection hy with hy
  exact ⟨x, hx, hy.symm⟩
theorem dear_net {n : Int} {ws : List Wy} {s : Int} (hn : NetIs n ws) : NetIs n (dear ws s) := by
  refine ⟨hn.lo, hn.hi, by rw [dear_len]; exact hn.len, fun y hy => ?_⟩
  obtain ⟨j, hj⟩ := List.getElem?_of_mem hy
  obtain ⟨x, hx, rfl⟩ := dear_back hj
  have := hn.at_ hx
  refine ⟨this.1, this.2.1, this.2.2.1, this.2.2.2.1, this.2.2.2.2.1, ?_, ?_⟩ <;> (simp only [dear1]; split <;> omega)
theorem dear_closed (ws : List Wy) (s t : Int) (T : Int → Bool) : Closed (dear ws s) t T ↔ Closed ws t T := by
  constructor
  · intro h k x hx hb
    exact h k (dear1 s k x) (dear_at hx) hb
  · intro h k y hy hb
    obtain ⟨x, hx, rfl⟩ := dear_back hy
    exact h k x hx hb
theorem dear_joins (ws : List Wy) (s t e : Int) : joins (dear ws s) t e = joins ws t e := joins_alike (dear_closed ws s t) e
theorem dear_costs {n : Int} {ws : List Wy} (hn : NetIs n ws) (s t : Int) : ∀ k, k ≤ ws.length → cost (ws.take k) t ≤ cost ((dear ws s).take k) t ∧ cost ((dear ws s).take k) s = cost (ws.take k) s
  | 0, _ => by simp
  | k + 1, h => by
    obtain ⟨x, hx⟩ : ∃ x, ws[k]? = some x := ⟨_, List.getElem?_eq_getElem (by omega)⟩
    have ih := dear_costs hn s t k (by omega)
    have hxc := hn.at_ hx
    rw [cost_take ws t k x hx, cost_take (dear ws s) t k _ (dear_at hx), cost_take ws s k x hx, cost_take (dear ws s) s k _ (dear_at hx)]
    constructor
    · have : x.c ≤ (dear1 s k x).c := by simp only [dear1]; split <;> omega
      split <;> omega
    · cases hb : bit s k
      · simp only [Bool.false_eq_true, if_false]; omega
      · simp only [dear1, hb, if_true]; omega
theorem dear_cost {n : Int} {ws : List Wy} (hn : NetIs n ws) (s t : Int) : cost ws t ≤ cost (dear ws s) t ∧ cost (dear ws s) s = cost ws s := by
  have := dear_costs hn s t ws.length (Nat.le_refl _)
  rw [List.take_length, List.take_of_length_le (by rw [dear_len]; omega)] at this
  exact this
theorem dear_span {n : Int} {ws : List Wy} (hn : NetIs n ws) (hj : joins ws (span ws (allPl n)) (allPl n) = true) :
    spanCostOf n (dear ws (span ws (allPl n))) = cost ws (span ws (allPl n)) := by
  have hd := dear_net (s := span ws (allPl n)) hn
  have h1 : joins (dear ws (span ws (allPl n))) (span ws (allPl n)) (allPl n) = true := by rw [dear_joins]; exact hj
  have h2 := span_joins hd h1
  have h3 := span_least hd h1
  have h4 : joins ws (span (dear ws (span ws (allPl n))) (allPl n)) (allPl n) = true := by rw [← dear_joins ws (span ws (allPl n))]; exact h2
  have h5 := span_least hn h4
  have h6 := dear_cost hn (span ws (allPl n)) (span (dear ws (span ws (allPl n))) (allPl n))
  unfold spanCostOf
  rw [if_pos (netOk_of hd), if_pos h2]
  omega

/-! ### memory -/
theorem alloc_set2 (w : World) (x0 x1 x2 v : Value) (t : TypeId) : (w.alloc (.cells #[x0, x1, x2] t)).setCell ⟨w.heap.size, 2, none⟩ v = w.alloc (.cells #[x0, x1, v] t) := by
  unfold World.setCell World.alloc
  congr 1
  apply Array.ext_getElem?
  intro i
  rw [Array.getElem?_modify]
  by_cases e : w.heap.size = i
  · subst e; simp
  · rw [if_neg e]
    by_cases h : i < w.heap.size
    · rw [Array.getElem?_push_lt h, Array.getElem?_push_lt h]
    · rw [Array.getElem?_eq_none (by simp; omega), Array.getElem?_eq_none (by simp; omega)]
theorem BoxSt.alloc {w0 w : World} {B : Nat} {tn tw : TypeId} {nn : Int} {v : Value} {ws : List Wy} (h : BoxSt w0 w B tn tw nn v ws) (o : Obj) : BoxSt w0 (w.alloc o) B tn tw nn v ws :=
  ⟨h.low.alloc (Nat.le_of_lt h.lt) o, (Below.heap_alloc w o B h.lt).trans h.blk, h.own.alloc o⟩

set_option maxHeartbeats 4000000 in
theorem FnSpanDearer_walk (A : Option Addr) (len cap : Nat) (w : World) (hr : RB w w.heap.size A len) (hc : len ≤ cap) (hlen : len ≤ 9223372036854775807) (hT : Tab w) :
    Calls Tryd.prog 9 #[.slice A len cap] w fun e w' => e = .returned (.bool true) ∧ Below w.heap.size w w' := by
  have HR := Lib.hid hr
  have HT := Lib.hid hT
  clear hr hT
  by_cases hm : 1048576 < len
  · go_enter Tryd.func9, Tryd.ntmps9
    go_wp2_with fail
    go_ret
    exact ⟨rfl, Below.refl _ _⟩
  · obtain ⟨i0, hi0, hz0, hz1', hz2⟩ := info_parts infoWy
    go_enter Tryd.func9, Tryd.ntmps9
    go_wp2_with fail
    refine (DrawSpanCost_any A len cap _ HR.out hc (by omega)).mono ?_
    rintro e wd ⟨nn, A', c', ws, rfl, hrw, hl10, hcc, hn0, hn7, hbd⟩
    have HRW := Lib.hid hrw
    have HBD := Lib.hid hbd
    have HTD := Lib.hid (HT.out.later hbd)
    have hzd : w.heap.size ≤ wd.heap.size := hbd.size
    clear hrw hbd
    go_wp2_with fail
    refine (SpanTree_any _ _ _ _ _ (HRW.out.later (by go_grown)) (HTD.out.later (by go_grown))).mono ?_; rintro e w1 ⟨rfl, hb1⟩
    obtain ⟨hc1, hf1⟩ := bcell hb1
    have hz1_0 : wd.heap.size < w1.heap.size := by have hq := hb1.size; (try simp at hq); omega
    have HK1 := Lib.hid hb1
    have HB1 := Lib.hid (bstep (B := wd.heap.size) (W := wd) (by (try have hp := HB0.out); go_grown) (by go_size) hb1); clear hb1
    rcases span_told nn ws with ⟨h1, _⟩ | ⟨hno, hj, h1, h2, h3, h4⟩
    · have H1 := Lib.hid h1
      rw [h1]
      clear h1
      go_wp2_with fail
      refine (sSpanTree_any _ _ _ _ _ (HRW.out.later (by have := HB1.out; go_grown)) (by omega)).mono ?_; rintro e w2 ⟨rfl, hb2⟩
      rw [H1.out]
      obtain ⟨hc2, hf2⟩ := bcell hb2
      have hz2_0 : wd.heap.size < w2.heap.size := by have hq := hb2.size; (try simp at hq); omega
      have HK2 := Lib.hid hb2
      have HB2 := Lib.hid (bstep (B := wd.heap.size) (W := wd) (by have hp := HB1.out; go_grown) (by go_size) hb2); clear hb2
      go_wp2_with fail
      refine (alive_any _).mono ?_; rintro e w3 ⟨rfl, hb3⟩
      obtain ⟨hc3, hf3⟩ := bcell hb3
      have hz3_0 : wd.heap.size < w3.heap.size := by have hq := hb3.size; (try simp at hq); omega
      have HK3 := Lib.hid hb3
      have HB3 := Lib.hid (bstep (B := wd.heap.size) (W := wd) (by have hp := HB2.out; go_grown) (by go_size) hb3); clear hb3
      go_wp2_with fail
      go_ret
      exact ⟨rfl, bstep HBD.out hzd HB3.out⟩
    · have hni := netOk_t hno
      have hl9 := hni.len
      have hfb := full_bd ws.length hl9
      have hds := dear_span hni hj
      have hdc := (dear_cost hni (span ws (allPl nn)) 0).2
      have hdk : netOk nn (dear ws (span ws (allPl nn))) = true := netOk_of (dear_net hni)
      have hcb := cost_bds hni (span ws (allPl nn))
      rw [← h1] at hds hdc hdk h2 hcb
      obtain ⟨S, hS⟩ : ∃ S, spanTreeOf nn ws = S := ⟨_, rfl⟩
      rw [hS] at h3 h4 hds hdc hdk h2 hcb
      obtain ⟨C, hC⟩ : ∃ C, cost ws S = C := ⟨_, rfl⟩
      rw [hC] at hds hdc h2 hcb
      have H2 := Lib.hid h2
      have HDS := Lib.hid hds
      have HDC : Hid (costOf nn (dear ws S) S = C) := by
        show costOf nn (dear ws S) S = C
        unfold costOf; rw [if_pos (setOk_mk hdk h3 (by rw [dear_len]; exact h4))]; exact hdc
      have hC0 := hcb.1
      rw [hS]
      have k1 : w1.cell? ⟨wd.heap.size, 0, none⟩ = some (.int .i64 nn) ∧ w1.cell? ⟨wd.heap.size, 1, none⟩ = some (.slice A' ws.length c') := ⟨by go_simp, by go_simp⟩
      have HRW1 := Lib.hid (HRW.out.later HB1.out)
      have HT1 := Lib.hid (HTD.out.later HB1.out)
      have hst0 : BoxSt w1 (w1.alloc (.cells #[.int .i64 nn, .slice none 0 0] 25)) w1.heap.size 25 45 nn (.slice none 0 0) (dearTo ws S 0) :=
        ⟨(Below.refl _ _).alloc (Nat.le_refl _) _, heap_alloc_new _ _, World.ownsRow_nil _ _ _ _⟩
      have ST0 := Lib.hid hst0
      obtain ⟨d0, d1⟩ := k1
      clear hno hj h1 hS hfb hst0 hni hds hdc hdk h2 hC hcb hc1 hf1
      go_wp2_with fail
      go_loopw [6] (fun i wr => ∃ (k : Nat) (v : Value), k ≤ ws.length ∧ i = .int .i64 k ∧ BoxSt w1 wr w1.heap.size 25 45 nn v (dearTo ws S k)) (fun i _ => ws.length - (intOf i).toNat)
      case atStart => exact ⟨0, _, Nat.zero_le _, rfl, ST0.out⟩
      case round =>
        clear ST0
        obtain ⟨k, v, hk, rfl, hst⟩ := hrel
        obtain ⟨b0, b1, bf⟩ := hst.cells
        have hlow := hst.low
        have c0 : wr.cell? ⟨wd.heap.size, 0, none⟩ = some (.int .i64 nn) := (hlow.cell (p := ⟨wd.heap.size, 0, none⟩) hz1_0).trans d0
        have c1 : wr.cell? ⟨wd.heap.size, 1, none⟩ = some (.slice A' ws.length c') := (hlow.cell (p := ⟨wd.heap.size, 1, none⟩) hz1_0).trans d1
        have ST := Lib.hid hst
        have hlt0 := hst.lt
        have hq0 : 0 ≤ S / 2 ^ k := (div_pow_bd S k h3).1
        by_cases hlt : k < ws.length
        · obtain ⟨x, hx⟩ : ∃ x, ws[k]? = some x := ⟨_, List.getElem?_eq_getElem hlt⟩
          obtain ⟨b, o, rfl, hB, e0, e1, e2⟩ := HRW1.out.below hlow k x hx
          have HX := Lib.hid hx
          have HL := Lib.hid (dearTo_len ws S k hk)
          have hk0 : (0 : Int) ≤ (k : Int) := by omega
          have hk1 : (k : Int) < (ws.length : Int) := by omega
          have hb1 : w1.heap.size < wr.heap.size := hlt0
          clear hx hlow hst
          cases hbk : bit S k
          · have hbz := bit_zero (i := (k : Int)) hk0 h3 hbk
            rw [Int.toNat_natCast] at hbz
            have hd1 : (S / 2 ^ k % 2 == 0) = true := by rw [hbz.1]; rfl
            have hd2 : ((S / 2 ^ k).tmod 2 == 0) = true := by rw [hbz.2]; rfl
            have HD : Hid (dear1 S k x = ⟨x.a, x.b, 9⟩) := by show dear1 S k x = _; unfold dear1; rw [hbk]; rfl
            clear hbz hbk
            have SA := Lib.hid (ST.out.alloc (.cells #[.int .i64 x.a, .int .i64 x.b, .int .i64 9] 45))
            have hset := alloc_set2 wr (.int .i64 x.a) (.int .i64 x.b) (.int .i64 x.c) (.int .i64 9) 45
            go_wp2_with (at_builtin; refine wpList_append_lies _ rfl _ _ _ rfl (w1.heap.size + 1) 45 i0 _ 3 24 Tryd.underlying23 hi0 hz0 hz1' hz2 rfl (by omega) v _ (wyCells (dearTo ws S k)) rfl (SA.out.own.alloc _) ⟨wr.heap.size + 1, 0, none⟩ 1 1 [.int .i64 x.a, .int .i64 x.b, .int .i64 9] rfl rfl (by have hn := World.news_of_block (cs := #[.int .i64 x.a, .int .i64 x.b, .int .i64 9]) (t := 45) (fr := (0, 0)) (heap_alloc_new (wr.alloc (.cells #[.int .i64 x.a, .int .i64 x.b, .int .i64 9] 45)) (.cells #[.int .i64 x.a, .int .i64 x.b, .int .i64 9] 45)); rw [World.size_alloc] at hn; exact hn) (by simp [Value.oneCell']) (by omega) (by rw [HL.out]; unfold maxLen; omega) (by rw [HL.out]; omega) (by simp; omega) (wr.heap.size + 2) (by simp) ?_; intro gg cc w5 hown5 hgrow5 hat5 hlt5; have hlow5 := SA.out.app_low hgrow5; obtain ⟨cc5, cf5⟩ := SA.out.app_cells hgrow5)
            have S5 := Lib.hid (BoxSt.append SA.out (dear1 S k x) (by rw [HD.out]; exact hown5) hgrow5)
            clear hown5 hgrow5 hat5 hlt5 hlow5 SA
            go_roundw
            case rel =>
              exact ⟨k + 1, _, by omega, by go_num, by rw [dearTo_step HX.out]; exact S5.out⟩
            case measure => simp [intOf]; omega
          · have hbz := bit_one (i := (k : Int)) hk0 h3 hbk
            rw [Int.toNat_natCast] at hbz
            have hd1 : (S / 2 ^ k % 2 == 0) = false := by rw [hbz.1]; rfl
            have hd2 : ((S / 2 ^ k).tmod 2 == 0) = false := by rw [hbz.2]; rfl
            have HD : Hid (dear1 S k x = x) := by show dear1 S k x = _; unfold dear1; rw [hbk]; rfl
            clear hbz hbk
            have SA := Lib.hid (ST.out.alloc (.cells #[.int .i64 x.a, .int .i64 x.b, .int .i64 x.c] 45))
            go_wp2_with (at_builtin; refine wpList_append_lies _ rfl _ _ _ rfl (w1.heap.size + 1) 45 i0 _ 3 24 Tryd.underlying23 hi0 hz0 hz1' hz2 rfl (by omega) v _ (wyCells (dearTo ws S k)) rfl (SA.out.own.alloc _) ⟨wr.heap.size + 1, 0, none⟩ 1 1 [.int .i64 x.a, .int .i64 x.b, .int .i64 x.c] rfl rfl (by have hn := World.news_of_block (cs := #[.int .i64 x.a, .int .i64 x.b, .int .i64 x.c]) (t := 45) (fr := (0, 0)) (heap_alloc_new (wr.alloc (.cells #[.int .i64 x.a, .int .i64 x.b, .int .i64 x.c] 45)) (.cells #[.int .i64 x.a, .int .i64 x.b, .int .i64 x.c] 45)); rw [World.size_alloc] at hn; exact hn) (by simp [Value.oneCell']) (by omega) (by rw [HL.out]; unfold maxLen; omega) (by rw [HL.out]; omega) (by simp; omega) (wr.heap.size + 2) (by simp) ?_; intro gg cc w5 hown5 hgrow5 hat5 hlt5; have hlow5 := SA.out.app_low hgrow5; obtain ⟨cc5, cf5⟩ := SA.out.app_cells hgrow5)
            have S5 := Lib.hid (BoxSt.append SA.out (dear1 S k x) (by rw [HD.out]; exact hown5) hgrow5)
            clear hown5 hgrow5 hat5 hlt5 hlow5 SA
            go_roundw
            case rel =>
              exact ⟨k + 1, _, by omega, by go_num, by rw [dearTo_step HX.out]; exact S5.out⟩
            case measure => simp [intOf]; omega
        · have hkl : k = ws.length := by omega
          subst hkl
          obtain ⟨A1, c1', rfl⟩ := ST.out.form
          have hrwd := ST.out.rw
          have hdl : (dearTo ws S ws.length).length = ws.length := dearTo_len ws S _ (Nat.le_refl _)
          rw [hdl] at b1
          have HRA := Lib.hid (HRW1.out.later (hlow.mono (Nat.le_refl _)))
          have HTA := Lib.hid (HT1.out.later (hlow.mono (Nat.le_refl _)))
          have HRD := Lib.hid hrwd
          have HDL := Lib.hid hdl
          have HLW := Lib.hid hlow
          have q0 : wr.cell? ⟨wd.heap.size, 0, none⟩ = some (.int .i64 nn) ∧ wr.cell? ⟨wd.heap.size, 1, none⟩ = some (.slice A' ws.length c') ∧ wr.cell? ⟨w1.heap.size, 0, none⟩ = some (.int .i64 nn) ∧ wr.cell? ⟨w1.heap.size, 1, none⟩ = some (.slice A1 ws.length c1') := ⟨c0, c1, b0, b1⟩
          have y0 : wd.heap.size < wr.heap.size := Nat.lt_trans hz1_0 hlt0
          have hcon : ∀ W, RW W W.heap.size A1 (dearTo ws S ws.length) → Tab W → Calls Tryd.prog 28 #[.agg #[.int .i64 nn, .slice A1 ws.length c1']] W fun e w' => e = .returned (.int .i64 C) ∧ Below W.heap.size W w' := fun W h1 h2 => by
            have h := SpanCost_any nn A1 c1' (dearTo ws S ws.length) W h1 h2
            rw [HDL.out, show spanCostOf nn (dearTo ws S ws.length) = C from HDS.out] at h
            exact h
          have hcon2 : ∀ W, RW W W.heap.size A' ws → Tab W → Calls Tryd.prog 28 #[.agg #[.int .i64 nn, .slice A' ws.length c']] W fun e w' => e = .returned (.int .i64 C) ∧ Below W.heap.size W w' := fun W h1 h2 => by
            have h := SpanCost_any nn A' c' ws W h1 h2
            rw [H2.out] at h
            exact h
          have hcon3 : ∀ W, RW W W.heap.size A1 (dearTo ws S ws.length) → Calls Tryd.prog 31 #[.agg #[.int .i64 nn, .slice A1 ws.length c1'], .int .i64 S] W fun e w' => e = .returned (.int .i64 C) ∧ Below W.heap.size W w' := fun W h1 => by
            have h := CostOf_any nn S A1 c1' (dearTo ws S ws.length) W h1
            rw [HDL.out, show costOf nn (dearTo ws S ws.length) S = C from HDC.out] at h
            exact h
          have HC1 := Lib.hid hcon
          have HC2 := Lib.hid hcon2
          have HC3 := Lib.hid hcon3
          clear hcon hcon2 hcon3 hrwd hdl hlow hst bf
          go_wp2_with fail
          have z0 := hlt0
          have ra0 := HRA
          have rd0 := HRD
          have ta0 := HTA
          refine wp_region_held_drew (S := (fun w' => w'.cell? ⟨wd.heap.size, 0, none⟩ = some (.int .i64 nn) ∧ w'.cell? ⟨wd.heap.size, 1, none⟩ = some (.slice A' ws.length c') ∧ w'.cell? ⟨w1.heap.size, 0, none⟩ = some (.int .i64 nn) ∧ w'.cell? ⟨w1.heap.size, 1, none⟩ = some (.slice A1 ws.length c1'))) (by kernel_rfl) ?_ (fun hHeld => ?_)
          · exact q0
          refine wpAnyH_ready (rs := [0]) (by kernel_rfl) (by simp) ?_
          refine AllReadyH.cons rfl (fun K hK => ?_) AllReadyH.nil
          try simp only [List.getElem_toArray, List.getElem_cons_succ, List.getElem_cons_zero]
          go_simp
          go_at_call 18; refine (alive_any _).mono ?_; rintro e2 w2 ⟨rfl, hb2⟩; have g2 : Below wr.heap.size wr w2 := und hb2; have q2 : _ ∧ _ ∧ _ ∧ _ := ⟨(g2.cell (p := ⟨wd.heap.size, 0, none⟩) y0).trans q0.1, (g2.cell (p := ⟨wd.heap.size, 1, none⟩) y0).trans q0.2.1, (g2.cell (p := ⟨w1.heap.size, 0, none⟩) z0).trans q0.2.2.1, (g2.cell (p := ⟨w1.heap.size, 1, none⟩) z0).trans q0.2.2.2⟩; have y2 := Nat.lt_of_lt_of_le y0 g2.size; have z2 := Nat.lt_of_lt_of_le z0 g2.size; have ra2 := Lib.hid (ra0.out.later g2); have rd2 := Lib.hid (rd0.out.later g2); have ta2 := Lib.hid (ta0.out.later g2)
          refine hK.out _ _ ?_ (fun hHeld => ?_)
          · exact q2
          clear hK K
          try simp only [Act.put, List.getElem_toArray, List.getElem_cons_succ, List.getElem_cons_zero, List.setIfInBounds_toArray, List.set_cons_zero, List.set_cons_succ]
          refine wpAnyH_take (i := 1) (v := ?_) rfl (by kernel_rfl) (by kernel_rfl) (by kernel_rfl) (fun _ _ _ h => h) (Or.inl ⟨by rfl, ?_⟩) (by assumption) ?_
          rotate_left
          · (intro w hSw; (try dsimp only at hSw); (try simp only [List.getElem_toArray, List.getElem_cons_succ, List.getElem_cons_zero]); first | (go_simp; done) | (go_simp; with_reducible rfl))
          try simp only [Act.put, List.getElem_toArray, List.getElem_cons_succ, List.getElem_cons_zero, List.setIfInBounds_toArray, List.set_cons_zero, List.set_cons_succ]
          refine wpAnyH_take (i := 2) (v := ?_) rfl (by kernel_rfl) (by kernel_rfl) (by kernel_rfl) (fun _ _ _ h => h) (Or.inl ⟨by rfl, ?_⟩) (by assumption) ?_
          rotate_left
          · (intro w hSw; (try dsimp only at hSw); (try simp only [List.getElem_toArray, List.getElem_cons_succ, List.getElem_cons_zero]); first | (go_simp; done) | (go_simp; with_reducible rfl))
          try simp only [Act.put, List.getElem_toArray, List.getElem_cons_succ, List.getElem_cons_zero, List.setIfInBounds_toArray, List.set_cons_zero, List.set_cons_succ]
          refine wpAnyH_take (i := 4) (v := ?_) rfl (by kernel_rfl) (by kernel_rfl) (by kernel_rfl) (fun _ _ _ h => h) (Or.inl ⟨by rfl, ?_⟩) (by assumption) ?_
          rotate_left
          · (intro w hSw; (try dsimp only at hSw); (try simp only [List.getElem_toArray, List.getElem_cons_succ, List.getElem_cons_zero]); first | (go_simp; done) | (go_simp; with_reducible rfl))
          try simp only [Act.put, List.getElem_toArray, List.getElem_cons_succ, List.getElem_cons_zero, List.setIfInBounds_toArray, List.set_cons_zero, List.set_cons_succ]
          refine wpAnyH_ready (rs := [3]) (by kernel_rfl) (by simp) ?_
          refine AllReadyH.cons rfl (fun K hK => ?_) AllReadyH.nil
          try simp only [List.getElem_toArray, List.getElem_cons_succ, List.getElem_cons_zero]
          go_simp
          go_at_call 28; refine (HC1.out w2 rd2.out ta2.out).mono ?_; rintro e3 w3 ⟨rfl, hb3⟩; have q3 : _ ∧ _ ∧ _ ∧ _ := ⟨(hb3.cell (p := ⟨wd.heap.size, 0, none⟩) y2).trans q2.1, (hb3.cell (p := ⟨wd.heap.size, 1, none⟩) y2).trans q2.2.1, (hb3.cell (p := ⟨w1.heap.size, 0, none⟩) z2).trans q2.2.2.1, (hb3.cell (p := ⟨w1.heap.size, 1, none⟩) z2).trans q2.2.2.2⟩; have y3 := Nat.lt_of_lt_of_le y2 hb3.size; have z3 := Nat.lt_of_lt_of_le z2 hb3.size; have ra3 := Lib.hid (ra2.out.later hb3); have rd3 := Lib.hid (rd2.out.later hb3); have ta3 := Lib.hid (ta2.out.later hb3)
          refine hK.out _ _ ?_ (fun hHeld => ?_)
          · exact q3
          clear hK K
          try simp only [Act.put, List.getElem_toArray, List.getElem_cons_succ, List.getElem_cons_zero, List.setIfInBounds_toArray, List.set_cons_zero, List.set_cons_succ]
          refine wpAnyH_ready (rs := [5]) (by kernel_rfl) (by simp) ?_
          refine AllReadyH.cons rfl (fun K hK => ?_) AllReadyH.nil
          try simp only [List.getElem_toArray, List.getElem_cons_succ, List.getElem_cons_zero]
          go_simp
          go_at_call 28; refine (HC2.out w3 ra3.out ta3.out).mono ?_; rintro e4 w4 ⟨rfl, hb4⟩; have q4 : _ ∧ _ ∧ _ ∧ _ := ⟨(hb4.cell (p := ⟨wd.heap.size, 0, none⟩) y3).trans q3.1, (hb4.cell (p := ⟨wd.heap.size, 1, none⟩) y3).trans q3.2.1, (hb4.cell (p := ⟨w1.heap.size, 0, none⟩) z3).trans q3.2.2.1, (hb4.cell (p := ⟨w1.heap.size, 1, none⟩) z3).trans q3.2.2.2⟩; have y4 := Nat.lt_of_lt_of_le y3 hb4.size; have z4 := Nat.lt_of_lt_of_le z3 hb4.size; have ra4 := Lib.hid (ra3.out.later hb4); have rd4 := Lib.hid (rd3.out.later hb4); have ta4 := Lib.hid (ta3.out.later hb4)
          refine hK.out _ _ ?_ (fun hHeld => ?_)
          · exact q4
          clear hK K
          try simp only [Act.put, List.getElem_toArray, List.getElem_cons_succ, List.getElem_cons_zero, List.setIfInBounds_toArray, List.set_cons_zero, List.set_cons_succ]
          refine wpAnyH_take (i := 6) (v := ?_) rfl (by kernel_rfl) (by kernel_rfl) (by kernel_rfl) (fun _ _ _ h => h) (Or.inl ⟨by rfl, ?_⟩) (by assumption) ?_
          rotate_left
          · (intro w hSw; (try dsimp only at hSw); (try simp only [List.getElem_toArray, List.getElem_cons_succ, List.getElem_cons_zero]); first | (go_simp; done) | (go_simp; with_reducible rfl))
          try simp only [Act.put, List.getElem_toArray, List.getElem_cons_succ, List.getElem_cons_zero, List.setIfInBounds_toArray, List.set_cons_zero, List.set_cons_succ]
          refine wpAnyH_take (i := 7) (v := ?_) rfl (by kernel_rfl) (by kernel_rfl) (by kernel_rfl) (fun _ _ _ h => h) (Or.inl ⟨by rfl, ?_⟩) (by assumption) ?_
          rotate_left
          · (intro w hSw; (try dsimp only at hSw); (try simp only [List.getElem_toArray, List.getElem_cons_succ, List.getElem_cons_zero]); first | (go_simp; done) | (go_simp; with_reducible rfl))
          try simp only [Act.put, List.getElem_toArray, List.getElem_cons_succ, List.getElem_cons_zero, List.setIfInBounds_toArray, List.set_cons_zero, List.set_cons_succ]
          refine wpAnyH_take (i := 8) (v := ?_) rfl (by kernel_rfl) (by kernel_rfl) (by kernel_rfl) (fun _ _ _ h => h) (Or.inl ⟨by rfl, ?_⟩) (by assumption) ?_
          rotate_left
          · (intro w hSw; (try dsimp only at hSw); (try simp only [List.getElem_toArray, List.getElem_cons_succ, List.getElem_cons_zero]); first | (go_simp; done) | (go_simp; with_reducible rfl))
          try simp only [Act.put, List.getElem_toArray, List.getElem_cons_succ, List.getElem_cons_zero, List.setIfInBounds_toArray, List.set_cons_zero, List.set_cons_succ]
          refine wpAnyH_take (i := 9) (v := ?_) rfl (by kernel_rfl) (by kernel_rfl) (by kernel_rfl) (fun _ _ _ h => h) (Or.inl ⟨by rfl, ?_⟩) (by assumption) ?_
          rotate_left
          · (intro w hSw; (try dsimp only at hSw); (try simp only [List.getElem_toArray, List.getElem_cons_succ, List.getElem_cons_zero]); first | (go_simp; done) | (go_simp; with_reducible rfl))
          try simp only [Act.put, List.getElem_toArray, List.getElem_cons_succ, List.getElem_cons_zero, List.setIfInBounds_toArray, List.set_cons_zero, List.set_cons_succ]
          refine wpAnyH_take (i := 11) (v := ?_) rfl (by kernel_rfl) (by kernel_rfl) (by kernel_rfl) (fun _ _ _ h => h) (Or.inl ⟨by rfl, ?_⟩) (by assumption) ?_
          rotate_left
          · (intro w hSw; (try dsimp only at hSw); (try simp only [List.getElem_toArray, List.getElem_cons_succ, List.getElem_cons_zero]); first | (go_simp; done) | (go_simp; with_reducible rfl))
          try simp only [Act.put, List.getElem_toArray, List.getElem_cons_succ, List.getElem_cons_zero, List.setIfInBounds_toArray, List.set_cons_zero, List.set_cons_succ]
          refine wpAnyH_ready (rs := [10]) (by kernel_rfl) (by simp) ?_
          refine AllReadyH.cons rfl (fun K hK => ?_) AllReadyH.nil
          try simp only [List.getElem_toArray, List.getElem_cons_succ, List.getElem_cons_zero]
          go_simp
          go_at_call 31; refine (HC3.out w4 rd4.out).mono ?_; rintro e5 w5 ⟨rfl, hb5⟩; have q5 : _ ∧ _ ∧ _ ∧ _ := ⟨(hb5.cell (p := ⟨wd.heap.size, 0, none⟩) y4).trans q4.1, (hb5.cell (p := ⟨wd.heap.size, 1, none⟩) y4).trans q4.2.1, (hb5.cell (p := ⟨w1.heap.size, 0, none⟩) z4).trans q4.2.2.1, (hb5.cell (p := ⟨w1.heap.size, 1, none⟩) z4).trans q4.2.2.2⟩; have y5 := Nat.lt_of_lt_of_le y4 hb5.size; have z5 := Nat.lt_of_lt_of_le z4 hb5.size; have ra5 := Lib.hid (ra4.out.later hb5); have rd5 := Lib.hid (rd4.out.later hb5); have ta5 := Lib.hid (ta4.out.later hb5)
          refine hK.out _ _ ?_ (fun hHeld => ?_)
          · exact q5
          clear hK K
          try simp only [Act.put, List.getElem_toArray, List.getElem_cons_succ, List.getElem_cons_zero, List.setIfInBounds_toArray, List.set_cons_zero, List.set_cons_succ]
          refine wpAnyH_ready (rs := [12]) (by kernel_rfl) (by simp) ?_
          refine AllReadyH.cons rfl (fun K hK => ?_) AllReadyH.nil
          try simp only [List.getElem_toArray, List.getElem_cons_succ, List.getElem_cons_zero]
          go_simp
          go_at_call 28; refine (HC2.out w5 ra5.out ta5.out).mono ?_; rintro e6 w6 ⟨rfl, hb6⟩; have q6 : _ ∧ _ ∧ _ ∧ _ := ⟨(hb6.cell (p := ⟨wd.heap.size, 0, none⟩) y5).trans q5.1, (hb6.cell (p := ⟨wd.heap.size, 1, none⟩) y5).trans q5.2.1, (hb6.cell (p := ⟨w1.heap.size, 0, none⟩) z5).trans q5.2.2.1, (hb6.cell (p := ⟨w1.heap.size, 1, none⟩) z5).trans q5.2.2.2⟩; have y6 := Nat.lt_of_lt_of_le y5 hb6.size; have z6 := Nat.lt_of_lt_of_le z5 hb6.size; have ra6 := Lib.hid (ra5.out.later hb6); have rd6 := Lib.hid (rd5.out.later hb6); have ta6 := Lib.hid (ta5.out.later hb6)
          refine hK.out _ _ ?_ (fun hHeld => ?_)
          · exact q6
          clear hK K
          try simp only [Act.put, List.getElem_toArray, List.getElem_cons_succ, List.getElem_cons_zero, List.setIfInBounds_toArray, List.set_cons_zero, List.set_cons_succ]
          refine wpAnyH_take (i := 13) (v := ?_) rfl (by kernel_rfl) (by kernel_rfl) (by kernel_rfl) (fun _ _ _ h => h) (Or.inl ⟨by rfl, ?_⟩) (by assumption) ?_
          rotate_left
          · (intro w hSw; (try dsimp only at hSw); (try simp only [List.getElem_toArray, List.getElem_cons_succ, List.getElem_cons_zero]); first | (go_simp; done) | (go_simp; with_reducible rfl))
          try simp only [Act.put, List.getElem_toArray, List.getElem_cons_succ, List.getElem_cons_zero, List.setIfInBounds_toArray, List.set_cons_zero, List.set_cons_succ]
          refine wpAnyH_take (i := 14) (v := ?_) rfl (by kernel_rfl) (by kernel_rfl) (by kernel_rfl) (fun _ _ _ h => h) (Or.inl ⟨by rfl, ?_⟩) (by assumption) ?_
          rotate_left
          · (intro w hSw; (try dsimp only at hSw); (try simp only [List.getElem_toArray, List.getElem_cons_succ, List.getElem_cons_zero]); first | (go_simp; done) | (go_simp; with_reducible rfl))
          try simp only [Act.put, List.getElem_toArray, List.getElem_cons_succ, List.getElem_cons_zero, List.setIfInBounds_toArray, List.set_cons_zero, List.set_cons_succ]
          refine wpAnyH_take (i := 15) (v := ?_) rfl (by kernel_rfl) (by kernel_rfl) (by kernel_rfl) (fun _ _ _ h => h) (Or.inl ⟨by rfl, ?_⟩) (by assumption) ?_
          rotate_left
          · (intro w hSw; (try dsimp only at hSw); (try simp only [List.getElem_toArray, List.getElem_cons_succ, List.getElem_cons_zero]); first | (go_simp; done) | (go_simp; with_reducible rfl))
          try simp only [Act.put, List.getElem_toArray, List.getElem_cons_succ, List.getElem_cons_zero, List.setIfInBounds_toArray, List.set_cons_zero, List.set_cons_succ]
          refine wpAnyH_take (i := 16) (v := ?_) rfl (by kernel_rfl) (by kernel_rfl) (by kernel_rfl) (fun _ _ _ h => h) (Or.inl ⟨by rfl, ?_⟩) (by assumption) ?_
          rotate_left
          · (intro w hSw; (try dsimp only at hSw); (try simp only [List.getElem_toArray, List.getElem_cons_succ, List.getElem_cons_zero]); first | (go_simp; done) | (go_simp; with_reducible rfl))
          try simp only [Act.put, List.getElem_toArray, List.getElem_cons_succ, List.getElem_cons_zero, List.setIfInBounds_toArray, List.set_cons_zero, List.set_cons_succ]
          refine wpAnyH_done (by kernel_rfl) ?_ _
          have HBF := Lib.hid (bstep (B := w1.heap.size) (W := w1) HLW.out (Nat.le_of_lt hlt0) (bstep (bstep (bstep (bstep g2 g2.size hb3) (Nat.le_trans g2.size hb3.size) hb4) (Nat.le_trans g2.size (Nat.le_trans hb3.size hb4.size)) hb5) (Nat.le_trans g2.size (Nat.le_trans hb3.size (Nat.le_trans hb4.size hb5.size))) hb6))
          clear g2 hb2 hb3 hb4 hb5 hb6
          go_wp2_with fail
          go_ret
          exact ⟨rfl, bstep HBD.out hzd (bstep HB1.out (Nat.le_of_lt hz1_0) HBF.out)⟩
end Go.Proofs.YtkjheobeogkhlaaDoor
