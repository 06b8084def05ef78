/- The walk of FnTreesMany. -/
import Derived.Test.YtimccjmphdkbjaaDoorPcI
import Derived.Test.YtimccjmphdkbjaaDoorPdB
import Derived.Test.YtimccjmphdkbjaaDoorWLab
import Derived.Test.YtimccjmphdkbjaaDoorGnA
set_option linter.unusedSimpArgs false
set_option linter.unusedVariables false
attribute [local go_sem ↓] Go.wp_at_zero Go.wp_at_succ
namespace Go.Proofs.YtimccjmphdkbjaaDoor
open Go.ChangeShapes Go.WideShapes Go.ChangeAt Go.RowKit

/-- the ways of all pairs below a, and the first b of a's own -/
def kwTo (a b : Nat) : List Wy := kws a ++ (List.range b).map fun (j : Nat) => ⟨(a : Int), (j : Int), 0⟩
theorem kwTo_zero (a : Nat) : kwTo a 0 = kws a := by unfold kwTo; simp
theorem kwTo_step (a b : Nat) : kwTo a (b + 1) = kwTo a b ++ [⟨(a : Int), (b : Int), 0⟩] := by unfold kwTo; rw [List.range_succ, List.map_append, List.append_assoc]; rfl
theorem kwTo_row (a : Nat) : kwTo a a = kws (a + 1) := by
  unfold kwTo kws
  rw [List.range_succ, List.flatMap_append]
  simp
theorem kwTo_len {a b : Nat} (ha : a ≤ 5) (hb : b ≤ a) : (kwTo a b).length ≤ 20 := by
  unfold kwTo
  have h := kws_len ⟨a, by omega⟩
  simp only at h
  rw [List.length_append, h, List.length_map, List.length_range]
  rcases (by omega : a = 0 ∨ a = 1 ∨ a = 2 ∨ a = 3 ∨ a = 4 ∨ a = 5) with rfl | rfl | rfl | rfl | rfl | rfl <;> omega
theorem kws_many_ways {m : Nat} (h5 : 5 ≤ m) (h6 : m ≤ 6) : 9 < (kws m).length := by
  have h := kws_len ⟨m, by omega⟩
  simp only at h
  rcases (by omega : m = 5 ∨ m = 6) with rfl | rfl <;> (rw [h]; decide)
theorem kws_few_ways {m : Nat} (h4 : m ≤ 4) : (kws m).length ≤ 9 := by
  have h := kws_len ⟨m, by omega⟩
  simp only at h
  rcases (by omega : m = 0 ∨ m = 1 ∨ m = 2 ∨ m = 3 ∨ m = 4) with rfl | rfl | rfl | rfl | rfl <;> (rw [h]; decide)
set_option maxRecDepth 100000 in
set_option maxHeartbeats 8000000 in
theorem FnTreesMany_walk (A : Option Addr) (len cap : Nat) (w : World) (hr : RB w w.heap.size A len) (hc : len ≤ cap) (hlen : len ≤ 9223372036854775807) (hT : Tab w) :
    Calls Tryd.prog 6 #[.slice A len cap] w fun e w' => e = .returned (.bool true) ∧ Below w.heap.size w w' := by
  have HR := Lib.hid hr
  have HT := Lib.hid hT
  clear hr hT
  by_cases hm : 1048576 < len
  · go_enter Tryd.func6, Tryd.ntmps6
    go_wp2_with fail
    go_ret
    exact ⟨rfl, Below.refl _ _⟩
  · obtain ⟨i0, hi0, hz0, hz1', hz2⟩ := info_parts infoWy
    go_enter Tryd.func6, Tryd.ntmps6
    go_wp2_with fail
    refine (DrawTreesMany_any A len cap _ HR.out hc (by omega)).mono ?_
    rintro e wd ⟨n, rfl, hn0, hn9, hbd⟩
    have HBD := Lib.hid hbd
    clear hbd hm
    obtain ⟨m, rfl⟩ := Int.eq_ofNat_of_zero_le hn0
    by_cases hno : m < 2 ∨ 6 < m
    · have HZ : Hid (treesMany (m : Int) = -1) := by show _ = _; unfold treesMany; rw [if_neg (by omega)]
      go_wp2_with fail
      refine (TreesMany_any (m : Int) _).mono ?_; rintro e1 w1 ⟨rfl, hb1⟩; rw [HZ.out]
      have HB1 := Lib.hid (bstep (B := w.heap.size) (W := w) HBD.out HBD.out.size hb1)
      clear hb1
      go_wp2_with fail
      refine (sTreesMany_any (m : Int) _).mono ?_; rintro e2 w2 ⟨rfl, rfl⟩; rw [HZ.out]
      rcases hno with h | h
      · have e1 : (m : Int) < 2 := by omega
        clear h
        go_wp2_with fail
        refine (alive_any _).mono ?_; rintro e8 w8 ⟨rfl, hb8⟩
        have HB8 := Lib.hid (bstep (B := w.heap.size) (W := w) HB1.out HB1.out.size hb8)
        clear hb8
        go_wp2_with fail
        go_ret
        exact ⟨rfl, HB8.out⟩
      · have e1 : ¬ (m : Int) < 2 := by omega
        have e2 : (6 : Int) < (m : Int) := by omega
        clear h
        go_wp2_with fail
        refine (alive_any _).mono ?_; rintro e8 w8 ⟨rfl, hb8⟩
        have HB8 := Lib.hid (bstep (B := w.heap.size) (W := w) HB1.out HB1.out.size hb8)
        clear hb8
        go_wp2_with fail
        go_ret
        exact ⟨rfl, HB8.out⟩
    · have h2 : 2 ≤ m := by omega
      have h6 : m ≤ 6 := by omega
      obtain ⟨q, hq⟩ : ∃ q, m = q + 2 := ⟨m - 2, by omega⟩
      have HQ := Lib.hid hq
      have HZ : Hid (treesMany (m : Int) = (m : Int) ^ q) := by show _ = _; unfold treesMany; rw [if_pos (by omega), hq]; congr 1; omega
      have HMY : Hid (m ≤ 4 → manyOf (m : Int) (kws m) = (m : Int) ^ q) := fun h => by rw [kws_trees h2 h, hq]; congr 1
      have HPB : Hid (∀ k : Nat, k ≤ 4 → 1 ≤ (m : Int) ^ k ∧ (m : Int) ^ k ≤ 1296) := pow_bd6 (by omega) (by omega)
      have e1 : ¬ (m : Int) < 2 := by omega
      have e2 : ¬ (6 : Int) < (m : Int) := by omega
      clear hno hq
      go_wp2_with fail
      refine (TreesMany_any (m : Int) _).mono ?_; rintro e1 w1 ⟨rfl, hb1⟩; rw [HZ.out]
      have HB1 := Lib.hid (bstep (B := w.heap.size) (W := w) HBD.out HBD.out.size hb1)
      clear hb1
      obtain ⟨Z, hZe⟩ : ∃ Z, (m : Int) ^ q = Z := ⟨_, rfl⟩
      have HZE := Lib.hid hZe
      rw [hZe] at HZ HMY ⊢
      clear hZe
      go_wp2_with fail
      refine (sTreesMany_any (m : Int) _).mono ?_; rintro e2 w2 ⟨rfl, rfl⟩; rw [HZ.out]
      have ST0 : Hid (BoxSt w1 (w1.alloc (.cells #[.int .i64 (m : Int), .slice none 0 0] 45)) w1.heap.size 45 47 (m : Int) (.slice none 0 0) (kwTo 0 0)) :=
        ⟨(Below.refl _ _).alloc (Nat.le_refl _) _, heap_alloc_new _ _, World.ownsRow_nil _ _ _ _⟩
      go_wp2_with fail
      clear e1 e2
      go_loopw [6] (fun i wr => ∃ (a : Nat) (v : Value), a ≤ m ∧ i = .int .i64 (a : Int) ∧ BoxSt w1 wr w1.heap.size 45 47 (m : Int) v (kwTo a 0)) (fun i _ => m - (intOf i).toNat)
      case atStart => exact ⟨0, _, Nat.zero_le _, rfl, ST0.out⟩
      case round =>
        clear ST0
        obtain ⟨a, v, ha, rfl, hst⟩ := hrel
        have ST := Lib.hid hst
        have ha0 : (0 : Int) ≤ (a : Int) := by omega
        clear hst
        by_cases hlt : a < m
        · have ha1 : (a : Int) < (m : Int) := by omega
          go_wp2_with fail
          go_loopw [7] (fun i wr => ∃ (b : Nat) (v : Value), b ≤ a ∧ i = .int .i64 (b : Int) ∧ BoxSt w1 wr w1.heap.size 45 47 (m : Int) v (kwTo a b)) (fun i _ => a - (intOf i).toNat)
          case atStart => exact ⟨0, _, Nat.zero_le _, rfl, ST.out⟩
          case round =>
            clear ST
            obtain ⟨b, v, hb, rfl, hst⟩ := hrel
            have ST := Lib.hid hst
            obtain ⟨b0, b1, bf⟩ := hst.cells
            have hlt0 := hst.lt
            have hgl := kwTo_len (show a ≤ 5 by omega) hb
            have hb0 : (0 : Int) ≤ (b : Int) := by omega
            clear hst
            by_cases hbl : b < a
            · have hb1 : (b : Int) < (a : Int) := by omega
              obtain ⟨L, hL⟩ : ∃ L, kwTo a b = L := ⟨_, rfl⟩
              have HST : Hid (kwTo a (b + 1) = L ++ [⟨(a : Int), (b : Int), 0⟩]) := by show _ = _; rw [kwTo_step, hL]
              rw [hL] at ST hgl
              clear hL
              go_wp2_with (at_builtin; refine wpList_append_lies _ rfl _ _ _ rfl (w1.heap.size + 1) 47 i0 _ 3 24 Tryd.underlying43 hi0 hz0 hz1' hz2 rfl (by decide) v _ (wyCells L) rfl (World.ownsRow.alloc ST.out.own _) ⟨wr.heap.size, 0, none⟩ 1 1 [.int .i64 (a : Int), .int .i64 (b : Int), .int .i64 0] rfl rfl (World.news_of_block (cs := #[.int .i64 (a : Int), .int .i64 (b : Int), .int .i64 0]) (t := 47) (fr := (0, 0)) (heap_alloc_new _ _)) (by simp [Value.oneCell']) (by omega) (by unfold maxLen; omega) (by omega) (by (simp; omega)) (wr.heap.size + 1) (by simp) ?_; intro gg cc w5 hown5 hgrow5 hat5 hlt5; have hlow5 := ST.out.app_low hgrow5; obtain ⟨cc5, cf5⟩ := ST.out.app_cells hgrow5; have S5 := Lib.hid (BoxSt.append ST.out ⟨(a : Int), (b : Int), 0⟩ hown5 hgrow5); clear hown5 hgrow5 hat5 hlt5 hlow5)
              (try go_wp2_with fail)
              go_roundw
              case rel => exact ⟨b + 1, _, by omega, by go_num, by rw [HST.out]; have h9 := S5.out; first | exact h9 | simpa only [List.length_append, List.length_cons, List.length_nil, Nat.zero_add] using h9⟩
              case measure => (simp [intOf]) <;> omega
            · obtain rfl : b = a := by omega
              have HN : Hid (BoxSt w1 wr w1.heap.size 45 47 (m : Int) v (kwTo (b + 1) 0)) := by show BoxSt _ _ _ _ _ _ _ _; rw [kwTo_zero, ← kwTo_row]; exact ST.out
              go_wp2_with fail
              go_roundw
              case rel => exact ⟨b + 1, _, by omega, by go_num, HN.out⟩
              case measure => (simp [intOf]) <;> omega
        · obtain rfl : a = m := by omega
          have hst := ST.out
          rw [kwTo_zero] at hst
          obtain ⟨A1, c9, rfl⟩ := hst.form
          obtain ⟨b0, b1, -⟩ := hst.cells
          have HRW := Lib.hid hst.rw
          have HBX := Lib.hid (bstep (B := w.heap.size) (W := w) HB1.out HB1.out.size hst.low)
          have hzx : w1.heap.size < wr.heap.size := hst.lt
          clear hst ST
          go_wp2_with fail
          go_loopw [8, 9] (fun c i w9 => ∃ k : Nat, k ≤ q ∧ i = .int .i64 ((k : Int) + 2) ∧ c = .int .i64 ((a : Int) ^ k) ∧ w9 = wr) (fun _ i _ => q + 2 - (intOf i).toNat)
          case atStart => exact ⟨0, Nat.zero_le _, rfl, by rw [Int.pow_zero], rfl⟩
          case round =>
            obtain ⟨k, hk, hi2, hc2, rfl⟩ := hrel
            have hq2 := HQ.out
            have hpb := HPB.out k (by omega)
            obtain ⟨Y, hY⟩ : ∃ Y, (a : Int) ^ k = Y := ⟨_, rfl⟩
            rw [hY] at hc2
            subst hi2
            subst hc2
            have HYE := Lib.hid hY
            clear hY
            have HS : Hid ((a : Int) ^ k * (a : Int) = (a : Int) ^ (k + 1)) := (Int.pow_succ _ k).symm
            by_cases hlt2 : k < q
            · have h1 := (HPB.out (k + 1) (by omega)).2
              have h0 := (HPB.out (k + 1) (by omega)).1
              rw [← HS.out] at h1 h0
              have hkn : (k : Int) + 2 < (a : Int) := by omega
              have HW1 : Hid (IntKind.i64.wrap ((a : Int) ^ k * (a : Int)) = (a : Int) ^ k * (a : Int)) := IntWalk.i64_in _ ⟨by omega, by omega⟩
              have HW2 : Hid (wrap64 ((a : Int) ^ k * (a : Int)) = (a : Int) ^ k * (a : Int)) := IntWalk.wrap64_in _ ⟨by omega, by omega⟩
              rw [HYE.out] at HW1 HW2 HS
              clear hpb h1 h0 hq2
              have hw1 := HW1.out
              have hw2 := HW2.out
              go_wp2_with fail
              clear hw1 hw2
              go_roundw
              case rel => exact ⟨k + 1, by omega, by go_num, by rw [← HS.out], by first | rfl | trivial⟩
              case measure => (simp [intOf]) <;> omega
            · obtain rfl : k = q := by omega
              have hkn : ¬ (k : Int) + 2 < (a : Int) := by omega
              have HYZ : Hid (Y = Z) := HYE.out.symm.trans HZE.out
              clear hpb
              by_cases h4 : a ≤ 4
              · have hl9 : ¬ (9 : Int) < ((kws a).length : Int) := by have := kws_few_ways h4; omega
                have HSP : Hid (∀ W : World, RW W W.heap.size A1 (kws a) → Tab W → Calls Tryd.prog 25 #[.agg #[.int .i64 (a : Int), .slice A1 (kws a).length c9]] W fun e w' => e = .returned (.int .i64 Z) ∧ Below W.heap.size W w') := fun W h1 h3 => by
                  have h9 := SpanMany_any (a : Int) A1 c9 (kws a) W h1 h3
                  rw [HMY.out h4] at h9
                  exact h9
                clear hq2 h4
                have hyz := HYZ.out
                subst hyz
                go_wp2_with fail
                refine (HSP.out _ HRW.out (HT.out.later HBX.out)).mono ?_; rintro e8 w8 ⟨rfl, hb8⟩
                have HB8 := Lib.hid (bstep (B := w.heap.size) (W := w) HBX.out HBX.out.size hb8)
                clear hb8
                go_wp2_with fail
                refine (alive_any _).mono ?_; rintro e9 w9 ⟨rfl, hb9⟩
                have HB9 := Lib.hid (bstep (B := w.heap.size) (W := w) HB8.out HB8.out.size hb9)
                clear hb9
                go_wp2_with fail
                go_ret
                exact ⟨rfl, HB9.out⟩
              · have hl9 : (9 : Int) < ((kws a).length : Int) := by have := kws_many_ways (show 5 ≤ a by omega) h6; omega
                clear hq2 h4
                have hyz := HYZ.out
                subst hyz
                go_wp2_with fail
                refine (alive_any _).mono ?_; rintro e9 w9 ⟨rfl, hb9⟩
                have HB9 := Lib.hid (bstep (B := w.heap.size) (W := w) HBX.out HBX.out.size hb9)
                clear hb9
                go_wp2_with fail
                go_ret
                exact ⟨rfl, HB9.out⟩
end Go.Proofs.YtimccjmphdkbjaaDoor
