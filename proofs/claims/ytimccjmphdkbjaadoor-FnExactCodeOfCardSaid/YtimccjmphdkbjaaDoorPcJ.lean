/- The program's codes of trees: sizes, CodeOk, TreesMany; the least leaf, counts; pairs compared. The program's codes of trees: slices.Repeat, the counts of a code; pairs compared. The program's codes of trees: copies of numbers, pairs sorted, TreeOfCode. -/
import Derived.Test.YtimccjmphdkbjaaDoorPcP
import Derived.Test.YtimccjmphdkbjaaDoorPdB
import Derived.Shelf.SlicesG.Cmp
import Derived.Shelf.SlSortCmp.SmallK
import Derived.Test.YtimccjmphdkbjaaDoorCuA
set_option linter.unusedSimpArgs false
set_option linter.unusedVariables false
attribute [local go_sem ↓] Go.wp_at_zero Go.wp_at_succ
namespace Go.Proofs.YtimccjmphdkbjaaDoor
open Go.ChangeShapes Go.WideShapes Go.ChangeAt Go.RowKit

theorem treeSizeOk_any (n : Int) (w : World) : Calls Tryd.prog 35 #[.int .i64 n] w fun e w' => e = .returned (.bool (inB n 2 6)) ∧ w = w' := by
  by_cases h2 : 2 ≤ n
  · by_cases h6 : n ≤ 6
    · have e : inB n 2 6 = true := by unfold inB; simp [h2, h6]
      have E := Lib.hid e
      clear e
      go_enter Tryd.func35, Tryd.ntmps35
      go_wp2_with fail
      go_ret
      exact ⟨ret_bool E.out.symm, rfl⟩
    · have e : inB n 2 6 = false := by unfold inB; simp [h2, h6]
      have E := Lib.hid e
      clear e
      go_enter Tryd.func35, Tryd.ntmps35
      go_wp2_with fail
      go_ret
      exact ⟨ret_bool E.out.symm, rfl⟩
  · have e : inB n 2 6 = false := by unfold inB; simp [h2]
    have E := Lib.hid e
    clear e
    go_enter Tryd.func35, Tryd.ntmps35
    go_wp2_with fail
    go_ret
    exact ⟨ret_bool E.out.symm, rfl⟩
set_option maxHeartbeats 1000000 in
theorem TreesMany_any (n : Int) (w : World) :
    Calls Tryd.prog 23 #[.int .i64 n] w fun en w' => en = .returned (.int .i64 (treesMany n)) ∧ Below w.heap.size w w' := by
  unfold treesMany
  cases hin : inB n 2 6
  · have HIN := Lib.hid hin
    rw [if_neg (by rintro ⟨a, b⟩; unfold inB at hin; simp at hin; omega)]
    clear hin
    go_enter Tryd.func23, Tryd.ntmps23
    go_wp2_with fail
    refine (treeSizeOk_any n _).mono ?_; rintro e2 w2 ⟨rfl, rfl⟩; rw [HIN.out]
    go_wp2_with fail
    go_ret
    exact ⟨rfl, Below.refl _ _⟩
  · have HIN := Lib.hid hin
    obtain ⟨n2, n6⟩ := inB_t hin
    rw [if_pos ⟨n2, n6⟩]
    have HPB := Lib.hid (pow_bd6 n2 n6)
    obtain ⟨m, hm⟩ : ∃ m : Nat, (n - 2).toNat = m := ⟨_, rfl⟩
    have hmn : n - 2 = (m : Int) := by omega
    have HMN := Lib.hid hmn
    have hm4 : m ≤ 4 := by omega
    have HWa : Hid (IntKind.i64.wrap (n - 2) = (m : Int)) := (IntWalk.i64_in _ ⟨by omega, by omega⟩).trans hmn
    have HWb : Hid (wrap64 (n - 2) = (m : Int)) := (IntWalk.wrap64_in _ ⟨by omega, by omega⟩).trans hmn
    rw [hm]
    clear hin hm hmn
    have hwa := HWa.out
    have hwb := HWb.out
    go_enter Tryd.func23, Tryd.ntmps23
    go_wp2_with fail
    refine (treeSizeOk_any n _).mono ?_; rintro e2 w2 ⟨rfl, rfl⟩; rw [HIN.out]
    go_wp2_with fail
    clear hwa hwb
    go_loopw [3, 9] (fun c i wr => ∃ k : Nat, k ≤ m ∧ i = .int .i64 (k : Int) ∧ c = .int .i64 (n ^ k) ∧ w = wr) (fun _ i _ => m - (intOf i).toNat)
    case atStart => exact ⟨0, Nat.zero_le _, rfl, by rw [Int.pow_zero], rfl⟩
    case round =>
      obtain ⟨k, hk, hi2, hc2, rfl⟩ := hrel
      have hpb := HPB.out k (by omega)
      obtain ⟨Y, hY⟩ : ∃ Y, n ^ k = Y := ⟨_, rfl⟩
      rw [hY] at hc2
      subst hi2
      subst hc2
      have HYE := Lib.hid hY
      clear hY
      have HS : Hid (n ^ k * n = n ^ (k + 1)) := (Int.pow_succ n k).symm
      have hps : k < m → n ^ (k + 1) ≤ 1296 := fun h => (HPB.out (k + 1) (by omega)).2
      have hps0 : k < m → 1 ≤ n ^ (k + 1) := fun h => (HPB.out (k + 1) (by omega)).1
      rw [← HS.out] at hps hps0
      by_cases hlt : k < m
      · have h1 := hps hlt
        have h2 := hps0 hlt
        have hkn : (k : Int) < (m : Int) := by omega
        have HW1 : Hid (IntKind.i64.wrap (n ^ k * n) = n ^ k * n) := IntWalk.i64_in _ ⟨by omega, by omega⟩
        have HW2 : Hid (wrap64 (n ^ k * n) = n ^ k * n) := IntWalk.wrap64_in _ ⟨by omega, by omega⟩
        rw [HYE.out] at HW1 HW2 HS
        clear hpb hps hps0 h1 h2
        have hw1 := HW1.out
        have hw2 := HW2.out
        go_wp2_with fail
        clear hw1 hw2
        go_roundw
        case rel => exact ⟨k + 1, by omega, by go_num, by rw [← HS.out], by first | rfl | trivial⟩
        case measure => (simp [intOf]) <;> omega
      · obtain rfl : k = m := by omega
        have hkn : ¬ (k : Int) < (k : Int) := by omega
        clear hpb hps hps0
        go_wp2_with fail
        go_ret
        exact ⟨ret_int HYE.out.symm, Below.refl _ _⟩
theorem codeOk_out {n : Int} {c : List Int} (h : inB n 2 6 = false) : codeOk n c = false := by rw [codeOk_is, h]; simp
theorem codeOk_len {n : Int} {c : List Int} (h : (c.length : Int) ≠ n - 2) : codeOk n c = false := by rw [codeOk_is, decide_eq_false h]; simp
set_option maxHeartbeats 2000000 in
theorem CodeOk_any (n : Int) (Ar : Option Addr) (cr : Nat) (c : List Int) (w : World) (hi : RI w w.heap.size Ar c) (hlm : c.length ≤ 1073741824) :
    Calls Tryd.prog 18 #[.int .i64 n, .slice Ar c.length cr] w fun en w' => en = .returned (.bool (codeOk n c)) ∧ Below w.heap.size w w' := by
  have HI := Lib.hid hi
  clear hi
  cases hin : inB n 2 6
  · have HIN := Lib.hid hin
    rw [codeOk_out hin]
    clear hin
    go_enter Tryd.func18, Tryd.ntmps18
    go_wp2_with fail
    refine (treeSizeOk_any n _).mono ?_; rintro e2 w2 ⟨rfl, rfl⟩; rw [HIN.out]
    go_wp2_with fail
    go_ret
    exact ⟨rfl, Below.refl _ _⟩
  · have HIN := Lib.hid hin
    obtain ⟨n2, n6⟩ := inB_t hin
    have HW1 : Hid (IntKind.i64.wrap (n - 2) = n - 2) := IntWalk.i64_in _ ⟨by omega, by omega⟩
    have HW2 : Hid (wrap64 (n - 2) = n - 2) := IntWalk.wrap64_in _ ⟨by omega, by omega⟩
    by_cases hln : (c.length : Int) = n - 2
    · obtain ⟨an, han⟩ : ∃ a, codeOk n c = a := ⟨_, rfl⟩
      have HF : Hid (c.all (inP n) = false → an = false) := fun h => by rw [← han, codeOk_is, h]; rfl
      have HT : Hid (c.all (inP n) = true → an = true) := fun h => by rw [← han, codeOk_is, h, hin, decide_eq_true hln]; rfl
      rw [han]
      have hbn : ((c.length : Int) != n - 2) = false := by rw [bne_eq_false_iff_eq]; exact hln
      clear han hin hln
      have hw1 := HW1.out
      have hw2 := HW2.out
      go_enter Tryd.func18, Tryd.ntmps18
      go_wp2_with fail
      refine (treeSizeOk_any n _).mono ?_; rintro e2 w2 ⟨rfl, rfl⟩; rw [HIN.out]
      go_wp2_with fail
      clear hw1 hw2 hbn
      go_loopw [19] (fun i wr => ∃ k : Nat, k ≤ c.length ∧ i = .int .i64 k ∧ (c.take k).all (inP n) = true ∧ w = wr) (fun i _ => c.length - (intOf i).toNat)
      case atStart => exact ⟨0, Nat.zero_le _, rfl, rfl, rfl⟩
      case round =>
        obtain ⟨k, hk, rfl, hall, rfl⟩ := hrel
        have hk0 : (0 : Int) ≤ (k : Int) := by omega
        by_cases hlk : k < c.length
        · have hk1 : (k : Int) < (c.length : Int) := by omega
          obtain ⟨b, o, rfl, hb, qk⟩ := HI.out.at_ hlk
          have HTK := Lib.hid (inP_take (n := n) hlk)
          have HFA : Hid (inP n (c.getD k 0) = false → c.all (inP n) = false) := inP_false hlk
          rw [hall, Bool.true_and] at HTK
          obtain ⟨x, hx⟩ : ∃ x, c.getD k 0 = x := ⟨_, rfl⟩
          rw [hx] at qk HTK HFA
          clear hx
          by_cases h0 : x < 0
          · have HFF : Hid (an = false) := HF.out (HFA.out (by unfold inP; rw [decide_eq_false (by omega : ¬ 0 ≤ x)]; rfl))
            clear HTK HFA hall
            go_wp2_with fail
            go_ret
            exact ⟨ret_bool HFF.out.symm, Below.refl _ _⟩
          · by_cases h1 : n ≤ x
            · have HFF : Hid (an = false) := HF.out (HFA.out (by unfold inP; rw [decide_eq_false (by omega : ¬ x < n)]; simp))
              clear HTK HFA hall
              go_wp2_with fail
              go_ret
              exact ⟨ret_bool HFF.out.symm, Below.refl _ _⟩
            · have HT1 : Hid ((c.take (k + 1)).all (inP n) = true) := by show _ = _; rw [HTK.out]; unfold inP; rw [decide_eq_true (by omega : 0 ≤ x), decide_eq_true (by omega : x < n)]; rfl
              clear HTK HFA hall
              go_wp2_with fail
              go_roundw
              case rel => exact ⟨k + 1, by omega, by go_num, HT1.out, by first | rfl | trivial⟩
              case measure => (simp [intOf]) <;> omega
        · obtain rfl : k = c.length := by omega
          rw [List.take_length] at hall
          have HAT := Lib.hid (HT.out hall)
          clear hall
          go_wp2_with fail
          go_ret
          exact ⟨ret_bool HAT.out.symm, Below.refl _ _⟩
    · rw [codeOk_len hln]
      have hbn : ((c.length : Int) != n - 2) = true := by rw [bne_iff_ne]; exact hln
      clear hin
      have hw1 := HW1.out
      have hw2 := HW2.out
      go_enter Tryd.func18, Tryd.ntmps18
      go_wp2_with fail
      refine (treeSizeOk_any n _).mono ?_; rintro e2 w2 ⟨rfl, rfl⟩; rw [HIN.out]
      go_wp2_with fail
      go_ret
      exact ⟨rfl, Below.refl _ _⟩
set_option maxHeartbeats 1000000 in
theorem index1_any (b m cp lf : Nat) (f : Int → Int) (w : World) (hrow : RowG w b 3 m (fun i => f (i : Int))) (hm : m ≤ 6) (hl : lf < m) (hb : ∀ j : Nat, j < lf → f j ≠ 1) (h1 : f lf = 1) :
    Calls Tryd.prog 65 #[.slice (some ⟨b, 0, none⟩) m cp, .int .i64 1] w fun e w' => e = .returned (.int .i64 lf) ∧ w = w' := by
  have HR := Lib.hid hrow
  have HB := Lib.hid hb
  have H1 := Lib.hid h1
  clear hrow hb h1
  go_enter Tryd.func65, Tryd.ntmps65
  go_wp2_with fail
  go_loopw [8] (fun i wr => ∃ k : Nat, k ≤ lf ∧ i = .int .i64 k ∧ w = wr) (fun i _ => lf - (intOf i).toNat)
  case atStart => exact ⟨0, Nat.zero_le _, rfl, rfl⟩
  case round =>
    obtain ⟨k, hk, rfl, rfl⟩ := hrel
    have hk0 : (0 : Int) ≤ (k : Int) := by omega
    have hk1 : (k : Int) < (m : Int) := by omega
    have c0 := HR.out.cell (show k < m by omega)
    by_cases hlk : k < lf
    · have hne := HB.out k hlk
      obtain ⟨x, hx⟩ : ∃ x, f k = x := ⟨_, rfl⟩
      rw [hx] at c0 hne
      have hb1 : ((1 : Int) == x) = false := by rw [beq_eq_false_iff_ne]; exact fun e => hne e.symm
      clear hx hne
      go_wp2_with fail
      go_roundw
      case rel => exact ⟨k + 1, by omega, by go_num, by first | rfl | trivial⟩
      case measure => (simp [intOf]) <;> omega
    · obtain rfl : k = lf := by omega
      rw [H1.out] at c0
      go_wp2_with fail
      go_ret
      exact ⟨rfl, rfl⟩
theorem leastLeaf_any (b m cp lf : Nat) (f : Int → Int) (w : World) (hrow : RowG w b 3 m (fun i => f (i : Int))) (hm : m ≤ 6) (hlf : leafOf m f = lf) (hl : lf < m) :
    Calls Tryd.prog 42 #[.slice (some ⟨b, 0, none⟩) m cp] w fun e w' => e = .returned (.int .i64 lf) ∧ w = w' := by
  obtain ⟨h1, h2⟩ := leafOf_at hlf hl
  have HI := Lib.hid (index1_any b m cp lf f w hrow hm hl h1 h2)
  clear hrow h1 h2 hlf
  go_enter Tryd.func42, Tryd.ntmps42
  go_wp2_with (go_at_call 65; refine HI.out.mono ?_; rintro e2 w2 ⟨rfl, rfl⟩)
  go_ret
  exact ⟨rfl, rfl⟩
end Go.Proofs.YtimccjmphdkbjaaDoor
namespace Go.Proofs.YtimccjmphdkbjaaDoor
open Go.ChangeShapes Go.WideShapes Go.ChangeAt Go.RowKit

theorem wp_copy_cells {P : Program} {w : World} {o : Oper} {a : Act} {K : Act → World → Prop} {Q : Exit → Act → World → Prop} (d s : Operand) (dT sT : TypeId)
    (ho : o.op = .call { callee := .builtin .copy, args := #[d, s], argTypes := #[dT, sT] }) (elem : TypeId) (hu : P.underlying dT = some (.slice elem)) (hsz : (P.info? elem).map (·.size) = some 1)
    (b off dLen dCap : Nat) (ad : Addr) (sLen sCap : Nat) (hd : a.eval d = .slice (some ⟨b, off, none⟩) dLen dCap) (hs : a.eval s = .slice (some ad) sLen sCap)
    (cs : List Value) (hn : cs.length = Nat.min sLen dLen) (hsrc : ∀ j v, cs[j]? = some v → w.cell? (ad.add j) = some v)
    (hc : ∀ j, j < cs.length → (w.cell? ⟨b, off + j, none⟩).isSome = true) (hf : ∀ j, j < cs.length → w.frozen? ⟨b, off + j, none⟩ = false) (h1 : ∀ v ∈ cs, v.oneCell' = true)
    (h : K (a.put o.dst (goInt cs.length)) (w.setCells b off cs)) : Oper.wp P o a w K Q := by
  have hrun := run_copy_cells (P := P) w dT sT o.type elem b off dLen dCap ad sLen sCap cs hu hsz hn hsrc hc hf h1
  unfold Oper.wp
  simp [execOp, ho, resolve, invoke, builtin, hd, hs, hrun, Result.andThen]
  exact h
theorem wpList_copy_cells {P : Program} {w : World} {ops : Array Oper} {rest : List Oper} {o : Oper} {a : Act} {Q : Exit → Act → World → Prop} (hgd : o.guard = none) (d s : Operand) (dT sT : TypeId)
    (ho : o.op = .call { callee := .builtin .copy, args := #[d, s], argTypes := #[dT, sT] }) (elem : TypeId) (hu : P.underlying dT = some (.slice elem)) (hsz : (P.info? elem).map (·.size) = some 1)
    (b off dLen dCap : Nat) (ad : Addr) (sLen sCap : Nat) (hd : a.eval d = .slice (some ⟨b, off, none⟩) dLen dCap) (hs : a.eval s = .slice (some ad) sLen sCap)
    (cs : List Value) (hn : cs.length = Nat.min sLen dLen) (hsrc : ∀ j v, cs[j]? = some v → w.cell? (ad.add j) = some v)
    (hc : ∀ j, j < cs.length → (w.cell? ⟨b, off + j, none⟩).isSome = true) (hf : ∀ j, j < cs.length → w.frozen? ⟨b, off + j, none⟩ = false) (h1 : ∀ v ∈ cs, v.oneCell' = true)
    (h : wpList P ops Q rest (a.put o.dst (goInt cs.length)) (w.setCells b off cs)) : wpList P ops Q (o :: rest) a w :=
  wpList_plain hgd fun _ hK => wp_copy_cells d s dT sT ho elem hu hsz b off dLen dCap ad sLen sCap hd hs cs hn hsrc hc hf h1 (hK _ _ h)
theorem step_copy_cells {P : Program} {ops : Array Oper} {o : Oper} {a : Act} {w : World} {K : Act → World → Prop} {Q : Exit → Act → World → Prop} {E : Prop} (hgd : o.guard = none) (d s : Operand) (dT sT : TypeId)
    (ho : o.op = .call { callee := .builtin .copy, args := #[d, s], argTypes := #[dT, sT] }) (elem : TypeId) (hu : P.underlying dT = some (.slice elem)) (hsz : (P.info? elem).map (·.size) = some 1)
    (b off dLen dCap : Nat) (ad : Addr) (sLen sCap : Nat) (hd : a.eval d = .slice (some ⟨b, off, none⟩) dLen dCap) (hs : a.eval s = .slice (some ad) sLen sCap)
    (cs : List Value) (hn : cs.length = Nat.min sLen dLen) (hsrc : ∀ j v, cs[j]? = some v → w.cell? (ad.add j) = some v)
    (hc : ∀ j, j < cs.length → (w.cell? ⟨b, off + j, none⟩).isSome = true) (hf : ∀ j, j < cs.length → w.frozen? ⟨b, off + j, none⟩ = false) (h1 : ∀ v ∈ cs, v.oneCell' = true)
    (h : K (a.put o.dst (goInt cs.length)) (w.setCells b off cs)) : if Region.wanted o (yielded ops a.tmps) = true then Oper.wp P o a w K Q else E := by
  have hw : Region.wanted o (yielded ops a.tmps) = true := by simp [Region.wanted, hgd]
  rw [if_pos hw]
  exact wp_copy_cells d s dT sT ho elem hu hsz b off dLen dCap ad sLen sCap hd hs cs hn hsrc hc hf h1 h
/-- so many ones -/
theorem RowG.fill {b m : Nat} {t : TypeId} (x : Int) : ∀ (c k : Nat) {w : World} {f : Nat → Int}, RowG w b t m f → k + c ≤ m → RowG (w.setCells b k (List.replicate c (.int .i64 x))) b t m (fun i => if k ≤ i ∧ i < k + c then x else f i)
  | 0, k, w, f, h, _ => h.congr fun i hi => by rw [if_neg (by omega)]
  | c + 1, k, w, f, h, hk => by
    rw [List.replicate_succ, World.setCells]
    refine (RowG.fill x c (k + 1) (h.put (show k < m by omega) x) (by omega)).congr fun i hi => ?_
    by_cases e : i = k
    · subst e
      rw [if_neg (by omega), if_pos rfl, if_pos (by omega)]
    · rw [if_neg e]
      by_cases e2 : k + 1 ≤ i ∧ i < k + 1 + c
      · rw [if_pos e2, if_pos (by omega)]
      · rw [if_neg e2, if_neg (by omega)]
theorem below_cells {B b : Nat} (hB : B ≤ b) : ∀ (vs : List Value) (k : Nat) {w0 w : World}, Below B w0 w → Below B w0 (w.setCells b k vs)
  | [], _, _, _, h => h
  | v :: vs, k, w0, w, h => by
    rw [World.setCells]
    exact below_cells hB vs (k + 1) (h.setCell (p := ⟨b, k, none⟩) hB v)
theorem rep_at {c : Nat} {v u : Value} {j : Nat} (h : (List.replicate c v)[j]? = some u) : j < c ∧ u = v := by
  obtain ⟨hl, he⟩ := List.getElem?_eq_some_iff.1 h
  rw [List.length_replicate] at hl
  rw [List.getElem_replicate] at he
  exact ⟨hl, he.symm⟩
theorem infoI : (Tryd.prog.info? 3).map (·.size) = some 1 := by kernel_rfl
set_option maxHeartbeats 1000000 in
theorem mul64_any (m : Nat) (h2 : 2 ≤ m) (h6 : m ≤ 6) (w : World) : Calls Tryd.prog 95 #[.int .u64 1, .int .u64 m] w fun e w' => e = .returned (.tuple #[.int .u64 0, .int .u64 m]) ∧ w = w' := by
  rcases (by omega : m = 2 ∨ m = 3 ∨ m = 4 ∨ m = 5 ∨ m = 6) with rfl | rfl | rfl | rfl | rfl
  all_goals
    go_enter Tryd.func95, Tryd.ntmps95
    go_wp2_with fail
    go_ret2
    exact ⟨by kernel_rfl, rfl⟩
set_option maxHeartbeats 1000000 in
theorem mul_any (m : Nat) (h2 : 2 ≤ m) (h6 : m ≤ 6) (w : World) : Calls Tryd.prog 77 #[.int .u64 1, .int .u64 m] w fun e w' => e = .returned (.tuple #[.int .u64 0, .int .u64 m]) ∧ w = w' := by
  have hm := fun W => mul64_any m h2 h6 W
  go_enter Tryd.func77, Tryd.ntmps77
  go_wp2_with (go_at_call 95; refine (hm _).mono ?_; rintro e2 w2 ⟨rfl, rfl⟩)
  go_ret2
  exact ⟨rfl, rfl⟩
set_option maxRecDepth 100000 in
set_option maxHeartbeats 2000000 in
theorem repeat_any (b : Nat) (m : Nat) (h2 : 2 ≤ m) (h6 : m ≤ 6) (w : World) (hb : b < w.heap.size) (hc : w.cell? ⟨b, 0, none⟩ = some (.int .i64 1)) :
    Calls Tryd.prog 67 #[.slice (some ⟨b, 0, none⟩) 1 1, .int .i64 m] w fun e w' => e = .returned (.slice (some ⟨w.heap.size, 0, none⟩) m m) ∧ RowG w' w.heap.size 3 m (fun _ => 1) ∧ Below w.heap.size w w' := by
  have HC : Hid ((w.alloc (.cells (Array.replicate m (.int .i64 0)) 3)).cell? ⟨b, 0, none⟩ = some (.int .i64 1)) := (World.cell?_alloc_lt _ _ _ hb).trans hc
  have hmk := fun W => mkInts' W m h6
  have hmu := fun W => mul_any m h2 h6 W
  have hszI := infoI
  have HR0 : Hid (RowG (w.alloc (.cells (Array.replicate m (.int .i64 0)) 3)) w.heap.size 3 m (fun _ => 0)) := RowG.made w _ m
  have hm0 : ¬ (m : Int) < 0 := by omega
  have hm1 : decide ((9223372036854775807 : Int) < (m : Int)) = false := decide_eq_false (by omega)
  have e1 : IntKind.u64.wrap (m : Int) = (m : Int) := by rw [IntKind.wrap_u64]; omega
  have e2 : IntKind.i64.wrap (m : Int) = (m : Int) := by rw [IntKind.wrap_i64]; omega
  have HR1 : Hid (RowG ((w.alloc (.cells (Array.replicate m (.int .i64 0)) 3)).setCells w.heap.size 0 [.int .i64 1]) w.heap.size 3 m (fun i => if i < 1 then 1 else 0)) :=
    (RowG.fill 1 1 0 HR0.out (by omega)).congr fun i hi => by by_cases e : i < 1 <;> simp [e] <;> omega
  have HB1 : Hid (Below w.heap.size w ((w.alloc (.cells (Array.replicate m (.int .i64 0)) 3)).setCells w.heap.size 0 [.int .i64 1])) := below_cells (Nat.le_refl _) _ _ ((Below.refl _ _).alloc (Nat.le_refl _) _)
  have D1 : Hid (∀ j, j < [Value.int .i64 1].length → ((w.alloc (.cells (Array.replicate m (.int .i64 0)) 3)).cell? ⟨w.heap.size, 0 + j, none⟩).isSome = true) := fun j hj => by
    simp at hj; subst hj; rw [HR0.out.cell (show 0 + 0 < m by omega)]; rfl
  have D2 : Hid (∀ j, j < [Value.int .i64 1].length → (w.alloc (.cells (Array.replicate m (.int .i64 0)) 3)).frozen? ⟨w.heap.size, 0 + j, none⟩ = false) := fun j hj => HR0.out.frozen _
  have D3 : Hid (∀ j v, [Value.int .i64 1][j]? = some v → (w.alloc (.cells (Array.replicate m (.int .i64 0)) 3)).cell? ((⟨b, 0, none⟩ : Addr).add j) = some v) := fun j v hv => by
    cases j with
    | zero => simp at hv; subst hv; exact HC.out
    | succ j => simp at hv
  obtain ⟨W1, hW1⟩ : ∃ W1, (w.alloc (.cells (Array.replicate m (.int .i64 0)) 3)).setCells w.heap.size 0 [.int .i64 1] = W1 := ⟨_, rfl⟩
  rw [hW1] at HR1 HB1
  have hcp : Sem.run Tryd.prog (Builtin.copy_ #[30, 30] 3 #[.slice (some ⟨w.heap.size, 0, none⟩) m m, .slice (some ⟨b, 0, none⟩) 1 1]) (w.alloc (.cells (Array.replicate m (.int .i64 0)) 3)) = .ok (.int .i64 1) W1 := by
    rw [← hW1]
    exact run_copy_cells _ _ _ _ 3 w.heap.size 0 m m ⟨b, 0, none⟩ 1 1 [.int .i64 1] Tryd.underlying30 hszI (by simp [Nat.min_def]; omega) D3.out D1.out D2.out (by simp [Value.oneCell'])
  clear hc hW1 D1 D2 D3
  go_enter Tryd.func67, Tryd.ntmps67
  go_wp2_with (go_at_call 77; refine (hmu _).mono ?_; rintro e3 w3 ⟨rfl, rfl⟩)
  clear HR0 HC hmk hmu e1 e2 hm1 hm0 hcp
  go_loopw [8] (fun i wr => ∃ k : Nat, 1 ≤ k ∧ k ≤ m ∧ i = .int .i64 k ∧ RowG wr w.heap.size 3 m (fun i => if i < k then 1 else 0) ∧ Below w.heap.size w wr) (fun i _ => m - (intOf i).toNat)
  case atStart => exact ⟨1, Nat.le_refl _, by omega, rfl, HR1.out, HB1.out⟩
  case round =>
    clear HR1 HB1
    obtain ⟨k, hk1, hk, rfl, hrow, hbl⟩ := hrel
    have HROW := Lib.hid hrow
    have HBL := Lib.hid hbl
    have hk0 : (0 : Int) ≤ (k : Int) := by omega
    clear hrow hbl
    by_cases hlt : k < m
    · have hkm : (k : Int) < (m : Int) := by omega
      have hkm2 : (k : Int) ≤ (m : Int) := by omega
      have hne : ¬ m = k := by omega
      have hle : k ≤ m := by omega
      obtain ⟨c, hcm⟩ : ∃ c, Nat.min k (m - k) = c := ⟨_, rfl⟩
      have HCM := Lib.hid hcm
      have hc1 : 1 ≤ c := by rw [← hcm]; exact Nat.le_min.2 ⟨by omega, by omega⟩
      have hc2 : c ≤ k := by rw [← hcm]; exact Nat.min_le_left _ _
      have hc3 : c ≤ m - k := by rw [← hcm]; exact Nat.min_le_right _ _
      have HSRC : Hid (∀ j v, (List.replicate c (Value.int .i64 1))[j]? = some v → wr.drew.cell? ((⟨w.heap.size, 0, none⟩ : Addr).add j) = some v) := fun j v hv => by
        obtain ⟨hj, rfl⟩ := rep_at hv
        rw [Addr.add_lit, Nat.zero_add]
        have h9 := HROW.out.cell (show j < m by omega)
        rw [if_pos (by omega)] at h9
        exact h9
      have HDST : Hid (∀ j, j < (List.replicate c (Value.int .i64 1)).length → (wr.drew.cell? ⟨w.heap.size, k + j, none⟩).isSome = true) := fun j hj => by
        rw [List.length_replicate] at hj
        have h9 := HROW.out.cell (show k + j < m by omega)
        show (wr.cell? _).isSome = true
        rw [h9]; rfl
      have HFZ : Hid (∀ j, j < (List.replicate c (Value.int .i64 1)).length → wr.drew.frozen? ⟨w.heap.size, k + j, none⟩ = false) := fun j hj => HROW.out.frozen _
      have HONE : Hid (∀ v ∈ List.replicate c (Value.int .i64 1), v.oneCell' = true) := fun v hv => by rw [List.eq_of_mem_replicate hv]; rfl
      have HR2 : Hid (RowG (wr.drew.setCells w.heap.size k (List.replicate c (.int .i64 1))) w.heap.size 3 m (fun i => if i < k + c then 1 else 0)) :=
        (RowG.fill 1 c k (w := wr.drew) (RowG.keep HROW.out rfl) (by omega)).congr fun i hi => by
          by_cases a1 : i < k
          · rw [if_neg (by omega), if_pos a1, if_pos (by omega)]
          · by_cases a2 : i < k + c
            · rw [if_pos (by omega), if_pos a2]
            · rw [if_neg (by omega), if_neg a1, if_neg a2]
      have HB2 : Hid (Below w.heap.size w (wr.drew.setCells w.heap.size k (List.replicate c (.int .i64 1)))) := below_cells (Nat.le_refl _) _ _ ⟨HBL.out.os, HBL.out.tape, HBL.out.output, HBL.out.size, HBL.out.block⟩
      have hw1 : IntKind.i64.wrap ((k : Int) + (c : Int)) = ((k + c : Nat) : Int) := by rw [IntKind.wrap_i64]; omega
      have hw2 : wrap64 ((k : Int) + (c : Int)) = ((k + c : Nat) : Int) := (IntWalk.wrap64_in _ ⟨by omega, by omega⟩).trans (by omega)
      have HLN : Hid ((List.replicate c (Value.int .i64 1)).length = c) := List.length_replicate
      clear hcm
      go_wp2_with fail
      refine wp_region_held_drew (S := (fun _ => True)) (by kernel_rfl) ?_ (fun hHeld => ?_)
      · exact trivial
      refine wpAnyH_take (i := 0) (v := ?_) rfl (by kernel_rfl) (by kernel_rfl) (by kernel_rfl) (fun _ _ _ h => h) (Or.inl ⟨by rfl, ?_⟩) (by assumption) ?_
      rotate_left
      · (intro w hSw; (try dsimp only at hSw); (try simp only [List.getElem_toArray, List.getElem_cons_succ, List.getElem_cons_zero]); first | (go_simp; done) | (go_simp; with_reducible rfl))
      try simp only [Act.put, List.getElem_toArray, List.getElem_cons_succ, List.getElem_cons_zero, List.setIfInBounds_toArray, List.set_cons_zero, List.set_cons_succ]
      refine wpAnyH_take (i := 1) (v := ?_) rfl (by kernel_rfl) (by kernel_rfl) (by kernel_rfl) (fun _ _ _ h => h) (Or.inl ⟨by rfl, ?_⟩) (by assumption) ?_
      rotate_left
      · (intro w hSw; (try dsimp only at hSw); (try simp only [List.getElem_toArray, List.getElem_cons_succ, List.getElem_cons_zero]); first | (go_simp; done) | (go_simp; with_reducible rfl))
      try simp only [Act.put, List.getElem_toArray, List.getElem_cons_succ, List.getElem_cons_zero, List.setIfInBounds_toArray, List.set_cons_zero, List.set_cons_succ]
      refine wpAnyH_take (i := 2) (v := ?_) rfl (by kernel_rfl) (by kernel_rfl) (by kernel_rfl) (fun _ _ _ h => h) (Or.inl ⟨by rfl, ?_⟩) (by assumption) ?_
      rotate_left
      · (intro w hSw; (try dsimp only at hSw); (try simp only [List.getElem_toArray, List.getElem_cons_succ, List.getElem_cons_zero]); first | (go_simp; done) | (go_simp; with_reducible rfl))
      try simp only [Act.put, List.getElem_toArray, List.getElem_cons_succ, List.getElem_cons_zero, List.setIfInBounds_toArray, List.set_cons_zero, List.set_cons_succ]
      refine wpAnyH_take (i := 3) (v := ?_) rfl (by kernel_rfl) (by kernel_rfl) (by kernel_rfl) (fun _ _ _ h => h) (Or.inl ⟨by rfl, ?_⟩) (by assumption) ?_
      rotate_left
      · (intro w hSw; (try dsimp only at hSw); (try simp only [List.getElem_toArray, List.getElem_cons_succ, List.getElem_cons_zero]); first | (go_simp; done) | (go_simp; with_reducible rfl))
      try simp only [Act.put, List.getElem_toArray, List.getElem_cons_succ, List.getElem_cons_zero, List.setIfInBounds_toArray, List.set_cons_zero, List.set_cons_succ]
      refine wpAnyH_take (i := 4) (v := ?_) rfl (by kernel_rfl) (by kernel_rfl) (by kernel_rfl) (fun _ _ _ h => h) (Or.inl ⟨by rfl, ?_⟩) (by assumption) ?_
      rotate_left
      · (intro w hSw; (try dsimp only at hSw); (try simp only [List.getElem_toArray, List.getElem_cons_succ, List.getElem_cons_zero]); first | (go_simp; done) | (go_simp; with_reducible rfl))
      try simp only [Act.put, List.getElem_toArray, List.getElem_cons_succ, List.getElem_cons_zero, List.setIfInBounds_toArray, List.set_cons_zero, List.set_cons_succ]
      refine wpAnyH_take (i := 5) (v := ?_) rfl (by kernel_rfl) (by kernel_rfl) (by kernel_rfl) (fun _ _ _ h => h) (Or.inl ⟨by rfl, ?_⟩) (by assumption) ?_
      rotate_left
      · (intro w hSw; (try dsimp only at hSw); (try simp only [List.getElem_toArray, List.getElem_cons_succ, List.getElem_cons_zero]); first | (go_simp; done) | (go_simp; with_reducible rfl))
      try simp only [Act.put, List.getElem_toArray, List.getElem_cons_succ, List.getElem_cons_zero, List.setIfInBounds_toArray, List.set_cons_zero, List.set_cons_succ]
      refine wpAnyH_take (i := 6) (v := ?_) rfl (by kernel_rfl) (by kernel_rfl) (by kernel_rfl) (fun _ _ _ h => h) (Or.inl ⟨by rfl, ?_⟩) (by assumption) ?_
      rotate_left
      · (intro w hSw; (try dsimp only at hSw); (try simp only [List.getElem_toArray, List.getElem_cons_succ, List.getElem_cons_zero]); first | (go_simp; done) | (go_simp; with_reducible rfl))
      try simp only [Act.put, List.getElem_toArray, List.getElem_cons_succ, List.getElem_cons_zero, List.setIfInBounds_toArray, List.set_cons_zero, List.set_cons_succ]
      refine wpAnyH_ready (rs := [7]) (by kernel_rfl) (by simp) ?_
      refine AllReadyH.cons rfl (fun K hK => ?_) AllReadyH.nil
      refine step_copy_cells rfl _ _ 30 30 rfl 3 Tryd.underlying30 hszI w.heap.size k (m - k) (m - k) ⟨w.heap.size, 0, none⟩ k m (by simp [Act.eval, Act.put]) (by simp [Act.eval, Act.put]) (List.replicate c (.int .i64 1)) (by rw [List.length_replicate]; exact HCM.out.symm) HSRC.out HDST.out HFZ.out HONE.out ?_
      refine hK.out _ _ ?_ (fun hHeld => ?_)
      · exact trivial
      clear hK K
      try simp only [Act.put, List.getElem_toArray, List.getElem_cons_succ, List.getElem_cons_zero, List.setIfInBounds_toArray, List.set_cons_zero, List.set_cons_succ]
      refine wpAnyH_take (i := 8) (v := ?_) rfl (by kernel_rfl) (by kernel_rfl) (by kernel_rfl) (fun _ _ _ h => h) (Or.inl ⟨by rfl, ?_⟩) (by assumption) ?_
      rotate_left
      · (intro w hSw; (try dsimp only at hSw); (try simp only [List.getElem_toArray, List.getElem_cons_succ, List.getElem_cons_zero]); first | (go_simp; done) | (go_simp; with_reducible rfl))
      try simp only [Act.put, List.getElem_toArray, List.getElem_cons_succ, List.getElem_cons_zero, List.setIfInBounds_toArray, List.set_cons_zero, List.set_cons_succ]
      refine wpAnyH_take (i := 9) (v := ?_) rfl (by kernel_rfl) (by kernel_rfl) (by kernel_rfl) (fun _ _ _ h => h) (Or.inl ⟨by rfl, ?_⟩) (by assumption) ?_
      rotate_left
      · (intro w hSw; (try dsimp only at hSw); (try simp only [List.getElem_toArray, List.getElem_cons_succ, List.getElem_cons_zero]); first | (go_simp; done) | (go_simp; with_reducible rfl))
      try simp only [Act.put, List.getElem_toArray, List.getElem_cons_succ, List.getElem_cons_zero, List.setIfInBounds_toArray, List.set_cons_zero, List.set_cons_succ]
      refine wpAnyH_done (by kernel_rfl) ?_ _
      clear hw1 hw2
      go_wp2_with fail
      go_roundw
      case rel => exact ⟨k + c, by omega, by omega, by first | rfl | go_num, HR2.out, HB2.out⟩
      case measure => (simp [intOf]) <;> omega
    · obtain rfl : k = m := by omega
      have hkk : ¬ (k : Int) < (k : Int) := by omega
      go_wp2_with fail
      go_ret
      exact ⟨rfl, HROW.out.congr fun i hi => by rw [if_pos hi], HBL.out⟩
set_option maxHeartbeats 2000000 in
/-- how many ways each place has in the tree of a code -/
theorem rowCounts_any (m : Nat) (h2 : 2 ≤ m) (h6 : m ≤ 6) (Ar : Option Addr) (cr : Nat) (c : List Int) (w : World) (hi : RI w w.heap.size Ar c) (hc4 : c.length ≤ 4) (hin : ∀ x, x ∈ c → 0 ≤ x ∧ x < (m : Int)) :
    Calls Tryd.prog 48 #[.int .i64 m, .slice Ar c.length cr] w fun e w' => ∃ b, e = .returned (.slice (some ⟨b, 0, none⟩) m m) ∧ w.heap.size ≤ b ∧ RowG w' b 3 m (fun i => cntL c (i : Int)) ∧ Below w.heap.size w w' := by
  have HI := Lib.hid hi
  have HIN := Lib.hid hin
  have HCK : Hid (∀ (k : Nat) (v : Int), 1 ≤ cntL (c.take k) v ∧ cntL (c.take k) v ≤ 5) := fun k v => by
    have := cntL_bd (c.take k) v
    have h9 : (c.take k).length ≤ c.length := by rw [List.length_take]; omega
    omega
  have hw1 : (w.alloc (.cells #[.int .i64 1] 3)).cell? ⟨w.heap.size, 0, none⟩ = some (.int .i64 1) := cell_of_row _ _ 0 _ _ (0, 0) (heap_alloc_new _ _)
  have hrp := repeat_any w.heap.size m h2 h6 (w.alloc (.cells #[.int .i64 1] 3)) (by simp) hw1
  have HRP := Lib.hid hrp
  clear hi hin hw1 hrp
  go_enter Tryd.func48, Tryd.ntmps48
  go_wp2_with (go_at_call 67; refine HRP.out.mono ?_; rintro e1 w1 ⟨rfl, hrow, hb⟩; rw [World.size_alloc] at hrow; rw [World.size_alloc])
  have HROW1 : Hid (RowG w1 (w.heap.size + 1) 3 m (fun i => cntL (c.take 0) (i : Int))) := hrow.congr fun i hi => rfl
  have HB1 : Hid (Below w.heap.size w w1) := bstep (B := w.heap.size) (W := w) ((Below.refl _ _).alloc (Nat.le_refl _) _) (by simp) hb
  clear hrow hb HRP
  (try go_wp2_with fail)
  go_loopw [13] (fun i wr => ∃ k : Nat, k ≤ c.length ∧ i = .int .i64 (k : Int) ∧ RowG wr (w.heap.size + 1) 3 m (fun i => cntL (c.take k) (i : Int)) ∧ Below w.heap.size w wr) (fun i _ => c.length - (intOf i).toNat)
  case atStart => exact ⟨0, Nat.zero_le _, rfl, HROW1.out, HB1.out⟩
  case round =>
    clear HROW1 HB1
    obtain ⟨k', hk', rfl, hrow, hb⟩ := hrel
    have HROW := Lib.hid hrow
    have HB := Lib.hid hb
    have hk0 : (0 : Int) ≤ (k' : Int) := by omega
    by_cases hlk : k' < c.length
    · have hk1 : (k' : Int) < (c.length : Int) := by omega
      obtain ⟨xi, hxi⟩ : ∃ x, c[k']? = some x := ⟨_, List.getElem?_eq_getElem hlk⟩
      obtain ⟨x0, x1⟩ := HIN.out xi (List.mem_of_getElem? hxi)
      obtain ⟨x, rfl⟩ := Int.eq_ofNat_of_zero_le x0
      obtain ⟨b, o, rfl, hbw, qk⟩ := (HI.out.below hb).at_ hlk
      rw [getD_at hxi] at qk
      have hxm : x < m := by omega
      have HSTEP : Hid (∀ v : Int, cntL (c.take (k' + 1)) v = cntL (c.take k') v + (if (x : Int) = v then 1 else 0)) := fun v => cntL_take hxi v
      have hcb := HCK.out k' (x : Int)
      obtain ⟨F, hF⟩ : ∃ F, cntL (c.take k') (x : Int) = F := ⟨_, rfl⟩
      have d0 := hrow.cell hxm
      have f0 := hrow.frozen x
      rw [hF] at d0 hcb
      have HFE := Lib.hid hF
      have hwa : IntKind.i64.wrap (F + 1) = F + 1 := IntWalk.i64_in _ ⟨by omega, by omega⟩
      have hwb : wrap64 (F + 1) = F + 1 := IntWalk.wrap64_in _ ⟨by omega, by omega⟩
      have HNEW : Hid (∀ i : Nat, (if i = x then F + 1 else cntL (c.take k') (i : Int)) = cntL (c.take (k' + 1)) (i : Int)) := fun i => by
        rw [HSTEP.out]
        by_cases e : i = x
        · subst e; rw [if_pos rfl, if_pos rfl, HFE.out]
        · rw [if_neg e, if_neg (by omega), Int.add_zero]
      clear hrow hb hF hxi
      go_wp2_with fail
      go_roundw
      case rel => exact ⟨k' + 1, by omega, by go_num, (HROW.out.put hxm (F + 1)).congr (fun i _ => HNEW.out i), HB.out.setCell (p := ⟨w.heap.size + 1, x, none⟩) (by simp) _⟩
      case measure => (simp [intOf]) <;> omega
    · obtain rfl : k' = c.length := by omega
      rw [List.take_length] at hrow
      have HRW := Lib.hid hrow
      clear hrow
      go_wp2_with fail
      go_ret
      exact ⟨w.heap.size + 1, rfl, by omega, HRW.out, HB.out⟩
/-! ### pairs compared -/
def cmpP (a b : Int × Int) : Int := if Lib.compareInt a.1 b.1 = 0 then Lib.compareInt a.2 b.2 else Lib.compareInt a.1 b.1
theorem cmpP_lt (a b : Int × Int) : decide (cmpP a b < 0) = gtP b a := by
  unfold cmpP Lib.compareInt gtP
  rw [Bool.eq_iff_iff, decide_eq_true_eq, Bool.or_eq_true, Bool.and_eq_true, decide_eq_true_eq, decide_eq_true_eq, decide_eq_true_eq]
  by_cases h1 : a.1 < b.1
  · rw [if_pos h1, if_neg (by omega)]; omega
  · by_cases h2 : b.1 < a.1
    · rw [if_neg h1, if_pos h2, if_neg (by omega)]; omega
    · rw [if_neg h1, if_neg h2, if_pos rfl]
      by_cases h3 : a.2 < b.2
      · rw [if_pos h3]; omega
      · by_cases h4 : b.2 < a.2
        · rw [if_neg h3, if_pos h4]; omega
        · rw [if_neg h3, if_neg h4]; omega
def cmpRenC : Go.Shelf.Ren := ⟨fun | 5 => 63 | 7 => 75 | n => n, fun | 22 => 3 | 3 => 3 | 4 => 4 | n => n, fun | n => n⟩
theorem cmpLayC : Go.Proofs.SlLaysC2.n5 Tryd.prog cmpRenC := {
  mixed := by kernel_rfl
  f5 := ⟨Tryd.f63.name, by decide, Tryd.func63.trans (congrArg some (by kernel_rfl))⟩
  f7 := ⟨Tryd.f75.name, by decide, Tryd.func75.trans (congrArg some (by kernel_rfl))⟩
  t3 := Tryd.underlying3
  a3 := Tryd.isAgg3
  z3 := Tryd.sizeOf3
  v3 := Tryd.zeroValue3
  t4 := Tryd.underlying4
  a4 := Tryd.isAgg4
  z4 := Tryd.sizeOf4
  v4 := Tryd.zeroValue4
  t22 := Tryd.underlying3
  a22 := Tryd.isAgg3
  z22 := Tryd.sizeOf3
  v22 := Tryd.zeroValue3 }
set_option maxHeartbeats 1000000 in
theorem cmpOr_any (b : Nat) (x y r : Int) (w : World) (hr : (if x = 0 then y else x) = r) (c0 : w.cell? ⟨b, 0, none⟩ = some (.int .i64 x)) (c1 : w.cell? ⟨b, 1, none⟩ = some (.int .i64 y)) :
    Calls Tryd.prog 62 #[.slice (some ⟨b, 0, none⟩) 2 2] w fun e w' => e = .returned (.int .i64 r) ∧ w = w' := by
  by_cases hx : x = 0
  · subst hx
    rw [if_pos rfl] at hr
    subst hr
    by_cases hy : y = 0
    · subst hy
      go_enter Tryd.func62, Tryd.ntmps62
      go_wp2_with fail
      refine wp_loop_rounds 3 ?_
      rw [rounds_succ]
      go_wp2_with fail
      rw [rounds_succ]
      go_wp2_with fail
      rw [rounds_succ]
      go_wp2_with fail
      go_ret
      exact ⟨rfl, rfl⟩
    · have hb : (y != 0) = true := by rw [bne_iff_ne]; exact hy
      go_enter Tryd.func62, Tryd.ntmps62
      go_wp2_with fail
      refine wp_loop_rounds 3 ?_
      rw [rounds_succ]
      go_wp2_with fail
      rw [rounds_succ]
      go_wp2_with fail
      go_ret
      exact ⟨rfl, rfl⟩
  · have hb : (x != 0) = true := by rw [bne_iff_ne]; exact hx
    rw [if_neg hx] at hr
    subst hr
    go_enter Tryd.func62, Tryd.ntmps62
    go_wp2_with fail
    refine wp_loop_rounds 3 ?_
    rw [rounds_succ]
    go_wp2_with fail
    go_ret
    exact ⟨rfl, rfl⟩
set_option maxRecDepth 100000 in
set_option maxHeartbeats 2000000 in
theorem compareLinks_any (xa xb ya yb : Int) (w : World) :
    Calls Tryd.prog 37 #[.agg #[.int .i64 xa, .int .i64 xb], .agg #[.int .i64 ya, .int .i64 yb]] w fun e w' => e = .returned (.int .i64 (cmpP (xa, xb) (ya, yb))) ∧ ∃ o1 o2 o3, w' = (((w.alloc o1).alloc o2).alloc o3).drew := by
  have hcmp : ∀ (a b : Int) (W : World), Calls Tryd.prog 63 #[.int .i64 a, .int .i64 b] W fun e w' => e = .returned (.int .i64 (Lib.compareInt a b)) ∧ W = w' := fun a b W => (AnyG.cmp_Compare_int cmpLayC a b W).mono fun e w' h => ⟨h.1, h.2.symm⟩
  obtain ⟨W0, hW0⟩ : ∃ W0, (w.alloc (.cells #[.int .i64 xa, .int .i64 xb] 28)).alloc (.cells #[.int .i64 ya, .int .i64 yb] 28) = W0 := ⟨_, rfl⟩
  have hz0 : W0.heap.size = w.heap.size + 2 := by rw [← hW0]; simp
  have HS0 : Hid (w.heap.size < W0.drew.heap.size ∧ w.heap.size + 1 < W0.drew.heap.size) := ⟨by show _ < W0.heap.size; omega, by show _ < W0.heap.size; omega⟩
  have hb1 : W0.heap[w.heap.size]? = some (.cells #[.int .i64 xa, .int .i64 xb] 28 (0, 0)) := by
    rw [← hW0, Below.heap_alloc _ _ _ (by simp)]; exact heap_alloc_new w _
  have hb2 : W0.heap[w.heap.size + 1]? = some (.cells #[.int .i64 ya, .int .i64 yb] 28 (0, 0)) := by
    rw [← hW0]
    have h9 := heap_alloc_new (w.alloc (.cells #[.int .i64 xa, .int .i64 xb] 28)) (.cells #[.int .i64 ya, .int .i64 yb] 28)
    simpa using h9
  have y0 : W0.cell? ⟨w.heap.size, 0, none⟩ = some (.int .i64 xa) := cell_of_row _ _ 0 _ _ (0, 0) hb1
  have y1 : W0.cell? ⟨w.heap.size, 1, none⟩ = some (.int .i64 xb) := cell_of_row _ _ 1 _ _ (0, 0) hb1
  have y2 : W0.cell? ⟨w.heap.size + 1, 0, none⟩ = some (.int .i64 ya) := cell_of_row _ _ 0 _ _ (0, 0) hb2
  have y3 : W0.cell? ⟨w.heap.size + 1, 1, none⟩ = some (.int .i64 yb) := cell_of_row _ _ 1 _ _ (0, 0) hb2
  have HZP : Hid (∀ o, ∃ o1 o2 o3, (W0.alloc o).drew = (((w.alloc o1).alloc o2).alloc o3).drew) := fun o => ⟨_, _, _, by rw [← hW0]⟩
  unfold cmpP
  obtain ⟨p, hp⟩ : ∃ p, Lib.compareInt xa ya = p := ⟨_, rfl⟩
  obtain ⟨q, hq⟩ : ∃ q, Lib.compareInt xb yb = q := ⟨_, rfl⟩
  have HP := Lib.hid hp
  have HQ := Lib.hid hq
  simp only
  rw [hp, hq]
  obtain ⟨r, hr⟩ : ∃ r, (if p = 0 then q else p) = r := ⟨_, rfl⟩
  have HRR := Lib.hid hr
  rw [hr]
  have hcmp1 := fun W => hcmp xa ya W
  have hcmp2 := fun W => hcmp xb yb W
  rw [hp] at hcmp1
  rw [hq] at hcmp2
  clear hp hq hb1 hb2 hz0 hcmp hr
  go_enter Tryd.func37, Tryd.ntmps37
  go_wp2_with fail
  (try rw [hW0])
  refine wp_region_held_drew (S := (fun w' => w'.cell? ⟨w.heap.size, 0, none⟩ = some (.int .i64 xa) ∧ w'.cell? ⟨w.heap.size, 1, none⟩ = some (.int .i64 xb) ∧ w'.cell? ⟨w.heap.size + 1, 0, none⟩ = some (.int .i64 ya) ∧ w'.cell? ⟨w.heap.size + 1, 1, none⟩ = some (.int .i64 yb))) (by kernel_rfl) ?_ (fun hHeld => ?_)
  · exact ⟨y0, y1, y2, y3⟩
  refine wpAnyH_take (i := 0) (v := ?_) rfl (by kernel_rfl) (by kernel_rfl) (by kernel_rfl) (fun _ _ _ h => h) (Or.inl ⟨by rfl, ?_⟩) (by assumption) ?_
  rotate_left
  · (intro w hSw; (try dsimp only at hSw); (try simp only [List.getElem_toArray, List.getElem_cons_succ, List.getElem_cons_zero]); first | (go_simp; done) | (go_simp; with_reducible rfl))
  try simp only [Act.put, List.getElem_toArray, List.getElem_cons_succ, List.getElem_cons_zero, List.setIfInBounds_toArray, List.set_cons_zero, List.set_cons_succ]
  refine wpAnyH_take (i := 1) (v := ?_) rfl (by kernel_rfl) (by kernel_rfl) (by kernel_rfl) (fun _ _ _ h => h) (Or.inl ⟨by rfl, ?_⟩) (by assumption) ?_
  rotate_left
  · (intro w hSw; (try dsimp only at hSw); (try simp only [List.getElem_toArray, List.getElem_cons_succ, List.getElem_cons_zero]); first | (go_simp; done) | (go_simp; with_reducible rfl))
  try simp only [Act.put, List.getElem_toArray, List.getElem_cons_succ, List.getElem_cons_zero, List.setIfInBounds_toArray, List.set_cons_zero, List.set_cons_succ]
  refine wpAnyH_take (i := 2) (v := ?_) rfl (by kernel_rfl) (by kernel_rfl) (by kernel_rfl) (fun _ _ _ h => h) (Or.inl ⟨by rfl, ?_⟩) (by assumption) ?_
  rotate_left
  · (intro w hSw; (try dsimp only at hSw); (try simp only [List.getElem_toArray, List.getElem_cons_succ, List.getElem_cons_zero]); first | (go_simp; done) | (go_simp; with_reducible rfl))
  try simp only [Act.put, List.getElem_toArray, List.getElem_cons_succ, List.getElem_cons_zero, List.setIfInBounds_toArray, List.set_cons_zero, List.set_cons_succ]
  refine wpAnyH_take (i := 3) (v := ?_) rfl (by kernel_rfl) (by kernel_rfl) (by kernel_rfl) (fun _ _ _ h => h) (Or.inl ⟨by rfl, ?_⟩) (by assumption) ?_
  rotate_left
  · (intro w hSw; (try dsimp only at hSw); (try simp only [List.getElem_toArray, List.getElem_cons_succ, List.getElem_cons_zero]); first | (go_simp; done) | (go_simp; with_reducible rfl))
  try simp only [Act.put, List.getElem_toArray, List.getElem_cons_succ, List.getElem_cons_zero, List.setIfInBounds_toArray, List.set_cons_zero, List.set_cons_succ]
  refine wpAnyH_take (i := 5) (v := ?_) rfl (by kernel_rfl) (by kernel_rfl) (by kernel_rfl) (fun _ _ _ h => h) (Or.inl ⟨by rfl, ?_⟩) (by assumption) ?_
  rotate_left
  · (intro w hSw; (try dsimp only at hSw); (try simp only [List.getElem_toArray, List.getElem_cons_succ, List.getElem_cons_zero]); first | (go_simp; done) | (go_simp; with_reducible rfl))
  try simp only [Act.put, List.getElem_toArray, List.getElem_cons_succ, List.getElem_cons_zero, List.setIfInBounds_toArray, List.set_cons_zero, List.set_cons_succ]
  refine wpAnyH_take (i := 6) (v := ?_) rfl (by kernel_rfl) (by kernel_rfl) (by kernel_rfl) (fun _ _ _ h => h) (Or.inl ⟨by rfl, ?_⟩) (by assumption) ?_
  rotate_left
  · (intro w hSw; (try dsimp only at hSw); (try simp only [List.getElem_toArray, List.getElem_cons_succ, List.getElem_cons_zero]); first | (go_simp; done) | (go_simp; with_reducible rfl))
  try simp only [Act.put, List.getElem_toArray, List.getElem_cons_succ, List.getElem_cons_zero, List.setIfInBounds_toArray, List.set_cons_zero, List.set_cons_succ]
  refine wpAnyH_take (i := 7) (v := ?_) rfl (by kernel_rfl) (by kernel_rfl) (by kernel_rfl) (fun _ _ _ h => h) (Or.inl ⟨by rfl, ?_⟩) (by assumption) ?_
  rotate_left
  · (intro w hSw; (try dsimp only at hSw); (try simp only [List.getElem_toArray, List.getElem_cons_succ, List.getElem_cons_zero]); first | (go_simp; done) | (go_simp; with_reducible rfl))
  try simp only [Act.put, List.getElem_toArray, List.getElem_cons_succ, List.getElem_cons_zero, List.setIfInBounds_toArray, List.set_cons_zero, List.set_cons_succ]
  refine wpAnyH_take (i := 8) (v := ?_) rfl (by kernel_rfl) (by kernel_rfl) (by kernel_rfl) (fun _ _ _ h => h) (Or.inl ⟨by rfl, ?_⟩) (by assumption) ?_
  rotate_left
  · (intro w hSw; (try dsimp only at hSw); (try simp only [List.getElem_toArray, List.getElem_cons_succ, List.getElem_cons_zero]); first | (go_simp; done) | (go_simp; with_reducible rfl))
  try simp only [Act.put, List.getElem_toArray, List.getElem_cons_succ, List.getElem_cons_zero, List.setIfInBounds_toArray, List.set_cons_zero, List.set_cons_succ]
  refine wpAnyH_ready (rs := [4]) (by kernel_rfl) (by simp) ?_
  refine AllReadyH.cons rfl (fun K hK => ?_) AllReadyH.nil
  try simp only [List.getElem_toArray, List.getElem_cons_succ, List.getElem_cons_zero]
  go_simp
  refine (hcmp1 _).mono ?_; rintro e9 w9 ⟨rfl, rfl⟩
  refine hK.out _ _ ?_ (fun hHeld => ?_)
  · exact hHeld
  clear hK K
  try simp only [Act.put, List.getElem_toArray, List.getElem_cons_succ, List.getElem_cons_zero, List.setIfInBounds_toArray, List.set_cons_zero, List.set_cons_succ]
  refine wpAnyH_ready (rs := [9]) (by kernel_rfl) (by simp) ?_
  refine AllReadyH.cons rfl (fun K hK => ?_) AllReadyH.nil
  try simp only [List.getElem_toArray, List.getElem_cons_succ, List.getElem_cons_zero]
  go_simp
  refine (hcmp2 _).mono ?_; rintro e9 w9 ⟨rfl, rfl⟩
  refine hK.out _ _ ?_ (fun hHeld => ?_)
  · exact hHeld
  clear hK K
  try simp only [Act.put, List.getElem_toArray, List.getElem_cons_succ, List.getElem_cons_zero, List.setIfInBounds_toArray, List.set_cons_zero, List.set_cons_succ]
  refine wpAnyH_ready (rs := [10]) (by kernel_rfl) (by simp) ?_
  refine AllReadyH.cons rfl (fun K hK => ?_) AllReadyH.nil
  try simp only [List.getElem_toArray, List.getElem_cons_succ, List.getElem_cons_zero]
  go_simp

  refine hK.out _ _ ?_ (fun hHeld => ?_)
  · exact ⟨(World.cell?_alloc_lt _ _ _ HS0.out.1).trans hHeld.1, (World.cell?_alloc_lt _ _ _ HS0.out.1).trans hHeld.2.1, (World.cell?_alloc_lt _ _ _ HS0.out.2).trans hHeld.2.2.1, (World.cell?_alloc_lt _ _ _ HS0.out.2).trans hHeld.2.2.2⟩
  clear hK K
  try simp only [Act.put, List.getElem_toArray, List.getElem_cons_succ, List.getElem_cons_zero, List.setIfInBounds_toArray, List.set_cons_zero, List.set_cons_succ]
  refine wpAnyH_ready (rs := [11]) (by kernel_rfl) (by simp) ?_
  refine AllReadyH.cons rfl (fun K hK => ?_) AllReadyH.nil
  try simp only [List.getElem_toArray, List.getElem_cons_succ, List.getElem_cons_zero]
  go_simp
  refine (cmpOr_any _ p q r _ HRR.out (cell_of_row _ _ 0 _ _ (0, 0) (heap_alloc_new _ _)) (cell_of_row _ _ 1 _ _ (0, 0) (heap_alloc_new _ _))).mono ?_; rintro e9 w9 ⟨rfl, rfl⟩
  refine hK.out _ _ ?_ (fun hHeld => ?_)
  · exact hHeld
  clear hK K
  try simp only [Act.put, List.getElem_toArray, List.getElem_cons_succ, List.getElem_cons_zero, List.setIfInBounds_toArray, List.set_cons_zero, List.set_cons_succ]
  refine wpAnyH_take (i := 12) (v := ?_) rfl (by kernel_rfl) (by kernel_rfl) (by kernel_rfl) (fun _ _ _ h => h) (Or.inl ⟨by rfl, ?_⟩) (by assumption) ?_
  rotate_left
  · (intro w hSw; (try dsimp only at hSw); (try simp only [List.getElem_toArray, List.getElem_cons_succ, List.getElem_cons_zero]); first | (go_simp; done) | (go_simp; with_reducible rfl))
  try simp only [Act.put, List.getElem_toArray, List.getElem_cons_succ, List.getElem_cons_zero, List.setIfInBounds_toArray, List.set_cons_zero, List.set_cons_succ]
  refine wpAnyH_done (by kernel_rfl) ?_ _
  go_wp2_with fail
  go_ret
  exact ⟨rfl, HZP.out _⟩
end Go.Proofs.YtimccjmphdkbjaaDoor
namespace Go.Proofs.YtimccjmphdkbjaaDoor
open Go.ChangeShapes Go.WideShapes Go.ChangeAt Go.RowKit

theorem ri_news {w : World} {B b o : Nat} {L : List Int} (h : RI w B (some ⟨b, o, none⟩) L) : ∀ j u, (rlCells L)[j]? = some u → w.cell? ((⟨b, o, none⟩ : Addr).add j) = some u := fun j u hu => by
  have hj : j < L.length := by
    have := (List.getElem?_eq_some_iff.1 hu).1
    rwa [rlCells_len] at this
  obtain ⟨b', o', e, -, c0⟩ := h.at_ hj
  injection e with e; injection e with e1 e2; subst e1; subst e2
  rw [rlCells_at hj] at hu
  obtain rfl := Option.some.inj hu
  by_cases h0 : j = 0
  · subst h0; simpa [Addr.add] using c0
  · simpa [Addr.add, h0] using c0
theorem rl_one : ∀ (L : List Int) (u : Value), u ∈ rlCells L → u.oneCell' = true := fun L u h => by
  unfold rlCells at h
  obtain ⟨x, _, rfl⟩ := List.mem_map.1 h
  rfl
set_option maxRecDepth 100000 in
set_option maxHeartbeats 1000000 in
theorem cloneInts_any (A : Option Addr) (cap : Nat) (c : List Int) (w : World) (hr : RI w w.heap.size A c) (hm : c.length ≤ 1000) :
    Calls Tryd.prog 49 #[.slice A c.length cap] w fun e w' => ∃ A1 c1, e = .returned (.slice A1 c.length c1) ∧ w'.ownsRow w.heap.size 3 1 (.slice A1 c.length c1) c.length (rlCells c) ∧ Below w.heap.size w w' := by
  obtain ⟨i0, hi0, hz0, hz1', hz2⟩ := info_parts infoInt
  cases A with
  | none =>
    have hl : c = [] := by
      cases c with
      | nil => rfl
      | cons x r => obtain ⟨b, o, h, _⟩ := hr.at_ (show 0 < (x :: r).length by simp); cases h
    subst hl
    have he : ∀ W : World, (binOp .eql 30 (.slice none 0 cap) (.slice none 0 0)).run Tryd.prog W = .ok (.bool true) W := fun _ => rfl
    clear hr hm
    go_enter Tryd.func49, Tryd.ntmps49
    go_wp2_with fail
    go_ret
    exact ⟨none, 0, rfl, World.ownsRow_nil _ _ _ _, by go_grown⟩
  | some ad =>
    have hnews : ∀ W, Below w.heap.size w W → ∀ j u, (rlCells c)[j]? = some u → W.cell? (ad.add j) = some u := by
      intro W hW
      cases c with
      | nil => intro j u h; simp [rlCells] at h
      | cons x r =>
        obtain ⟨b, o, h, _⟩ := hr.at_ (show 0 < (x :: r).length by simp)
        injection h with h; subst h
        exact ri_news (B := W.heap.size) (hr.later hW)
    have hon : Hid ((w.alloc (.cells #[] 3)).ownsRow w.heap.size 3 1 (.slice (some ⟨w.heap.size, 0, none⟩) 0 0) 0 []) := ⟨rfl, .inr ⟨w.heap.size, 0, #[], rfl, Nat.le_refl _, heap_alloc_new _ _, Nat.le_refl _, Nat.zero_le _, rfl, rfl⟩⟩
    have hnw := Lib.hid (hnews (w.alloc (.cells #[] 3)) ((Below.refl _ _).alloc (Nat.le_refl _) _))
    have he : ∀ W : World, (binOp .eql 30 (.slice (some ad) c.length cap) (.slice none 0 0)).run Tryd.prog W = .ok (.bool false) W := fun _ => rfl
    clear hnews hr
    go_enter Tryd.func49, Tryd.ntmps49
    go_wp2_with (at_builtin; refine wpList_append_copy rfl _ _ _ rfl w.heap.size 3 i0 _ 1 8 Tryd.underlying30 hi0 hz0 hz1' hz2 rfl (by decide) (.slice (some ⟨w.heap.size, 0, none⟩) 0 0) rfl hon.out ad c.length cap (rlCells c) rfl (by rw [rlCells_len, Nat.mul_one]) hnw.out (rl_one _) (by unfold maxLen; omega) (by omega) (by simp) ?_; intro A5 c5 w5 hown5 hg5; have HO5 := Lib.hid hown5; have HG5 := Lib.hid (below_grow ((Below.refl w.heap.size w).alloc (Nat.le_refl _) _) hg5 (Nat.le_refl _)); clear hown5 hg5)
    go_ret
    exact ⟨A5, c5, rfl, HO5.out, HG5.out⟩
/-! ### pairs sorted -/
def encP (p : Int × Int) : List Value := [.int .i64 p.1, .int .i64 p.2]
theorem swo_P : Sort.SWO (ltOf cmpP) where
  irrefl := fun x => by unfold ltOf; rw [cmpP_lt]; exact gtP_irr x
  trans := fun x y z h1 h2 => by
    unfold ltOf at *
    rw [cmpP_lt] at *
    unfold gtP at *
    simp only [Bool.or_eq_true, Bool.and_eq_true, decide_eq_true_eq] at *
    omega
  ntrans := fun x y z h1 h2 => by
    unfold ltOf at *
    rw [cmpP_lt] at *
    unfold gtP at *
    simp only [Bool.or_eq_false_iff, Bool.and_eq_false_iff, decide_eq_false_iff_not] at *
    omega
def insRenC : Go.Shelf.Ren := ⟨fun | 20 => 78 | n => n, fun | 24 => 28 | 22 => 23 | 3 => 3 | 25 => 60 | 4 => 4 | 0 => 0 | n => n, fun | n => n⟩
theorem insLayC : Go.Proofs.SlLaysF0.n20 Tryd.prog insRenC := {
  mixed := by kernel_rfl
  f20 := ⟨Tryd.f78.name, by decide, Tryd.func78.trans (congrArg some (by kernel_rfl))⟩
  t0 := Tryd.underlying0
  a0 := Tryd.isAgg0
  z0 := Tryd.sizeOf0
  v0 := Tryd.zeroValue0
  t3 := Tryd.underlying3
  a3 := Tryd.isAgg3
  z3 := Tryd.sizeOf3
  v3 := Tryd.zeroValue3
  t4 := Tryd.underlying4
  a4 := Tryd.isAgg4
  z4 := Tryd.sizeOf4
  v4 := Tryd.zeroValue4
  t22 := Tryd.underlying23
  a22 := Tryd.isAgg23
  z22 := Tryd.sizeOf23
  v22 := Tryd.zeroValue23
  t25 := Tryd.underlying60
  a25 := Tryd.isAgg60
  z25 := Tryd.sizeOf60
  v25 := Tryd.zeroValue60 }
theorem cmpLays_P (blk size : Nat) (w : World) : CmpLays Tryd.prog 37 #[] encP 2 cmpP blk 0 size w := by
  intro m os dk hs x y
  refine (compareLinks_any x.1 x.2 y.1 y.2 (sortWorldK encP 2 w blk 0 m dk os)).mono ?_
  rintro e w' ⟨rfl, o1, o2, o3, rfl⟩
  refine ⟨rfl, 1, #[o1, o2, o3], ?_⟩
  generalize sortWorldK encP 2 w blk 0 m dk os = W
  rw [Sort.alloc_eq_grow, Sort.alloc_eq_grow, Sort.alloc_eq_grow, Sort.grow_grow, Sort.grow_grow]
  rfl
theorem holds_P {w : World} {B blk cap : Nat} {e : TypeId} {ps : List (Int × Int)} (h : w.ownsRow B e 2 (.slice (some ⟨blk, 0, none⟩) ps.length cap) ps.length (ctCells ps)) : Sort.HoldsK encP 2 w blk 0 ps.toArray := by
  have hr := rowF_of_cuts h
  intro j hj
  rw [Sort.size_flatK, List.size_toArray] at hj
  obtain ⟨b, o, ha, _, _, hc, hf⟩ := hr.at_ j hj
  injection ha with ha; injection ha with e1 e2; subst e1; subst e2
  refine ⟨?_, hf⟩
  rw [hc, Sort.get_flatK _ _ _ _ (by rw [List.size_toArray]; exact hj)]
  have hj2 : j / 2 < ps.length := by omega
  have hx : ps.toArray[j / 2]! = ps[j / 2] := by rw [getElem!_pos _ _ (by rw [List.size_toArray]; exact hj2)]; simp
  rw [hx]
  unfold ctF encP
  rw [List.getElem?_eq_getElem hj2]
  rcases (by omega : j % 2 = 0 ∨ j % 2 = 1) with h0 | h0 <;> simp [h0]
theorem ctF_enc {D : List (Int × Int)} {j : Nat} (h : j < D.length * 2) : (Sort.flatK encP 2 D.toArray)[j]! = .int .i64 (ctF D j) := by
  rw [Sort.get_flatK _ _ _ _ (by rw [List.size_toArray]; exact h)]
  have hj2 : j / 2 < D.length := by omega
  have hx : D.toArray[j / 2]! = D[j / 2] := by rw [getElem!_pos _ _ (by rw [List.size_toArray]; exact hj2)]; simp
  rw [hx]
  unfold ctF encP
  rw [List.getElem?_eq_getElem hj2]
  rcases (by omega : j % 2 = 0 ∨ j % 2 = 1) with h0 | h0 <;> simp [h0]
theorem below_sortW (w : World) (blk m : Nat) (hb : blk < w.heap.size) (dk : Array (Int × Int)) (os : Array Obj) : Below blk w (sortWorldK encP 2 w blk 0 m dk os) := by
  unfold sortWorldK
  refine ⟨rfl, rfl, rfl, ?_, fun i hi => ?_⟩
  · have h9 := size_sortWorldK_c encP 2 w blk 0 m dk os
    unfold sortWorldK at h9
    exact h9
  · unfold Sort.grow Sort.putRowK Sort.putRow Sort.mapBlock Sort.ahead
    simp only
    rw [Array.getElem?_append_left (by simp; omega), Array.getElem?_modify, if_neg (by omega)]
set_option maxRecDepth 100000 in
set_option maxHeartbeats 2000000 in
theorem len_any (n : Nat) (hn : n ≤ 5) (w : World) : Calls Tryd.prog 69 #[.int .u64 n] w fun e w' => (∃ l, e = .returned (.int .i64 l)) ∧ w = w' := by
  have h32 : ∀ (k : Nat) (W : World), k ≤ 5 → Calls Tryd.prog 87 #[.int .u64 k] W fun e w' => (∃ l, e = .returned (.int .i64 l)) ∧ W = w' := by
    intro k W hk
    rcases (by omega : k = 0 ∨ k = 1 ∨ k = 2 ∨ k = 3 ∨ k = 4 ∨ k = 5) with rfl | rfl | rfl | rfl | rfl | rfl
    all_goals
      go_enter Tryd.func87, Tryd.ntmps87
      go_wp2_with fail
      go_ret
      exact ⟨⟨_, rfl⟩, rfl⟩
  have h9 := fun W => h32 n W hn
  go_enter Tryd.func69, Tryd.ntmps69
  go_wp2_with (go_at_call 87; refine (h9 _).mono ?_; rintro e2 w2 ⟨⟨l, rfl⟩, rfl⟩)
  go_ret
  exact ⟨⟨_, rfl⟩, rfl⟩
set_option maxRecDepth 100000 in
set_option maxHeartbeats 2000000 in
theorem pdqP_any (B blk cap : Nat) (ps : List (Int × Int)) (l : Int) (w : World) (hb : blk < w.heap.size) (hH : Sort.HoldsK encP 2 w blk 0 ps.toArray) (hl : ps.length ≤ 5) :
    Calls Tryd.prog 68 #[.slice (some ⟨blk, 0, none⟩) ps.length cap, .int .i64 0, .int .i64 ps.length, .int .i64 l, .func (.func 37) #[] #[]] w fun e w' =>
      e = .returned (.tuple #[]) ∧ ∃ n os, w' = sortWorldK encP 2 w blk 0 n (Sort.insertionSort (ltOf cmpP) ps.toArray 0 ps.length) os := by
  have eg : ∀ args w, (callFunc 37 args).run Tryd.prog w = .ok (.enter 37 args) w := enters_of Tryd.func37 (by kernel_rfl) rfl
  have hs : ps.toArray.size = ps.length := List.size_toArray
  have hi := AnyQ.insertionSortCmpFunc insLayC 2 (fun w => Tryd.isAgg28 w) (fun w => Tryd.sizeOf28 w) encP (fun _ => rfl) (fun x v hv => by simp [encP] at hv; rcases hv with rfl | rfl <;> rfl) cmpP 37 #[] blk 0 cap 0 ps.length ps.toArray w eg (cmpLays_P blk _ w) hH hb (Nat.zero_le _) (by omega) (by omega)
  rw [hs] at hi
  change Calls Tryd.prog 78 _ _ _ at hi
  generalize Sort.insertionSort (ltOf cmpP) ps.toArray 0 ps.length = d' at hi ⊢
  have hw1 : IntKind.i64.wrap ((ps.length : Int) - 0) = (ps.length : Int) := by rw [IntKind.wrap_i64]; omega
  have hl12 : (ps.length : Int) ≤ 12 := by omega
  have HI := Lib.hid hi
  clear hH eg hs hi
  go_enter Tryd.func68, Tryd.ntmps68
  go_wp2_with fail
  refine wp_loop_rounds 1 ?_
  rw [rounds_succ]
  go_wp2_with (go_at_call 78; refine HI.out.mono ?_; rintro e w' ⟨rfl, n, os, rfl⟩)
  (try simp only [Exit.inBlock, Exit.then]); refine bodyPost_ret (results_none rfl _ _ _) rfl ?_
  exact ⟨rfl, n, os, rfl⟩
set_option maxRecDepth 100000 in
set_option maxHeartbeats 2000000 in
/-- slices.SortFunc -/
theorem sortP_any (B blk cap : Nat) (ps : List (Int × Int)) (w : World) (e0 : TypeId) (ho : w.ownsRow B e0 2 (.slice (some ⟨blk, 0, none⟩) ps.length cap) ps.length (ctCells ps)) (hb : blk < w.heap.size) (hl : ps.length ≤ 5) :
    Calls Tryd.prog 50 #[.slice (some ⟨blk, 0, none⟩) ps.length cap, .func (.func 37) #[] #[]] w fun e w' =>
      e = .returned (.tuple #[]) ∧ ∃ D : List (Int × Int), D.Perm ps ∧ (D.Pairwise fun p q => gtP p q = false) ∧ RowF w' blk w'.heap.size (some ⟨blk, 0, none⟩) (D.length * 2) (ctF D) ∧ Below blk w w' := by
  have hH := holds_P ho
  have hsn : ∀ (n : Nat) (os : Array Obj), ∃ D : List (Int × Int), D.Perm ps ∧ (D.Pairwise fun p q => gtP p q = false) ∧ RowF (sortWorldK encP 2 w blk 0 n (Sort.insertionSort (ltOf cmpP) ps.toArray 0 ps.length) os) blk (sortWorldK encP 2 w blk 0 n (Sort.insertionSort (ltOf cmpP) ps.toArray 0 ps.length) os).heap.size (some ⟨blk, 0, none⟩) (D.length * 2) (ctF D) ∧ Below blk w (sortWorldK encP 2 w blk 0 n (Sort.insertionSort (ltOf cmpP) ps.toArray 0 ps.length) os) := by
    intro n os
    have hs : ps.toArray.size = ps.length := List.size_toArray
    obtain ⟨hperm, hsort⟩ := Sort.insertionSort_holds (lt := ltOf cmpP) swo_P ps.toArray 0 ps.length (Nat.zero_le _) (by omega)
    generalize Sort.insertionSort (ltOf cmpP) ps.toArray 0 ps.length = d' at hperm hsort ⊢
    obtain ⟨hsz, -, hp⟩ := hperm
    rw [hs] at hsz
    have hall : d'.toList.toArray = d' := Array.toArray_toList
    have hlen : d'.toList.length = ps.length := by rw [Array.length_toList, hsz]
    have hHd := holdsK_sortWorldK_c encP 2 w blk 0 ps.toArray d' n os hH hb (by rw [hs, hsz])
    have hbig := size_sortWorldK_c encP 2 w blk 0 n d' os
    refine ⟨d'.toList, ?_, ?_, ⟨fun j hj => ?_, Nat.le_refl _⟩, below_sortW w blk n hb d' os⟩
    · have e1 : d'.extract 0 ps.length = d' := by rw [← hsz]; exact Array.extract_size ..
      have e2 : ps.toArray.extract 0 ps.length = ps.toArray := by rw [← hs]; exact Array.extract_size ..
      rw [e1, e2] at hp
      simpa using hp
    · rw [List.pairwise_iff_getElem]
      intro i j hi hj hij
      rw [Array.length_toList] at hi hj
      have h9 := hsort i j (Nat.zero_le _) hij (by omega)
      have g1 : d'[i]! = d'[i] := getElem!_pos d' i hi
      have g2 : d'[j]! = d'[j] := getElem!_pos d' j hj
      rw [g1, g2] at h9
      unfold ltOf at h9
      rw [cmpP_lt] at h9
      simpa using h9
    · have h9 := hHd j (by rw [Sort.size_flatK, hsz]; rw [hlen] at hj; exact hj)
      rw [Nat.zero_add] at h9
      have h8 := ctF_enc hj
      rw [hall] at h8
      rw [h8] at h9
      exact ⟨blk, 0, rfl, Nat.le_refl _, Nat.lt_of_lt_of_le hb hbig, by rw [Nat.zero_add]; exact h9.1, by rw [Nat.zero_add]; exact h9.2⟩
  have HSN := Lib.hid hsn
  have hpd := fun l => pdqP_any B blk cap ps l w hb hH hl
  have HPD := Lib.hid hpd
  have hle := fun W => len_any ps.length hl W
  have e1 : IntKind.u64.wrap (ps.length : Int) = (ps.length : Int) := by rw [IntKind.wrap_u64]; omega
  clear ho hH hsn hpd
  go_enter Tryd.func50, Tryd.ntmps50
  go_wp2_with (first | (go_at_call 69; refine (hle _).mono ?_; rintro e w' ⟨⟨l, rfl⟩, rfl⟩) | (go_at_call 68; refine (HPD.out _).mono ?_; rintro e w' ⟨rfl, n, os, rfl⟩))
  go_end0
  exact ⟨rfl, HSN.out n os⟩
theorem mkPairs (W : World) (p : Nat) (hp : p ≤ 5) : (Instr.makeSlice 23 (.int .i64 0) (.int .i64 (p : Int))).run Tryd.prog W = .ok (.slice (some ⟨W.heap.size, 0, none⟩) 0 p) (W.alloc (.cells (Array.replicate (p * 2) (.int .i64 0)) 28)) := by
  rcases (by omega : p = 0 ∨ p = 1 ∨ p = 2 ∨ p = 3 ∨ p = 4 ∨ p = 5) with rfl | rfl | rfl | rfl | rfl | rfl <;> kernel_rfl
theorem heap_set_other (w : World) (b j : Nat) (v : Value) {k : Nat} (h : b ≠ k) : (w.setCell ⟨b, j, none⟩ v).heap[k]? = w.heap[k]? := by
  simp [World.setCell, Array.getElem?_modify, h]
theorem own_set {w : World} {B n b j : Nat} {e : TypeId} {g cg : Nat} {xs : List Value} (h : w.ownsRow B e 2 (.slice (some ⟨g, 0, none⟩) n cg) n xs) (hne : b ≠ g) (v : Value) : (w.setCell ⟨b, j, none⟩ v).ownsRow B e 2 (.slice (some ⟨g, 0, none⟩) n cg) n xs := by
  refine ⟨h.1, ?_⟩
  rcases h.2 with ⟨h1, h2⟩ | ⟨g', c', cur, hv, h1, h2, h3⟩
  · exact .inl ⟨h1, h2⟩
  · injection hv with e1 e2 e3
    injection e1 with e1; injection e1 with e1
    subst e1; subst e3
    exact .inr ⟨g, cg, cur, rfl, h1, (heap_set_other w b j v hne).trans h2, h3⟩
theorem own_eq {w w' : World} {B n : Nat} {e : TypeId} {g cg : Nat} {xs : List Value} (h : w.ownsRow B e 2 (.slice (some ⟨g, 0, none⟩) n cg) n xs) (hb : w'.heap[g]? = w.heap[g]?) : w'.ownsRow B e 2 (.slice (some ⟨g, 0, none⟩) n cg) n xs := by
  refine ⟨h.1, ?_⟩
  rcases h.2 with ⟨h1, h2⟩ | ⟨g', c', cur, hv, h1, h2, h3⟩
  · exact .inl ⟨h1, h2⟩
  · injection hv with e1 e2 e3
    injection e1 with e1; injection e1 with e1
    subst e1; subst e3
    exact .inr ⟨g, cg, cur, rfl, h1, hb.trans h2, h3⟩
theorem drop_at {L : List Int} {k : Nat} {x : Int} (h : L[k]? = some x) : L.drop k = x :: L.drop (k + 1) := by
  obtain ⟨hl, he⟩ := List.getElem?_eq_some_iff.1 h
  rw [List.drop_eq_getElem_cons hl, he]
theorem decF_bd {f : Int → Int} {l x : Int} {k : Nat} (h : ∀ v, -2 * (k : Int) ≤ f v ∧ f v ≤ 7) : ∀ v, -2 * ((k + 1 : Nat) : Int) ≤ decF f l x v ∧ decF f l x v ≤ 7 := fun v => by
  have := h v
  unfold decF
  split <;> split <;> omega
theorem decF_put (f : Int → Int) (lf x i : Nat) (F G : Int) (hF : f (lf : Int) = F) (hG : (if x = lf then F - 1 else f (x : Int)) = G) : (if i = x then G - 1 else if i = lf then F - 1 else f (i : Int)) = decF f lf x i := by
  unfold decF
  by_cases h1 : i = x
  · rw [if_pos h1, if_pos (show (i : Int) = (x : Int) by omega), ← hG]
    by_cases h2 : i = lf
    · rw [if_pos (show x = lf by omega), if_pos (show (i : Int) = (lf : Int) by omega), ← hF, h2]
    · rw [if_neg (show ¬ x = lf by omega), if_neg (show ¬ (i : Int) = (lf : Int) by omega), h1]
  · rw [if_neg h1, if_neg (show ¬ (i : Int) = (x : Int) by omega)]
    by_cases h2 : i = lf
    · rw [if_pos h2, if_pos (show (i : Int) = (lf : Int) by omega), ← hF, h2]
    · rw [if_neg h2, if_neg (show ¬ (i : Int) = (lf : Int) by omega)]
set_option maxRecDepth 100000 in
set_option maxHeartbeats 4000000 in
theorem TreeOfCode_any (n : Int) (Ar : Option Addr) (cr : Nat) (c : List Int) (w : World) (hi : RI w w.heap.size Ar c) (hlm : c.length ≤ 1073741824) :
    Calls Tryd.prog 17 #[.int .i64 n, .slice Ar c.length cr] w (NewCuts (treeOfCode n c) w) := by
  have HI := Lib.hid hi
  clear hi
  cases hok : codeOk n c
  · have HOK := Lib.hid hok
    rw [treeOf_none hok]
    unfold NewCuts
    clear hok
    go_enter Tryd.func17, Tryd.ntmps17
    go_wp2_with fail
    refine (CodeOk_any n Ar cr c _ HI.out hlm).mono ?_; rintro e1 w1 ⟨rfl, hb1⟩; rw [HOK.out]
    have HB1 := Lib.hid hb1
    clear hb1
    go_wp2_with fail
    refine bodyPost_ret (v := .tuple #[.slice none 0 0, .bool false]) (by simp [results, Tryd.results17, go_sem]) rfl ?_
    exact ⟨none, 0, rfl, HB1.out⟩
  · obtain ⟨m, rfl, h2, h6, hcb⟩ := codeOk_t hok
    obtain ⟨hcl, hcin⟩ := codeB_t hcb
    obtain ⟨ps, LT, hpr, hLT, hperm, hlo⟩ := pr_tree hok
    obtain ⟨p, hp⟩ : ∃ p, m = p + 1 := ⟨m - 1, by omega⟩
    have HOK := Lib.hid hok
    have HIN := Lib.hid hcin
    have HPERM := Lib.hid hperm
    have HLO := Lib.hid hlo
    have hc4 : c.length ≤ 4 := by omega
    have hcp : c.length + 1 = p := by omega
    have HCP := Lib.hid hcp
    obtain ⟨C, hC⟩ : ∃ C, c ++ [(m : Int) - 1] = C := ⟨_, rfl⟩
    have hC' : C = c ++ [(p : Int)] := by rw [← hC]; congr 2; omega
    rw [hC] at hpr
    have HPR := Lib.hid hpr
    have HCL : Hid (C.length = p) := by show _ = _; rw [hC', List.length_append]; exact hcp
    have HCI : Hid (∀ x, x ∈ C → 0 ≤ x ∧ x < (m : Int)) := fun x hx => by
      rw [hC', List.mem_append] at hx
      rcases hx with hx | hx
      · exact hcin x hx
      · rw [List.mem_singleton] at hx; omega
    have HCE : Hid (rlCells C = rlCells c ++ [.int .i64 (p : Int)]) := by show _ = _; rw [hC']; unfold rlCells; simp
    have HCB : Hid (∀ v : Int, -2 * ((0 : Nat) : Int) ≤ cntL c v ∧ cntL c v ≤ 7) := fun v => by have := cntL_bd c v; omega
    rw [hLT]
    unfold NewCuts
    clear hok hcb hcin hLT hpr hcl hperm hlo hC hC' hcp
    obtain ⟨i0, hi0, hz0, hz1', hz2⟩ := info_parts infoPr
    obtain ⟨i1, hi1, hy0, hy1, hy2⟩ := info_parts infoInt
    have hmk := fun W => mkPairs W p (by omega)
    have hwp : IntKind.i64.wrap ((m : Int) - 1) = (p : Int) := by rw [IntKind.wrap_i64]; omega
    have hwq : wrap64 ((m : Int) - 1) = (p : Int) := (IntWalk.wrap64_in _ ⟨by omega, by omega⟩).trans (by omega)
    have hp5 : p ≤ 5 := by omega
    have HMP := Lib.hid hp
    clear hp
    go_enter Tryd.func17, Tryd.ntmps17
    go_wp2_with fail
    refine (CodeOk_any (m : Int) Ar cr c _ HI.out hlm).mono ?_; rintro e1 w1 ⟨rfl, hb1⟩; rw [HOK.out]
    have HB1 := Lib.hid hb1
    clear hb1
    go_wp2_with fail
    refine (rowCounts_any m h2 h6 Ar cr c _ (HI.out.later HB1.out) hc4 HIN.out).mono ?_; rintro e2 w2 ⟨b0, rfl, hb0, hrow2, hb2⟩
    have HB2 : Hid (Below w.heap.size w w2) := bstep (B := w.heap.size) (W := w) HB1.out HB1.out.size hb2
    have hb0w : w.heap.size ≤ b0 := Nat.le_trans HB1.out.size hb0
    have hb0h : b0 < w2.heap.size := hrow2.lt
    have HROW2 := Lib.hid hrow2
    have HON3 : Hid ((w2.alloc (.cells (Array.replicate (p * 2) (.int .i64 0)) 28)).ownsRow w.heap.size 28 2 (.slice (some ⟨w2.heap.size, 0, none⟩) 0 p) 0 []) :=
      ⟨rfl, .inr ⟨w2.heap.size, p, _, rfl, HB2.out.size, heap_alloc_new _ _, Nat.zero_le _, by unfold maxLen; omega, by simp, rfl⟩⟩
    have HB3 : Hid (Below w.heap.size w (w2.alloc (.cells (Array.replicate (p * 2) (.int .i64 0)) 28))) := HB2.out.alloc HB2.out.size _
    have HRW3 : Hid (RowG (w2.alloc (.cells (Array.replicate (p * 2) (.int .i64 0)) 28)) b0 3 m (fun i => cntL c (i : Int))) := hrow2.alloc _
    obtain ⟨w3, hw3⟩ : ∃ w3, w2.alloc (.cells (Array.replicate (p * 2) (.int .i64 0)) 28) = w3 := ⟨_, rfl⟩
    have hs3 : w3.heap.size = w2.heap.size + 1 := by rw [← hw3]; simp
    rw [hw3] at HON3 HB3 HRW3
    clear hb2 hrow2 hb0 HROW2
    have hmk2 := hmk w2
    rw [hw3] at hmk2
    clear hmk
    go_wp2_with fail
    (try rw [hw3])
    clear hmk2 hw3
    refine (cloneInts_any Ar cr c w3 (HI.out.later HB3.out) (by omega)).mono ?_; rintro e4 w4 ⟨A4, c4, rfl, ho4, hb4⟩
    have HO4 := Lib.hid ho4
    have HB4 := Lib.hid hb4
    have hs4 : w3.heap.size ≤ w4.heap.size := hb4.size
    clear ho4 hb4
    go_wp2_with (at_builtin; refine wpList_append_lies _ rfl _ _ _ rfl w3.heap.size 3 i1 _ 1 8 Tryd.underlying30 hi1 hy0 hy1 hy2 rfl (by decide) (.slice A4 c.length c4) c.length (rlCells c) rfl (World.ownsRow.alloc HO4.out _) ⟨w4.heap.size, 0, none⟩ 1 1 [.int .i64 (p : Int)] rfl rfl (World.news_of_block (cs := #[.int .i64 (p : Int)]) (t := 3) (fr := (0, 0)) (heap_alloc_new w4 _)) (by simp [Value.oneCell']) (by omega) (by unfold maxLen; omega) (by omega) (by simp; omega) (w4.heap.size + 1) (by simp) ?_; intro g5 c5 w5 hown5 hgrow5 hat5 hlt5)
    have HB5 : Hid (Below w3.heap.size w3 w5) := below_app3 (HB4.out.alloc HB4.out.size (.cells #[.int .i64 (p : Int)] 3)) hgrow5 (World.ownsRow.alloc HO4.out _) (Nat.le_refl _)
    rw [← HCE.out, show c.length + 1 = C.length by rw [HCL.out, HCP.out]] at hown5
    have hg5 : w3.heap.size ≤ g5 := (hown5.lt g5 rfl).1
    have hrf5 := rowF_of_own hown5 (fun j hj => rlCells_at hj)
    have HRI5 : Hid (∀ (j : Nat) (x : Int), C[j]? = some x → w5.cell? ⟨g5, j, none⟩ = some (.int .i64 x)) := fun j x hx => by
      obtain ⟨b, o, ha, -, -, hc, -⟩ := hrf5.at_ j (List.getElem?_eq_some_iff.1 hx).1
      injection ha with ha; injection ha with e1 e2; subst e1; subst e2
      rw [Nat.zero_add, getD_at hx] at hc
      exact hc
    have HRW5 : Hid (RowG w5 b0 3 m (fun i => cntL c (i : Int))) := HRW3.out.below HB5.out (by omega)
    have HON5 : Hid (w5.ownsRow w.heap.size 28 2 (.slice (some ⟨w2.heap.size, 0, none⟩) ([] : List (Int × Int)).length p) ([] : List (Int × Int)).length (ctCells [])) := own_eq HON3.out (HB5.out.block _ (by omega))
    have HBW5 : Hid (Below w.heap.size w w5) := bstep (B := w.heap.size) (W := w) HB3.out HB3.out.size HB5.out
    have hs5 : w3.heap.size ≤ w5.heap.size := HB5.out.size
    have hcl5 : C.length ≤ 5 := by rw [HCL.out]; omega
    have hlc : c.length + 1 = C.length := by rw [HCL.out, HCP.out]
    clear hown5 hgrow5 hat5 hrf5 HON3 HB3 HRW3 HO4 HB4 HB5 HB1 HB2
    (try go_wp2_with fail)
    (try rw [hlc])
    go_loopw [7, 28] (fun v7 v28 wr => ∃ (k : Nat) (f : Int → Int) (qs : List (Int × Int)) (g cg : Nat), k ≤ C.length ∧ v28 = .int .i64 k ∧ v7 = .slice (some ⟨g, 0, none⟩) qs.length cg ∧ qs.length = k ∧ prGo m (C.drop k) f qs = some ps ∧ (∀ v, -2 * (k : Int) ≤ f v ∧ f v ≤ 7) ∧ RowG wr b0 3 m (fun i => f (i : Int)) ∧ wr.ownsRow w.heap.size 28 2 (.slice (some ⟨g, 0, none⟩) qs.length cg) qs.length (ctCells qs) ∧ g ≠ b0 ∧ g ≠ g5 ∧ wr.heap[g5]? = w5.heap[g5]? ∧ Below w.heap.size w wr ∧ g < wr.heap.size ∧ g5 < wr.heap.size) (fun _ i _ => C.length - (intOf i).toNat)
    case atStart => exact ⟨0, cntL c, [], w2.heap.size, p, Nat.zero_le _, rfl, rfl, rfl, HPR.out, HCB.out, HRW5.out, HON5.out, by omega, by omega, rfl, HBW5.out, by omega, hlt5⟩
    case round =>
      clear HRW5 HON5 HBW5 HPR HCB
      obtain ⟨k, f, qs, g, cg, hk, rfl, rfl, hqk, hgo, hfb, hrow, hown, hgb, hgg, hhe, hbl, hgs, hg5s⟩ := hrel
      have HGO := Lib.hid hgo
      have HFB := Lib.hid hfb
      have HROW := Lib.hid hrow
      have HOWN := Lib.hid hown
      have HHE := Lib.hid hhe
      have HBL := Lib.hid hbl
      have hk0 : (0 : Int) ≤ (k : Int) := by omega
      clear hgo hfb hrow hown hhe hbl
      by_cases hlt : k < C.length
      · have hk1 : (k : Int) < (C.length : Int) := by omega
        obtain ⟨xi, hxi⟩ : ∃ x, C[k]? = some x := ⟨_, List.getElem?_eq_getElem hlt⟩
        obtain ⟨x0, x1⟩ := HCI.out xi (List.mem_of_getElem? hxi)
        obtain ⟨x, rfl⟩ := Int.eq_ofNat_of_zero_le x0
        have hxm : x < m := by omega
        have hgo := HGO.out
        rw [drop_at hxi] at hgo
        obtain ⟨hlf, hnx⟩ := prGo_step hgo
        obtain ⟨lf, hlfe⟩ : ∃ lf, leafOf m f = lf := ⟨_, rfl⟩
        rw [hlfe] at hlf hnx
        have q5 : wr.cell? ⟨g5, k, none⟩ = some (.int .i64 (x : Int)) := (World.cell?_of_block HHE.out).trans (HRI5.out k _ hxi)
        have HLEAF := Lib.hid (leastLeaf_any b0 m m lf f wr HROW.out h6 hlfe hlf)
        obtain ⟨F, hF⟩ : ∃ F, f (lf : Int) = F := ⟨_, rfl⟩
        have d0 := HROW.out.cell hlf
        have f0 := HROW.out.frozen lf
        rw [hF] at d0
        have hFb := HFB.out (lf : Int)
        rw [hF] at hFb
        obtain ⟨G, hG⟩ : ∃ G, (if x = lf then F - 1 else f (x : Int)) = G := ⟨_, rfl⟩
        have hGb := HFB.out (x : Int)
        have hGc : -2 * (k : Int) - 1 ≤ G ∧ G ≤ 7 := by rw [← hG]; split <;> omega
        obtain ⟨W9, hW9⟩ : ∃ W9, wr.setCell ⟨b0, lf, none⟩ (.int .i64 (F - 1)) = W9 := ⟨_, rfl⟩
        have HRW9 : Hid (RowG W9 b0 3 m (fun i => if i = lf then F - 1 else f (i : Int))) := by rw [← hW9]; exact HROW.out.put hlf (F - 1)
        have d9 := HRW9.out.cell hxm
        have f9 := HRW9.out.frozen x
        rw [hG] at d9
        obtain ⟨W10, hW10⟩ : ∃ W10, W9.setCell ⟨b0, x, none⟩ (.int .i64 (G - 1)) = W10 := ⟨_, rfl⟩
        have HRW10 : Hid (RowG W10 b0 3 m (fun i => decF f lf x (i : Int))) := by
          show RowG _ _ _ _ _
          rw [← hW10]
          exact (HRW9.out.put hxm (G - 1)).congr fun i hi => decF_put f lf x i F G hF hG
        have HO10 : Hid (W10.ownsRow w.heap.size 28 2 (.slice (some ⟨g, 0, none⟩) qs.length cg) qs.length (ctCells qs)) := by
          show World.ownsRow _ _ _ _ _ _ _
          rw [← hW10, ← hW9]; exact own_set (own_set HOWN.out hgb.symm _) hgb.symm _
        have hs10 : W10.heap.size = wr.heap.size := by rw [← hW10, ← hW9]; simp [World.setCell]
        have HS10 := Lib.hid hs10
        have hg10 : g5 < W10.heap.size ∧ g < W10.heap.size := by omega
        have hg5b : b0 ≠ g5 := by omega
        clear hs10
        have HE10 : Hid (W10.heap[g5]? = w5.heap[g5]?) := by
          show _ = _
          rw [← hW10, heap_set_other _ _ _ _ hg5b, ← hW9, heap_set_other _ _ _ _ hg5b]; exact HHE.out
        have HBL10 : Hid (Below w.heap.size w W10) := by
          show Below _ _ _
          rw [← hW10, ← hW9]; exact (HBL.out.setCell (p := ⟨b0, lf, none⟩) hb0w _).setCell (p := ⟨b0, x, none⟩) hb0w _
        have hw1 : IntKind.i64.wrap (F - 1) = F - 1 := IntWalk.i64_in _ ⟨by omega, by omega⟩
        have hw2 : wrap64 (F - 1) = F - 1 := IntWalk.wrap64_in _ ⟨by omega, by omega⟩
        have hw3 : IntKind.i64.wrap (G - 1) = G - 1 := IntWalk.i64_in _ ⟨by omega, by omega⟩
        have hw4 : wrap64 (G - 1) = G - 1 := IntWalk.wrap64_in _ ⟨by omega, by omega⟩
        obtain ⟨e1, e2⟩ := mkP_forms (lf : Int) (x : Int)
        obtain ⟨⟨p1, p2⟩, hpp⟩ : ∃ q, mkP (lf : Int) (x : Int) = q := ⟨_, rfl⟩
        rw [hpp] at e1 e2 hnx
        simp only at e1 e2
        have HNX := Lib.hid hnx
        have hql : qs.length ≤ 5 := by omega
        have hlm2 : (lf : Int) < (m : Int) := by omega
        have hl0 : (0 : Int) ≤ (lf : Int) := by omega
        have HQK := Lib.hid hqk
        clear hgo hnx hlfe hF hG hpp hxi hFb hGb hGc hqk
        go_wp2_with fail
        refine HLEAF.out.mono ?_; rintro e6 w6 ⟨rfl, rfl⟩
        go_wp2_with (at_builtin; refine wpList_append_lies _ rfl _ _ _ rfl w.heap.size 28 i0 _ 2 16 Tryd.underlying23 hi0 hz0 hz1' hz2 rfl (by decide) (.slice (some ⟨g, 0, none⟩) qs.length cg) qs.length (ctCells qs) rfl (World.ownsRow.alloc HO10.out _) ⟨W10.heap.size, 0, none⟩ 1 1 [.int .i64 p1, .int .i64 p2] rfl rfl (World.news_of_block (cs := #[.int .i64 p1, .int .i64 p2]) (t := 28) (fr := (0, 0)) (heap_alloc_new W10 _)) (by simp [Value.oneCell']) (by omega) (by unfold maxLen; omega) (by omega) (by have := HBL10.out.size; simp; omega) (W10.heap.size + 1) (by simp) ?_; intro g7 c7 w7 hown7 hgrow7 hat7 hlt7)
        have hg7 : g7 = g ∨ g7 = W10.heap.size + 1 := by
          rcases hat7 with h9 | h9
          · simp [Value.ownBlock] at h9; exact .inl h9.symm
          · exact .inr h9
        have HRW7 : Hid (RowG w7 b0 3 m (fun i => decF f lf x (i : Int))) := (HRW10.out.alloc _).grown hgrow7 (by simp [Value.ownBlock]; exact hgb)
        have HE7 : Hid (w7.heap[g5]? = w5.heap[g5]?) := (hgrow7.block g5 (by simp; omega) (by simp [Value.ownBlock]; exact fun h => hgg h.symm)).trans ((heap_alloc_old W10 _ (by omega)).trans HE10.out)
        have HBL7 : Hid (Below w.heap.size w w7) := below_app3 (HBL10.out.alloc HBL10.out.size (.cells #[.int .i64 p1, .int .i64 p2] 28)) hgrow7 (World.ownsRow.alloc HO10.out _) (Nat.le_refl _)
        have HON7 : Hid (w7.ownsRow w.heap.size 28 2 (.slice (some ⟨g7, 0, none⟩) (qs ++ [(p1, p2)]).length c7) (qs ++ [(p1, p2)]).length (ctCells (qs ++ [(p1, p2)]))) := by
          show World.ownsRow _ _ _ _ _ _ _
          rw [ctCells_app, List.length_append]; exact hown7
        have hs7 : W10.heap.size + 1 ≤ w7.heap.size := by have := hgrow7.size; simpa using this
        have HLQ : Hid ((qs ++ [(p1, p2)]).length = k + 1) := by show _ = _; rw [List.length_append, HQK.out]; rfl
        have HLQ2 : Hid ((qs ++ [(p1, p2)]).length = qs.length + 1) := by show _ = _; rw [List.length_append]; rfl
        clear hown7 hgrow7 hat7 hw1 hw2 hw3 hw4 hW9 hW10
        (try go_wp2_with fail)
        go_roundw
        case rel => exact ⟨k + 1, decF f lf x, qs ++ [(p1, p2)], g7, c7, by omega, by go_num, by rw [HLQ2.out], HLQ.out, HNX.out, decF_bd HFB.out, HRW7.out, HON7.out, by omega, by omega, HE7.out, HBL7.out, hlt7, by omega⟩
        case measure => (simp [intOf]) <;> omega
      · obtain rfl : k = C.length := by omega
        have hgo := HGO.out
        rw [List.drop_length] at hgo
        have HPE := Lib.hid (prGo_end hgo)
        have hql : qs.length ≤ 5 := by omega
        have HSORT := Lib.hid (sortP_any w.heap.size g cg qs wr _ HOWN.out hgs hql)
        have hgw : w.heap.size ≤ g := (HOWN.out.lt g rfl).1
        clear hgo hqk
        go_wp2_with fail
        refine HSORT.out.mono ?_; rintro e8 w8 ⟨rfl, D, hD1, hD2, hD3, hD4⟩
        have hDL : D = LT := sorted_is HLO.out ((hD1.trans (by rw [HPE.out])).trans HPERM.out.symm) hD2
        subst hDL
        have hDlen : D.length = qs.length := hD1.length_eq
        have HD3 := Lib.hid hD3
        have HBF : Hid (Below w.heap.size w w8) := HBL.out.trans (hD4.mono hgw)
        have HDL := Lib.hid hDlen
        clear hD1 hD2 hD3 hD4 hDlen
        go_wp2_with fail
        refine bodyPost_ret (v := .tuple #[.slice (some ⟨g, 0, none⟩) qs.length cg, .bool true]) (by simp [results, Tryd.results17, go_sem]) rfl ?_
        rw [← HDL.out]
        exact ⟨some ⟨g, 0, none⟩, cg, g, w8.heap.size, rfl, HD3.out, hgw, HBF.out⟩
end Go.Proofs.YtimccjmphdkbjaaDoor
