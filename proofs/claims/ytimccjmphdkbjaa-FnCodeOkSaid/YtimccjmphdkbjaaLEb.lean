/- The walk of FnCodeOk. -/
import Derived.Test.YtimccjmphdkbjaaPcI
import Derived.Test.YtimccjmphdkbjaaPdB
import Derived.Test.YtimccjmphdkbjaaWLab
set_option linter.unusedSimpArgs false
set_option linter.unusedVariables false
attribute [local go_sem ↓] Go.wp_at_zero Go.wp_at_succ
namespace Go.Proofs.Ytimccjmphdkbjaa
open Go.ChangeShapes Go.WideShapes Go.ChangeAt Go.RowKit

theorem RI.news {w : World} {B b o : Nat} {L : List Int} (h : RI w B (some ⟨b, o, none⟩) L) : ∀ j u, (rlCells L)[j]? = some u → w.cell? ((⟨b, o, none⟩ : Addr).add j) = some u := fun j u hu => by
  have hj : j < L.length := by
    have := (List.getElem?_eq_some_iff.1 hu).1
    rwa [rlCells_len] at this
  obtain ⟨b', o', e, -, c0⟩ := h.at_ hj
  injection e with e; injection e with e1 e2; subst e1; subst e2
  rw [rlCells_at hj] at hu
  obtain rfl := Option.some.inj hu
  by_cases h0 : j = 0
  · subst h0; simpa [Addr.add] using c0
  · simpa [Addr.add, h0] using c0
theorem rlCells_one : ∀ (L : List Int) (u : Value), u ∈ rlCells L → u.oneCell' = true := fun L u h => by
  unfold rlCells at h
  obtain ⟨x, _, rfl⟩ := List.mem_map.1 h
  rfl
theorem codeOk_rev (n : Int) (c : List Int) : codeOk n c.reverse = codeOk n c := by
  unfold codeOk codeB
  rw [List.length_reverse, List.all_reverse]
theorem codeOk_e2 : codeOk 2 [] = true := by decide
theorem codeOk_e1 : codeOk 1 [] = false := by decide
theorem rev_take {L : List Int} {k : Nat} {x : Int} (h : L[k]? = some x) : (L.take (k + 1)).reverse = x :: (L.take k).reverse := by
  rw [List.take_add_one, h]; simp
theorem RI.nil_ (w : World) (A : Option Addr) : RI w w.heap.size A [] := fun i x hx => by simp at hx
set_option maxRecDepth 100000 in
set_option maxHeartbeats 4000000 in
theorem FnCodeOk_walk (A : Option Addr) (len cap : Nat) (w : World) (hr : RB w w.heap.size A len) (hc : len ≤ cap) (hlen : len ≤ 9223372036854775807) :
    Calls Try.prog 3 #[.slice A len cap] w fun e w' => e = .returned (.bool true) ∧ Below w.heap.size w w' := by
  have HR := Lib.hid hr
  clear hr
  by_cases hm : 1048576 < len
  · go_enter Try.func3, Try.ntmps3
    go_wp2_with fail
    go_ret
    exact ⟨rfl, Below.refl _ _⟩
  · obtain ⟨i0, hi0, hz0, hz1', hz2⟩ := info_parts infoInt
    have hbs := emptyInts
    go_enter Try.func3, Try.ntmps3
    go_wp2_with fail
    refine (DrawCodeOk_any A len cap _ HR.out hc (by omega)).mono ?_
    rintro e wd ⟨P, bc, cc, cs, rfl, hri, h5, p1, p7, -, -, hbd⟩
    have HRI := Lib.hid hri
    have HBD := Lib.hid hbd
    obtain ⟨Z, hZ⟩ : ∃ Z, codeOk P cs = Z := ⟨_, rfl⟩
    have HZ := Lib.hid hZ
    clear hri hbd hZ hm
    go_wp2_with fail
    refine (CodeOk_any P _ cc cs _ HRI.out (by omega)).mono ?_; rintro e1 w1 ⟨rfl, hb1⟩; rw [HZ.out]
    have HB1 := Lib.hid (bstep (B := w.heap.size) (W := w) HBD.out HBD.out.size hb1)
    have HR1 := Lib.hid (HRI.out.later hb1)
    clear hb1
    cases Z
    all_goals
      go_wp2_with fail
      refine (sCodeOk_any P _ cc cs _ HR1.out (by omega)).mono ?_; rintro e2 w2 ⟨rfl, rfl⟩; rw [HZ.out]
      have HB2 := Lib.hid (HB1.out.alloc HB1.out.size (.cells #[] 3))
      have HR2 := Lib.hid (HR1.out.later ((Below.refl _ _).alloc (Nat.le_refl _) (.cells #[] 3)))
      go_wp2_with fail
      go_loopw [6, 7] (fun v i wr => ∃ (k b6 c6 : Nat), k ≤ cs.length ∧ i = .int .i64 (k : Int) ∧ v = .slice (some ⟨b6, 0, none⟩) k c6 ∧ RI wr wr.heap.size (some ⟨b6, 0, none⟩) (cs.take k).reverse ∧ RI wr wr.heap.size (some ⟨bc, 0, none⟩) cs ∧ Below w.heap.size w wr) (fun _ i _ => cs.length - (intOf i).toNat)
      case atStart => exact ⟨0, _, 0, Nat.zero_le _, rfl, rfl, RI.nil_ _ _, HR2.out, HB2.out⟩
      case round =>
        clear HB2 HR2 HB1 HR1
        obtain ⟨k, b6, c6, hk, rfl, rfl, hbk, hcs, hb⟩ := hrel
        have HBK := Lib.hid hbk
        have HCS := Lib.hid hcs
        have HB := Lib.hid hb
        have hk0 : (0 : Int) ≤ (k : Int) := by omega
        have hlk : ((cs.take k).reverse).length = k := by rw [List.length_reverse, List.length_take]; omega
        have HLK := Lib.hid hlk
        clear hbk hb hlk
        by_cases hlt : k < cs.length
        · have hk1 : (k : Int) < (cs.length : Int) := by omega
          obtain ⟨x, hx⟩ : ∃ x, cs[k]? = some x := ⟨_, List.getElem?_eq_getElem hlt⟩
          obtain ⟨b', o', e9, hB', c0⟩ := hcs.at_ hlt
          injection e9 with e9; injection e9 with e91 e92; subst e91; subst e92
          rw [getD_at hx] at c0
          simp only [Nat.zero_add] at c0
          have HX := Lib.hid (rev_take hx)
          have hon : Hid ((wr.alloc (.cells #[.int .i64 x] 3)).ownsRow wr.heap.size 3 1 (.slice (some ⟨wr.heap.size, 0, none⟩) 1 1) 1 (rlCells [x])) := ⟨rfl, .inr ⟨wr.heap.size, 1, #[.int .i64 x], rfl, Nat.le_refl _, heap_alloc_new _ _, Nat.le_refl _, by unfold maxLen; omega, rfl, rfl⟩⟩
          have hnw := Lib.hid ((HBK.out.later ((Below.refl wr.heap.size wr).alloc (Nat.le_refl _) (.cells #[.int .i64 x] 3))).news)
          clear hx hcs
          go_wp2_with (at_builtin; refine wpList_append_rest rfl _ _ _ rfl wr.heap.size 3 i0 _ 1 8 Try.underlying23 hi0 hz0 hz1' hz2 rfl (by decide) (.slice (some ⟨wr.heap.size, 0, none⟩) 1 1) 1 (rlCells [x]) rfl hon.out ⟨b6, 0, none⟩ k c6 (rlCells (cs.take k).reverse) rfl (by rw [rlCells_len, HLK.out, Nat.mul_one]) hnw.out (rlCells_one _) (by unfold maxLen; omega) (by omega) (by simp) ?_; intro A9 c9 w9 hown9 hg9; have HG9 := Lib.hid (below_grow ((Below.refl wr.heap.size wr).alloc (Nat.le_refl _) (.cells #[.int .i64 x] 3)) hg9 (Nat.le_refl _)); have HO9 := Lib.hid hown9; clear hown9 hg9)
          (try go_wp2_with fail)
          obtain ⟨g9, hg9, -, -⟩ := own_some HO9.out (by omega)
          subst hg9
          go_roundw
          case rel =>
            have hrow : w9.ownsRow wr.heap.size 3 1 (.slice (some ⟨g9, 0, none⟩) (1 + k) c9) (1 + k) (rlCells ((cs.take (k + 1)).reverse)) := by rw [HX.out]; exact HO9.out
            have hlen9 : ((cs.take (k + 1)).reverse).length = 1 + k := by rw [List.length_reverse, List.length_take]; omega
            have hri9 : RI w9 w9.heap.size (some ⟨g9, 0, none⟩) (cs.take (k + 1)).reverse := by
              refine RowF.ri (lo := wr.heap.size) (hi := w9.heap.size) ?_
              rw [hlen9]
              exact rowF_of_own hrow (fun j hj => rlCells_at (by rw [hlen9]; exact hj))
            exact ⟨k + 1, g9, c9, by omega, by go_num, by rw [Nat.add_comm], hri9, HCS.out.later HG9.out, bstep HB.out HB.out.size HG9.out⟩
          case measure => (simp [intOf]) <;> omega
        · obtain rfl : k = cs.length := by omega
          have HRV : Hid (RI wr wr.heap.size (some ⟨b6, 0, none⟩) cs.reverse) := by have h9 := HBK.out; rw [List.take_length] at h9; exact h9
          have HC3 : Hid (∀ W : World, RI W W.heap.size (some ⟨b6, 0, none⟩) cs.reverse → Calls Try.prog 9 #[.int .i64 P, .slice (some ⟨b6, 0, none⟩) cs.length c6] W fun en w' => en = .returned (.bool (codeOk P cs)) ∧ Below W.heap.size W w') := fun W h => by
            have h9 := CodeOk_any P (some ⟨b6, 0, none⟩) c6 cs.reverse W h (by rw [List.length_reverse]; omega)
            rw [codeOk_rev, List.length_reverse] at h9
            exact h9
          have HC4 : Hid (∀ (W : World) (Ar : Option Addr) (cr : Nat), Calls Try.prog 9 #[.int .i64 2, .slice Ar 0 cr] W fun en w' => en = .returned (.bool true) ∧ Below W.heap.size W w') := fun W Ar cr => by
            have h9 := CodeOk_any 2 Ar cr [] W (RI.nil_ _ _) (by simp)
            rw [codeOk_e2] at h9
            exact h9
          have HC5 : Hid (∀ (W : World) (Ar : Option Addr) (cr : Nat), Calls Try.prog 9 #[.int .i64 1, .slice Ar 0 cr] W fun en w' => en = .returned (.bool false) ∧ Below W.heap.size W w') := fun W Ar cr => by
            have h9 := CodeOk_any 1 Ar cr [] W (RI.nil_ _ _) (by simp)
            rw [codeOk_e1] at h9
            exact h9
          clear hcs
          go_wp2_with fail
          refine (HC3.out _ HRV.out).mono ?_; rintro e5 w5 ⟨rfl, hb5⟩; rw [HZ.out]
          have HB5 := Lib.hid (bstep (B := w.heap.size) (W := w) HB.out HB.out.size hb5)
          have hs5 := HB5.out.size
          clear hb5
          go_wp2_with fail
          refine (HC4.out _ _ _).mono ?_; rintro e6 w6 ⟨rfl, hb6⟩
          have HB6 := Lib.hid (bstep (B := w.heap.size) (W := w) (HB5.out.alloc hs5 (.cells #[] 3)) (by simp; omega) hb6)
          have hs6 := HB6.out.size
          clear hb6
          go_wp2_with fail
          refine (HC5.out _ _ _).mono ?_; rintro e7 w7 ⟨rfl, hb7⟩
          have HB7 := Lib.hid (bstep (B := w.heap.size) (W := w) (HB6.out.alloc hs6 (.cells #[] 3)) (by simp; omega) hb7)
          clear hb7
          go_wp2_with fail
          refine (alive_any _).mono ?_; rintro e8 w8 ⟨rfl, hb8⟩
          have HB8 := Lib.hid (bstep (B := w.heap.size) (W := w) HB7.out HB7.out.size hb8)
          clear hb8
          go_wp2_with fail
          go_ret
          exact ⟨rfl, HB8.out⟩
end Go.Proofs.Ytimccjmphdkbjaa
