/- The draw of places and a code. The draw of places and pairs. -/
import Derived.Test.YtimccjmphdkbjaaDoorPdA
import Derived.Test.YtimccjmphdkbjaaDoorPcF
import Derived.Test.YtimccjmphdkbjaaDoorWF
import Derived.Test.YtimccjmphdkbjaaDoorWP
import Derived.Test.YtimccjmphdkbjaaDoorWM
import Derived.Test.YtimccjmphdkbjaaDoorPdB
set_option linter.unusedSimpArgs false
set_option linter.unusedVariables false
attribute [local go_sem ↓] Go.wp_at_zero Go.wp_at_succ
namespace Go.Proofs.YtimccjmphdkbjaaDoor
open Go.ChangeShapes Go.WideShapes Go.ChangeAt Go.RowKit

/-- numbers under way: w0 the world at the beginning -/
structure CoSt (w0 w : World) (t tc : TypeId) (g : Nat) (A : Option Addr) (len cap : Nat) (m : Int) (v : Value) (cs : List Int) : Prop where
  rdr : RdrE w t g A len cap m
  gr : w0.grownBy w (some g)
  own : w.ownsRow w0.heap.size tc 1 v cs.length (rlCells cs)
  glt : g < w0.heap.size
section
variable {w0 w1 w w' : World} {t tc : TypeId} {g : Nat} {A : Option Addr} {len cap : Nat} {m m' : Int} {v : Value} {cs : List Int}
theorem CoSt.start (hr : RdrE w1 t g A len cap m) (hg : w0.grownBy w1 (some g)) (hlt : g < w0.heap.size) :
    CoSt w0 (w1.alloc (.cells #[] tc)) t tc g A len cap m (.slice (some ⟨w1.heap.size, 0, none⟩) 0 0) [] := by
  have h1 := hr.lt
  refine ⟨hr.keep fun k hk => heap_alloc_old w1 _ (by omega), only_alloc hg _, ⟨rfl, .inr ⟨w1.heap.size, 0, #[], rfl, hg.size, heap_alloc_new _ _, Nat.le_refl _, Nat.zero_le _, rfl, rfl⟩⟩, hlt⟩
theorem CoSt.keep (h : CoSt w0 w t tc g A len cap m v cs) (hr : RdrE w' t g A len cap m') (hg : w.grownBy w' (some g)) : CoSt w0 w' t tc g A len cap m' v cs := by
  have h1 := h.glt
  refine ⟨hr, only_trans h.gr hg, h.own.kept hg ?_, h1⟩
  right; intro e; have := h.own.lt g e; omega
theorem CoSt.more (h : CoSt w0 w t tc g A len cap m v cs) (hm : m ≤ m') : CoSt w0 w t tc g A len cap m' v cs := h.keep (h.rdr.more hm) (World.grownBy.refl w _)
theorem CoSt.alloc (h : CoSt w0 w t tc g A len cap m v cs) (o : Obj) : CoSt w0 (w.alloc o) t tc g A len cap m v cs :=
  h.keep (h.rdr.keep fun k hk => heap_alloc_old w _ (by have := h.rdr.lt; omega)) (only_alloc (World.grownBy.refl w _) _)
theorem CoSt.append (h : CoSt w0 w t tc g A len cap m v cs) (x : Int) {o : Obj} {w3 : World} {gg c : Nat}
    (hown : w3.ownsRow w0.heap.size tc 1 (.slice (some ⟨gg, 0, none⟩) (cs.length + 1) c) (cs.length + 1) (rlCells cs ++ [.int .i64 x])) (hg : (w.alloc o).grownBy w3 v.ownBlock) :
    CoSt w0 w3 t tc g A len cap m (.slice (some ⟨gg, 0, none⟩) (cs.length + 1) c) (cs ++ [x]) := by
  have h1 := h.glt
  have h2 := h.gr.size
  have hlt : ∀ k, v.ownBlock = some k → w0.heap.size ≤ k := fun k hk => (h.own.lt k hk).1
  have hblk : ∀ k, k < w0.heap.size → w3.heap[k]? = w.heap[k]? := fun k hk => by
    rw [hg.block k (by simp; omega) (fun e => by have := hlt k e.symm; omega)]
    exact Below.heap_alloc _ _ _ (by omega)
  have hsz := hg.size
  simp only [World.size_alloc] at hsz
  refine ⟨h.rdr.keep fun k hk => hblk k (by omega), ⟨hg.os.trans h.gr.os, hg.tape.trans h.gr.tape, hg.output.trans h.gr.output, by omega, fun k hk hne => (hblk k hk).trans (h.gr.block k hk hne)⟩, ?_, h1⟩
  rw [rlCells_snoc, List.length_append]; exact hown
theorem CoSt.put {gg c : Nat} (h : CoSt w0 w t tc g A len cap m (.slice (some ⟨gg, 0, none⟩) cs.length c) cs) (j : Nat) (x : Int) :
    CoSt w0 (w.setCell ⟨gg, j, none⟩ (.int .i64 x)) t tc g A len cap m (.slice (some ⟨gg, 0, none⟩) cs.length c) (cs.set j x) := by
  have h1 := h.glt
  have h2 := (h.own.lt gg rfl).1
  refine ⟨h.rdr.keep fun k hk => Below.heap_setCell _ _ _ _ (by simp; omega), only_setCell h.gr (.inr h2) _, ?_, h1⟩
  have h9 := (h.own.stored j (.int .i64 x)).1
  rw [List.length_set]
  have e : (rlCells cs).set j (.int .i64 x) = rlCells (cs.set j x) := by unfold rlCells; rw [List.map_set]
  rw [← e]; exact h9
end
/-- some places, some code -/
def CoPost (w : World) (t : TypeId) (g : Nat) (A : Option Addr) (len cap : Nat) (m n : Int) (e : Ending) (w' : World) : Prop :=
  ∃ (P : Int) (bc cc : Nat) (cs : List Int), e = .returned (.tuple #[.int .i64 P, .slice (some ⟨bc, 0, none⟩) cs.length cc]) ∧ CoSt w w' t 3 g A len cap (m + 40) (.slice (some ⟨bc, 0, none⟩) cs.length cc) cs ∧ cs.length ≤ 5 ∧ 1 ≤ P ∧ P ≤ 7 ∧ (n = 0 → 2 ≤ P ∧ P ≤ 6 ∧ codeOk P cs = true)
theorem odd0 (g : Nat) (w : World) :
    Calls Tryd.prog 61 #[.pointer (some ⟨g, 0, none⟩), .int .i64 0] w fun e w' => e = .returned (.bool false) ∧ w' = w := by
  go_enter Tryd.func61, Tryd.ntmps61
  go_wp2_with fail
  go_ret
  exact ⟨rfl, rfl⟩
theorem oddN (g : Nat) (A : Option Addr) (len cap : Nat) (m n : Int) (w : World) (hr : RdrE w 79 g A len cap m) (hm : m ≤ 1000000) (h0 : 0 ≤ n) (hn : n ≤ 1048576) :
    Calls Tryd.prog 61 #[.pointer (some ⟨g, 0, none⟩), .int .i64 n] w fun e w' => ∃ q : Bool, e = .returned (.bool q) ∧ RdrE w' 79 g A len cap (m + 1) ∧ w.grownBy w' (some g) ∧ (n = 0 → q = false) := by
  by_cases hz : n = 0
  · subst hz
    refine (odd0 g w).mono ?_; rintro e w' ⟨rfl, rfl⟩
    exact ⟨false, rfl, hr.more (by omega), World.grownBy.refl _ _, fun _ => rfl⟩
  · refine (oddE g A len cap m n w hr hm (by omega) hn).mono ?_; rintro e w' ⟨q, rfl, h1, h2, -⟩
    exact ⟨q, rfl, h1, h2, fun h => absurd h hz⟩
set_option maxRecDepth 100000 in
set_option maxHeartbeats 4000000 in
theorem l20Code_any (g : Nat) (A : Option Addr) (len cap : Nat) (m n : Int) (w : World) (hr : RdrE w 79 g A len cap m) (hm : m ≤ 700000) (h0 : 0 ≤ n) (hn : n ≤ 1000) :
    Calls Tryd.prog 51 #[.pointer (some ⟨g, 0, none⟩), .int .i64 n] w (CoPost w 79 g A len cap m n) := by
  have hg := hr.lt
  have HR := Lib.hid hr
  clear hr
  have hbs := emptyInts
  obtain ⟨i0, hi0, hz0, hz1', hz2⟩ := info_parts infoInt
  go_enter Tryd.func51, Tryd.ntmps51
  go_wp2_with fail
  refine (pickE g A len cap m 5 _ HR.out (by omega) (by omega)).mono ?_; rintro e1 w1 ⟨q, rfl, hq0, hq1, hr1, hg1, -⟩
  have hq4 := hq1 (by omega)
  obtain ⟨N, rfl⟩ := Int.eq_ofNat_of_zero_le hq0
  have HWP : Hid (IntKind.i64.wrap (2 + (N : Int)) = ((N + 2 : Nat) : Int)) := by show _ = _; rw [IntWalk.i64_in _ ⟨by omega, by omega⟩]; omega
  have HWP2 : Hid (wrap64 (2 + (N : Int)) = ((N + 2 : Nat) : Int)) := by show _ = _; rw [IntWalk.wrap64_in _ ⟨by omega, by omega⟩]; omega
  have S0 := Lib.hid (CoSt.start (w0 := w) (tc := 3) hr1 hg1 hg)
  obtain ⟨P, hP⟩ : ∃ P : Nat, N + 2 = P := ⟨_, rfl⟩
  have HP := Lib.hid hP
  rw [hP] at HWP HWP2
  clear hr1 hg1 hq1 hq0 hP
  have hwp := HWP.out
  have hwp2 := HWP2.out
  go_wp2_with fail
  clear hwp hwp2
  go_loopw [7, 8] (fun v i wr => ∃ (cs : List Int) (bc cc : Nat), cs.length ≤ N ∧ i = .int .i64 ((cs.length : Int) + 2) ∧ v = .slice (some ⟨bc, 0, none⟩) cs.length cc ∧ CoSt w wr 79 3 g A len cap (m + 1 + cs.length) (.slice (some ⟨bc, 0, none⟩) cs.length cc) cs ∧ (∀ x, x ∈ cs → 0 ≤ x ∧ x < (P : Int))) (fun _ i _ => N + 2 - (intOf i).toNat)
  case atStart => exact ⟨[], _, 0, Nat.zero_le _, rfl, rfl, S0.out.more (by simp), fun x hx => by cases hx⟩
  case round =>
    clear S0
    obtain ⟨cs, bc, cc, hcs, rfl, rfl, hst, hin⟩ := hrel
    have S1 := Lib.hid hst
    have HIN := Lib.hid hin
    clear hin
    have hk0 : (0 : Int) ≤ (cs.length : Int) := by omega
    have hPi : 2 ≤ P ∧ P ≤ 6 := by have := HP.out; omega
    clear hst
    by_cases hlt : cs.length < N
    · have hk1 : (cs.length : Int) + 2 < (P : Int) := by have := HP.out; omega
      go_wp2_with fail
      refine (pickE g A len cap _ (P : Int) _ S1.out.rdr (by omega) (by omega)).mono ?_; rintro e2 w2 ⟨x, rfl, hx0, hx1, hr2, hg2, -⟩
      have S2 := Lib.hid (S1.out.keep hr2 hg2)
      have HX1 := Lib.hid (hx1 (by omega))
      clear hr2 hg2 hx1
      go_wp2_with (at_builtin; refine wpList_append_lies _ rfl _ _ _ rfl w.heap.size 3 i0 _ 1 8 Tryd.underlying30 hi0 hz0 hz1' hz2 rfl (by decide) (.slice (some ⟨bc, 0, none⟩) cs.length cc) cs.length (rlCells cs) rfl (World.ownsRow.alloc S2.out.own _) ⟨w2.heap.size, 0, none⟩ 1 1 [.int .i64 x] rfl rfl (World.news_of_block (cs := #[.int .i64 x]) (t := 3) (fr := (0, 0)) (heap_alloc_new w2 _)) (by simp [Value.oneCell']) (by omega) (by unfold maxLen; omega) (by omega) (by have h9 := S2.out.gr.size; simp; omega) (w2.heap.size + 1) (by simp) ?_; intro gg cg w9 hown9 hgrow9 hat9 hlt9; have S9 := Lib.hid (S2.out.append x hown9 hgrow9); clear hown9 hgrow9 hat9 hlt9)
      go_roundw
      case rel => exact ⟨cs ++ [x], gg, cg, by rw [List.length_append]; simp; omega, by rw [List.length_append]; go_num, by rw [List.length_append]; rfl, by rw [List.length_append]; exact S9.out.more (by simp; omega), fun z hz => by
        rcases List.mem_append.1 hz with h | h
        · exact HIN.out z h
        · rcases List.mem_cons.1 h with rfl | h
          · exact ⟨hx0, HX1.out⟩
          · cases h⟩
      case measure => (simp [intOf]) <;> omega
    · have hk1 : ¬ (cs.length : Int) + 2 < (P : Int) := by have := HP.out; omega
      have hc4 : cs.length ≤ 4 := by omega
      go_wp2_with fail
      refine (oddN g A len cap _ n _ S1.out.rdr (by omega) h0 (by omega)).mono ?_; rintro e3 w3 ⟨b, rfl, hr3, hg3, hb0⟩
      have S3 := Lib.hid ((S1.out.keep hr3 hg3).more (m' := m + 20) (by omega))
      clear hr3 hg3 S1
      cases b
      · clear hb0
        go_wp2_with fail
        refine bodyPost_ret (v := .tuple #[.int .i64 P, (.slice (some ⟨bc, 0, none⟩) cs.length cc)]) (by simp [results, Tryd.results51, go_sem]) rfl ?_
        exact ⟨P, bc, cc, cs, rfl, S3.out.more (by omega), by omega, by omega, by omega, fun _ => ⟨by omega, by omega, codeOk_mk (m := P) (by omega) (by omega) (by
          unfold codeB
          rw [decide_eq_true (by have := HP.out; omega : cs.length + 2 = P), Bool.true_and, List.all_eq_true]
          intro z hz
          have := HIN.out z hz
          rw [decide_eq_true this.1, decide_eq_true this.2]; rfl)⟩⟩
      · have hnn : n ≠ 0 := fun h => by have := hb0 h; cases this
        clear hb0
        go_wp2_with fail
        refine (pickE g A len cap _ 3 _ S3.out.rdr (by omega) (by omega)).mono ?_; rintro e4 w4 ⟨y, rfl, hy0, hy1, hr4, hg4, -⟩
        have S4 := Lib.hid ((S3.out.keep hr4 hg4).more (m' := m + 30) (by omega))
        clear hr4 hg4 S3 hy1
        by_cases y0 : y = 0
        · subst y0
          go_wp2_with (at_builtin; refine wpList_append_lies _ rfl _ _ _ rfl w.heap.size 3 i0 _ 1 8 Tryd.underlying30 hi0 hz0 hz1' hz2 rfl (by decide) (.slice (some ⟨bc, 0, none⟩) cs.length cc) cs.length (rlCells cs) rfl (World.ownsRow.alloc S4.out.own _) ⟨w4.heap.size, 0, none⟩ 1 1 [.int .i64 0] rfl rfl (World.news_of_block (cs := #[.int .i64 0]) (t := 3) (fr := (0, 0)) (heap_alloc_new w4 _)) (by simp [Value.oneCell']) (by omega) (by unfold maxLen; omega) (by omega) (by have h9 := S4.out.gr.size; simp; omega) (w4.heap.size + 1) (by simp) ?_; intro gg cg w9 hown9 hgrow9 hat9 hlt9; have S9 := Lib.hid (S4.out.append 0 hown9 hgrow9); clear hown9 hgrow9 hat9 hlt9)
          refine bodyPost_ret (v := .tuple #[.int .i64 P, (.slice (some ⟨gg, 0, none⟩) (cs.length + 1) cg)]) (by simp [results, Tryd.results51, go_sem]) rfl ?_
          exact ⟨P, gg, cg, cs ++ [0], by rw [List.length_append]; rfl, by rw [List.length_append]; exact S9.out.more (by omega), by rw [List.length_append]; simp; omega, by omega, by omega, fun h => absurd h hnn⟩
        · have e1 : (y == 0) = false := by simp [y0]
          by_cases y1 : y = 1
          · subst y1
            have S5 := Lib.hid (S4.out.alloc (.cells #[.int .i64 1, .int .i64 7] 3))
            go_wp2_with fail
            refine (pickE g A len cap _ 2 _ S5.out.rdr (by omega) (by omega)).mono ?_; rintro e6 w6 ⟨z, rfl, hz0', hz1, hr6, hg6, -⟩
            have hz2' := hz1 (by omega)
            have S6 := Lib.hid ((S5.out.keep hr6 hg6).more (m' := m + 40) (by omega))
            have hw4 := S4.out.gr.size
            have hgl := S4.out.glt
            have hbk : w6.heap[w4.heap.size]? = some (.cells #[.int .i64 1, .int .i64 7] 3 (0, 0)) := (hg6.block _ (by simp) (fun e => by injection e; omega)).trans (heap_alloc_new w4 _)
            have c0 := cell_of_row _ _ 0 _ _ (0, 0) hbk
            have c1 := cell_of_row _ _ 1 _ _ (0, 0) hbk
            clear hr6 hg6 hz1 hbk
            by_cases zz : z = 0
            · subst zz
              go_wp2_with fail
              refine bodyPost_ret (v := .tuple #[.int .i64 1, (.slice (some ⟨bc, 0, none⟩) cs.length cc)]) (by simp [results, Tryd.results51, go_sem]) rfl ?_
              exact ⟨1, bc, cc, cs, rfl, S6.out, by omega, by omega, by omega, fun h => absurd h hnn⟩
            · obtain rfl : z = 1 := by omega
              go_wp2_with fail
              refine bodyPost_ret (v := .tuple #[.int .i64 7, (.slice (some ⟨bc, 0, none⟩) cs.length cc)]) (by simp [results, Tryd.results51, go_sem]) rfl ?_
              exact ⟨7, bc, cc, cs, rfl, S6.out, by omega, by omega, by omega, fun h => absurd h hnn⟩
          · have e2 : (y == 1) = false := by simp [y1]
            by_cases hl : 0 < cs.length
            · have hl1 : (0 : Int) < (cs.length : Int) := by omega
              have d0 : w4.cell? ⟨bc, 0, none⟩ = some (.int .i64 (cs.getD 0 0)) := by
                have h9 := S4.out.own.cellAt 0 (by omega)
                rw [rlCells_at hl] at h9; exact h9
              have d1 := S4.out.own.frozenAt 0
              go_wp2_with fail
              refine bodyPost_ret (v := .tuple #[.int .i64 P, (.slice (some ⟨bc, 0, none⟩) cs.length cc)]) (by simp [results, Tryd.results51, go_sem]) rfl ?_
              exact ⟨P, bc, cc, cs.set 0 (P : Int), by rw [List.length_set], by have h9 := S4.out.put 0 (P : Int); rw [List.length_set]; exact h9.more (by omega), by rw [List.length_set]; omega, by omega, by omega, fun h => absurd h hnn⟩
            · have hl1 : ¬ (0 : Int) < (cs.length : Int) := by omega
              go_wp2_with fail
              refine bodyPost_ret (v := .tuple #[.int .i64 P, (.slice (some ⟨bc, 0, none⟩) cs.length cc)]) (by simp [results, Tryd.results51, go_sem]) rfl ?_
              exact ⟨P, bc, cc, cs, rfl, S4.out.more (by omega), by omega, by omega, by omega, fun h => absurd h hnn⟩
/-- some places, some code -/
def DrawnCo (w : World) (e : Ending) (w' : World) : Prop :=
  ∃ (P : Int) (bc cc : Nat) (cs : List Int), e = .returned (.tuple #[.int .i64 P, .slice (some ⟨bc, 0, none⟩) cs.length cc]) ∧ RI w' w'.heap.size (some ⟨bc, 0, none⟩) cs ∧ cs.length ≤ 5 ∧ 1 ≤ P ∧ P ≤ 7 ∧ w.heap.size ≤ bc ∧ cs.length ≤ cc ∧ Below w.heap.size w w'
theorem CoSt.ri {w0 w : World} {t tc : TypeId} {g : Nat} {A : Option Addr} {len cap : Nat} {m : Int} {A1 : Option Addr} {c1 : Nat} {cs : List Int} (h : CoSt w0 w t tc g A len cap m (.slice A1 cs.length c1) cs) : RI w w.heap.size A1 cs :=
  (rowF_of_own h.own (fun j hj => rlCells_at hj)).ri
set_option maxHeartbeats 2000000 in
theorem DrawTreeOfCode_any (A : Option Addr) (len cap : Nat) (w : World) (hr : RB w w.heap.size A len) (hc : len ≤ cap) (hl : len ≤ 1048576) :
    Calls Tryd.prog 20 #[.slice A len cap] w (DrawnCo w) := by
  have HR := Lib.hid hr
  clear hr
  go_enter Tryd.func20, Tryd.ntmps20
  go_wp2_with fail
  refine (openE A len cap _ HR.out hc hl).mono ?_
  rintro e wo ⟨l1, rfl, hr1, hb1⟩
  have hgo := hr1.lt
  have HB1 := Lib.hid hb1
  clear hb1
  go_wp2_with fail
  refine (l20Code_any w.heap.size A l1 cap 0 9 _ hr1 (by omega) (by omega) (by omega)).mono ?_
  rintro e w1 ⟨P, bc, cc, cs, rfl, hst, h5, p1, p7, -⟩
  have HBD := Lib.hid (below_of_only HB1.out hst.gr (Nat.le_refl _))
  have hbc := (hst.own.lt bc rfl).1
  have hcp := own_cap hst.own
  have HRI := Lib.hid hst.ri
  clear hst hr1
  go_wp2_with fail
  refine bodyPost_ret (v := .tuple #[.int .i64 P, .slice (some ⟨bc, 0, none⟩) cs.length cc]) (by simp [results, Tryd.results20, go_sem]) rfl ?_
  exact ⟨P, bc, cc, cs, rfl, HRI.out, h5, p1, p7, by omega, hcp, HBD.out⟩
set_option maxHeartbeats 2000000 in
theorem DrawTreesMany_any (A : Option Addr) (len cap : Nat) (w : World) (hr : RB w w.heap.size A len) (hc : len ≤ cap) (hl : len ≤ 1048576) :
    Calls Tryd.prog 22 #[.slice A len cap] w fun e w' => ∃ n : Int, e = .returned (.int .i64 n) ∧ 0 ≤ n ∧ n < 9 ∧ Below w.heap.size w w' := by
  have HR := Lib.hid hr
  clear hr
  go_enter Tryd.func22, Tryd.ntmps22
  go_wp2_with fail
  refine (openE A len cap _ HR.out hc hl).mono ?_
  rintro e wo ⟨l1, rfl, hr1, hb1⟩
  have HB1 := Lib.hid hb1
  clear hb1
  go_wp2_with fail
  refine (pickE w.heap.size A l1 cap 0 9 _ hr1 (by omega) (by omega)).mono ?_; rintro e1 w1 ⟨q, rfl, hq0, hq1, hr2, hg2, -⟩
  have hq9 := hq1 (by omega)
  have HBD := Lib.hid (below_of_only HB1.out hg2 (Nat.le_refl _))
  clear hr1 hr2 hg2 hq1
  go_wp2_with fail
  go_ret
  exact ⟨q, rfl, hq0, hq9, HBD.out⟩
end Go.Proofs.YtimccjmphdkbjaaDoor
namespace Go.Proofs.YtimccjmphdkbjaaDoor
open Go.ChangeShapes Go.WideShapes Go.ChangeAt Go.RowKit

/-- pairs under way: w0 the world at the beginning -/
structure LiSt (w0 w : World) (t tc : TypeId) (g : Nat) (A : Option Addr) (len cap : Nat) (m : Int) (v : Value) (cs : List (Int × Int)) : Prop where
  rdr : RdrE w t g A len cap m
  gr : w0.grownBy w (some g)
  own : w.ownsRow w0.heap.size tc 2 v cs.length (ctCells cs)
  glt : g < w0.heap.size
section
variable {w0 w1 w w' : World} {t tc : TypeId} {g : Nat} {A : Option Addr} {len cap : Nat} {m m' : Int} {v : Value} {cs : List (Int × Int)}
theorem LiSt.keep (h : LiSt w0 w t tc g A len cap m v cs) (hr : RdrE w' t g A len cap m') (hg : w.grownBy w' (some g)) : LiSt w0 w' t tc g A len cap m' v cs := by
  have h1 := h.glt
  refine ⟨hr, only_trans h.gr hg, h.own.kept hg ?_, h1⟩
  right; intro e; have := h.own.lt g e; omega
theorem LiSt.more (h : LiSt w0 w t tc g A len cap m v cs) (hm : m ≤ m') : LiSt w0 w t tc g A len cap m' v cs := h.keep (h.rdr.more hm) (World.grownBy.refl w _)
theorem LiSt.alloc (h : LiSt w0 w t tc g A len cap m v cs) (o : Obj) : LiSt w0 (w.alloc o) t tc g A len cap m v cs :=
  h.keep (h.rdr.keep fun k hk => heap_alloc_old w _ (by have := h.rdr.lt; omega)) (only_alloc (World.grownBy.refl w _) _)
end
theorem ctCells_set : ∀ (cs : List (Int × Int)) (j : Nat) (p : Int × Int), ctCells (cs.set j p) = ((ctCells cs).set (j * 2) (.int .i64 p.1)).set (j * 2 + 1) (.int .i64 p.2)
  | [], _, _ => by simp [ctCells]
  | x :: cs, 0, p => by simp [ctCells]
  | x :: cs, j + 1, p => by
    simp only [List.set_cons_succ]
    rw [ctCells, ctCells_set cs j p]
    simp only [ctCells, show (j + 1) * 2 = j * 2 + 1 + 1 from by omega, List.set_cons_succ]
theorem LiSt.put {w0 w : World} {t tc : TypeId} {g : Nat} {A : Option Addr} {len cap : Nat} {m : Int} {cs : List (Int × Int)} {gg c : Nat} (h : LiSt w0 w t tc g A len cap m (.slice (some ⟨gg, 0, none⟩) cs.length c) cs) (j : Nat) (p : Int × Int) :
    LiSt w0 ((w.setCell ⟨gg, j * 2, none⟩ (.int .i64 p.1)).setCell ⟨gg, j * 2 + 1, none⟩ (.int .i64 p.2)) t tc g A len cap m (.slice (some ⟨gg, 0, none⟩) cs.length c) (cs.set j p) := by
  have h1 := h.glt
  have h2 := (h.own.lt gg rfl).1
  refine ⟨h.rdr.keep fun k hk => (Below.heap_setCell _ _ _ _ (by simp; omega)).trans (Below.heap_setCell _ _ _ _ (by simp; omega)), only_setCell (only_setCell h.gr (.inr h2) _) (.inr h2) _, ?_, h1⟩
  have h9 := ((h.own.stored (j * 2) (.int .i64 p.1)).1.stored (j * 2 + 1) (.int .i64 p.2)).1
  rw [List.length_set, ctCells_set]
  exact h9
theorem LiSt.rc {w0 w : World} {t tc : TypeId} {g : Nat} {A : Option Addr} {len cap : Nat} {m : Int} {A1 : Option Addr} {c1 : Nat} {cs : List (Int × Int)} (h : LiSt w0 w t tc g A len cap m (.slice A1 cs.length c1) cs) : RC w w.heap.size A1 cs := rc_of_own h.own
theorem RC.drop {w : World} {B b o : Nat} {cs : List (Int × Int)} (h : RC w B (some ⟨b, o, none⟩) cs) (k : Nat) : RC w B (some ⟨b, o + k * 2, none⟩) (cs.drop k) := by
  intro i x hx
  rw [List.getElem?_drop] at hx
  obtain ⟨b', o', e, hB, c0, c1⟩ := h (k + i) x hx
  injection e with e; injection e with e1 e2; subst e1; subst e2
  exact ⟨b, _, rfl, hB, by rw [show o + k * 2 + i * 2 = o + (k + i) * 2 from by omega]; exact c0, by rw [show o + k * 2 + i * 2 + 1 = o + (k + i) * 2 + 1 from by omega]; exact c1⟩
theorem tree_len {n : Int} {c : List Int} {L : List (Int × Int)} (h : treeOfCode n c = some L) : L.length ≤ 5 := by
  cases hok : codeOk n c
  · rw [treeOf_none hok] at h; cases h
  · obtain ⟨m, rfl, h2, h6, _⟩ := codeOk_t hok
    obtain ⟨L', hL, _, hlo, _⟩ := tree_of_code hok
    rw [h] at hL
    obtain rfl := Option.some.inj hL
    obtain ⟨m', e, _, _, hs, _⟩ := linksOk_t hlo
    have := (shape_at hs).1
    omega
/-- some places, some pairs -/
def LiPost (w : World) (t : TypeId) (g : Nat) (A : Option Addr) (len cap : Nat) (m : Int) (e : Ending) (w' : World) : Prop :=
  ∃ (P : Int) (bq oq cp : Nat) (ps : List (Int × Int)), e = .returned (.tuple #[.int .i64 P, .slice (some ⟨bq, oq, none⟩) ps.length cp]) ∧ RC w' w'.heap.size (some ⟨bq, oq, none⟩) ps ∧ ps.length ≤ 5 ∧ ps.length ≤ cp ∧ 2 ≤ P ∧ P ≤ 6 ∧ RdrE w' t g A len cap (m + 90) ∧ w.grownBy w' (some g)
theorem LiSt.drew {w0 w : World} {t tc : TypeId} {g : Nat} {A : Option Addr} {len cap : Nat} {m : Int} {v : Value} {cs : List (Int × Int)} (h : LiSt w0 w t tc g A len cap m v cs) : LiSt w0 w.drew t tc g A len cap m v cs :=
  ⟨h.rdr.keep fun _ _ => rfl, only_drew h.gr, h.own.drew, h.glt⟩
theorem LiSt.fin {w0 w : World} {t tc : TypeId} {g : Nat} {A : Option Addr} {len cap : Nat} {mm m P : Int} {b1 o1 : Nat} {cq : Nat} {cs : List (Int × Int)} (h : LiSt w0 w t tc g A len cap mm (.slice (some ⟨b1, o1, none⟩) cs.length cq) cs) (hl : cs.length ≤ 5) (p2 : 2 ≤ P) (p6 : P ≤ 6) (hm : mm ≤ m + 90) :
    LiPost w0 t g A len cap m (.returned (.tuple #[.int .i64 P, .slice (some ⟨b1, o1, none⟩) cs.length cq])) w :=
  ⟨P, b1, o1, cq, cs, rfl, h.rc, hl, own_cap h.own, p2, p6, h.rdr.more hm, h.gr⟩
set_option maxRecDepth 100000 in
set_option maxHeartbeats 4000000 in
theorem l20Links_any (g : Nat) (A : Option Addr) (len cap : Nat) (m n : Int) (w : World) (hr : RdrE w 79 g A len cap m) (hm : m ≤ 600000) (h0 : 1 ≤ n) (hn : n ≤ 1000) :
    Calls Tryd.prog 33 #[.pointer (some ⟨g, 0, none⟩), .int .i64 n] w (LiPost w 79 g A len cap m) := by
  have hg := hr.lt
  have HR := Lib.hid hr
  clear hr
  go_enter Tryd.func33, Tryd.ntmps33
  go_wp2_with fail
  refine (l20Code_any g A len cap m 0 _ HR.out (by omega) (by omega) (by omega)).mono ?_
  rintro e1 w1 ⟨P, bc, cc, cs, rfl, hst, h5, -, -, hP⟩
  obtain ⟨p2, p6, hcok⟩ := hP rfl
  have HRI := Lib.hid hst.ri
  have HRD := Lib.hid hst.rdr
  have HGR := Lib.hid hst.gr
  clear hst hP
  go_wp2_with fail
  refine (sTreeOfCode_own P _ cc cs _ HRI.out (by omega)).mono ?_
  intro e2 w2 htree
  have hTR : ∃ (L : List (Int × Int)) (A1 : Option Addr) (cq : Nat) (tb : Bool), e2 = .returned (.tuple #[.slice A1 L.length cq, .bool tb]) ∧ L.length ≤ 5 ∧ 0 < L.length ∧ Below w1.heap.size w1 w2 ∧ w2.ownsRow w1.heap.size 28 2 (.slice A1 L.length cq) L.length (ctCells L) := by
    obtain ⟨mm, rfl, h2, h6, _⟩ := codeOk_t hcok
    obtain ⟨L, hL, _, hlo, _⟩ := tree_of_code hcok
    obtain ⟨m', e, _, _, hs, _⟩ := linksOk_t hlo
    have hsl := (shape_at hs).1
    rw [hL] at htree
    obtain ⟨A1, cq, h1, h2, h3⟩ := htree
    exact ⟨L, A1, cq, true, h1, by omega, by omega, h3, h2⟩
  obtain ⟨L, A1, cq, tb, rfl, hL5, hLpos, hb2, hown⟩ := hTR
  have HR2 := Lib.hid (HRD.out.below hb2)
  have HG2 : Hid (w.grownBy w2 (some g)) := only_trans HGR.out (only_below hb2 (some g))
  have hgl1 := HGR.out.size
  clear hb2 htree hcok
  go_wp2_with fail
  refine (oddN g A len cap (m + 40) n _ HR2.out (by omega) (by omega) (by omega)).mono ?_; rintro e3 w3 ⟨b, rfl, hr3, hg3, -⟩
  obtain ⟨bl, rfl, hbl, hbl2⟩ := own_some hown hLpos
  have hcp := own_cap hown
  have S2 : LiSt w w2 79 28 g A len cap (m + 40) (.slice (some ⟨bl, 0, none⟩) L.length cq) L := ⟨HR2.out, HG2.out, own_base hown hgl1, hg⟩
  have S3 := Lib.hid (S2.keep hr3 hg3)
  have hli : (0 : Int) < (L.length : Int) := by omega
  have hbw : w.heap.size ≤ bl := by omega
  clear hr3 hg3 hown S2 HR2 HG2
  cases b
  · go_wp2_with fail
    refine bodyPost_ret (v := .tuple #[.int .i64 P, (.slice (some ⟨bl, 0, none⟩) L.length cq)]) (by simp [results, Tryd.results33, go_sem]) rfl ?_
    exact ⟨P, bl, 0, cq, L, rfl, S3.out.rc, hL5, hcp, p2, p6, S3.out.rdr.more (by omega), S3.out.gr⟩
  · go_wp2_with fail
    refine (pickE g A len cap _ 3 _ S3.out.rdr (by omega) (by omega)).mono ?_; rintro e4 w4 ⟨y, rfl, hy0, hy1, hr4, hg4, -⟩
    have S4 := Lib.hid ((S3.out.keep hr4 hg4).more (m' := m + 50) (by omega))
    clear hr4 hg4 S3 hy1
    by_cases y0 : y = 0
    · subst y0
      by_cases hc1 : cq = 1
      · subst hc1
        have hl1 : L.length = 1 := by omega
        have HD := Lib.hid (show L.drop 1 = [] from List.drop_eq_nil_of_le (by omega))
        have hli2 : (1 : Int) ≤ (L.length : Int) := by omega
        clear hl1
        go_wp2_with fail
        refine wp_region_held_drew (S := (fun _ => True)) (by kernel_rfl) ?_ (fun hHeld => ?_)
        · exact trivial
        refine wpAnyH_take (i := 0) (v := ?_) rfl (by kernel_rfl) (by kernel_rfl) (by kernel_rfl) (fun _ _ _ h => h) (Or.inl ⟨by rfl, ?_⟩) (by assumption) ?_
        rotate_left
        · (intro w hSw; (try dsimp only at hSw); (try simp only [List.getElem_toArray, List.getElem_cons_succ, List.getElem_cons_zero]); first | (go_simp; done) | (go_simp; with_reducible rfl))
        try simp only [Act.put, List.getElem_toArray, List.getElem_cons_succ, List.getElem_cons_zero, List.setIfInBounds_toArray, List.set_cons_zero, List.set_cons_succ]
        refine wpAnyH_take (i := 1) (v := ?_) rfl (by kernel_rfl) (by kernel_rfl) (by kernel_rfl) (fun _ _ _ h => h) (Or.inl ⟨by rfl, ?_⟩) (by assumption) ?_
        rotate_left
        · (intro w hSw; (try dsimp only at hSw); (try simp only [List.getElem_toArray, List.getElem_cons_succ, List.getElem_cons_zero]); first | (go_simp; done) | (go_simp; with_reducible rfl))
        try simp only [Act.put, List.getElem_toArray, List.getElem_cons_succ, List.getElem_cons_zero, List.setIfInBounds_toArray, List.set_cons_zero, List.set_cons_succ]
        refine wpAnyH_take (i := 2) (v := ?_) rfl (by kernel_rfl) (by kernel_rfl) (by kernel_rfl) (fun _ _ _ h => h) (Or.inl ⟨by rfl, ?_⟩) (by assumption) ?_
        rotate_left
        · (intro w hSw; (try dsimp only at hSw); (try simp only [List.getElem_toArray, List.getElem_cons_succ, List.getElem_cons_zero]); first | (go_simp; done) | (go_simp; with_reducible rfl))
        try simp only [Act.put, List.getElem_toArray, List.getElem_cons_succ, List.getElem_cons_zero, List.setIfInBounds_toArray, List.set_cons_zero, List.set_cons_succ]
        refine wpAnyH_take (i := 3) (v := ?_) rfl (by kernel_rfl) (by kernel_rfl) (by kernel_rfl) (fun _ _ _ h => h) (Or.inl ⟨by rfl, ?_⟩) (by assumption) ?_
        rotate_left
        · (intro w hSw; (try dsimp only at hSw); (try simp only [List.getElem_toArray, List.getElem_cons_succ, List.getElem_cons_zero]); first | (go_simp; done) | (go_simp; with_reducible rfl))
        try simp only [Act.put, List.getElem_toArray, List.getElem_cons_succ, List.getElem_cons_zero, List.setIfInBounds_toArray, List.set_cons_zero, List.set_cons_succ]
        refine wpAnyH_take (i := 4) (v := ?_) rfl (by kernel_rfl) (by kernel_rfl) (by kernel_rfl) (fun _ _ _ h => h) (Or.inl ⟨by rfl, ?_⟩) (by assumption) ?_
        rotate_left
        · (intro w hSw; (try dsimp only at hSw); (try simp only [List.getElem_toArray, List.getElem_cons_succ, List.getElem_cons_zero]); first | (go_simp; done) | (go_simp; with_reducible rfl))
        try simp only [Act.put, List.getElem_toArray, List.getElem_cons_succ, List.getElem_cons_zero, List.setIfInBounds_toArray, List.set_cons_zero, List.set_cons_succ]
        refine wpAnyH_done (by kernel_rfl) ?_ _
        go_wp2_with fail
        refine bodyPost_ret (v := .tuple #[.int .i64 P, .slice (some ⟨bl, 0, none⟩) 0 0]) (by simp [results, Tryd.results33, go_sem]) rfl ?_
        exact ⟨P, bl, 0, 0, [], rfl, RC.nil_ _ _, by simp, Nat.zero_le _, p2, p6, S4.out.drew.rdr.more (by omega), S4.out.drew.gr⟩
      · have hc1i : ¬ (1 : Int) = (cq : Int) := by omega
        have hc1n : ¬ cq - 1 = 0 := by omega
        have hli2 : (1 : Int) ≤ (L.length : Int) := by omega
        go_wp2_with fail
        refine wp_region_held_drew (S := (fun _ => True)) (by kernel_rfl) ?_ (fun hHeld => ?_)
        · exact trivial
        refine wpAnyH_take (i := 0) (v := ?_) rfl (by kernel_rfl) (by kernel_rfl) (by kernel_rfl) (fun _ _ _ h => h) (Or.inl ⟨by rfl, ?_⟩) (by assumption) ?_
        rotate_left
        · (intro w hSw; (try dsimp only at hSw); (try simp only [List.getElem_toArray, List.getElem_cons_succ, List.getElem_cons_zero]); first | (go_simp; done) | (go_simp; with_reducible rfl))
        try simp only [Act.put, List.getElem_toArray, List.getElem_cons_succ, List.getElem_cons_zero, List.setIfInBounds_toArray, List.set_cons_zero, List.set_cons_succ]
        refine wpAnyH_take (i := 1) (v := ?_) rfl (by kernel_rfl) (by kernel_rfl) (by kernel_rfl) (fun _ _ _ h => h) (Or.inl ⟨by rfl, ?_⟩) (by assumption) ?_
        rotate_left
        · (intro w hSw; (try dsimp only at hSw); (try simp only [List.getElem_toArray, List.getElem_cons_succ, List.getElem_cons_zero]); first | (go_simp; done) | (go_simp; with_reducible rfl))
        try simp only [Act.put, List.getElem_toArray, List.getElem_cons_succ, List.getElem_cons_zero, List.setIfInBounds_toArray, List.set_cons_zero, List.set_cons_succ]
        refine wpAnyH_take (i := 2) (v := ?_) rfl (by kernel_rfl) (by kernel_rfl) (by kernel_rfl) (fun _ _ _ h => h) (Or.inl ⟨by rfl, ?_⟩) (by assumption) ?_
        rotate_left
        · (intro w hSw; (try dsimp only at hSw); (try simp only [List.getElem_toArray, List.getElem_cons_succ, List.getElem_cons_zero]); first | (go_simp; done) | (go_simp; with_reducible rfl))
        try simp only [Act.put, List.getElem_toArray, List.getElem_cons_succ, List.getElem_cons_zero, List.setIfInBounds_toArray, List.set_cons_zero, List.set_cons_succ]
        refine wpAnyH_take (i := 3) (v := ?_) rfl (by kernel_rfl) (by kernel_rfl) (by kernel_rfl) (fun _ _ _ h => h) (Or.inl ⟨by rfl, ?_⟩) (by assumption) ?_
        rotate_left
        · (intro w hSw; (try dsimp only at hSw); (try simp only [List.getElem_toArray, List.getElem_cons_succ, List.getElem_cons_zero]); first | (go_simp; done) | (go_simp; with_reducible rfl))
        try simp only [Act.put, List.getElem_toArray, List.getElem_cons_succ, List.getElem_cons_zero, List.setIfInBounds_toArray, List.set_cons_zero, List.set_cons_succ]
        refine wpAnyH_take (i := 4) (v := ?_) rfl (by kernel_rfl) (by kernel_rfl) (by kernel_rfl) (fun _ _ _ h => h) (Or.inl ⟨by rfl, ?_⟩) (by assumption) ?_
        rotate_left
        · (intro w hSw; (try dsimp only at hSw); (try simp only [List.getElem_toArray, List.getElem_cons_succ, List.getElem_cons_zero]); first | (go_simp; done) | (go_simp; with_reducible rfl))
        try simp only [Act.put, List.getElem_toArray, List.getElem_cons_succ, List.getElem_cons_zero, List.setIfInBounds_toArray, List.set_cons_zero, List.set_cons_succ]
        refine wpAnyH_done (by kernel_rfl) ?_ _
        go_wp2_with fail
        refine bodyPost_ret (v := .tuple #[.int .i64 P, .slice (some ⟨bl, 2, none⟩) (L.length - 1) (cq - 1)]) (by simp [results, Tryd.results33, go_sem]) rfl ?_
        exact ⟨P, bl, 2, cq - 1, L.drop 1, by rw [List.length_drop], by have h9 := S4.out.drew.rc.drop 1; simpa using h9, by rw [List.length_drop]; omega, by rw [List.length_drop]; omega, p2, p6, S4.out.drew.rdr.more (by omega), S4.out.drew.gr⟩
    · have e1 : (y == 0) = false := by simp [y0]
      by_cases y1 : y = 1
      · subst y1
        obtain ⟨⟨pa, pb⟩, hx⟩ : ∃ x, L[0]? = some x := ⟨_, List.getElem?_eq_getElem hLpos⟩
        obtain ⟨b', o', e9, -, c0, c1'⟩ := S4.out.rc 0 _ hx
        injection e9 with e9; injection e9 with e91 e92; subst e91; subst e92
        simp only [Nat.zero_mul, Nat.zero_add] at c0 c1'
        have c1 := c1'
        have d0 := S4.out.own.frozenAt 0
        have d1 := S4.out.own.frozenAt 1
        have S5 := Lib.hid (S4.out.put 0 (pb, pa))
        simp only [Nat.zero_mul, Nat.zero_add] at S5
        clear hx c1'
        go_wp2_with fail
        refine AnyZ.region (S := (fun w' => w'.cell? ⟨bl, 0, none⟩ = some (.int .i64 pa) ∧ w'.cell? ⟨bl, 1, none⟩ = some (.int .i64 pb))) (z := 11) (by kernel_rfl) ?_ (fun hHeld => ?_)
        · exact ⟨c0, c1⟩
        refine AnyZ.take (i := 0) (oi := ⟨_, _, _, _, _, _⟩) (v := ?_) rfl (by kernel_rfl) (by kernel_rfl) (by kernel_rfl) (by kernel_rfl) (fun _ _ _ h => h) (Or.inl ⟨by rfl, ?_⟩) (by assumption) ?_
        rotate_left
        · (intro w hSw; (try dsimp only at hSw); (try simp only [List.getElem_toArray, List.getElem_cons_succ, List.getElem_cons_zero]); first | (go_simp; done) | (go_simp; with_reducible rfl))
        try simp only [Act.put, List.getElem_toArray, List.getElem_cons_succ, List.getElem_cons_zero, List.setIfInBounds_toArray, List.set_cons_zero, List.set_cons_succ]
        refine AnyZ.take (i := 1) (oi := ⟨_, _, _, _, _, _⟩) (v := ?_) rfl (by kernel_rfl) (by kernel_rfl) (by kernel_rfl) (by kernel_rfl) (fun _ _ _ h => h) (Or.inl ⟨by rfl, ?_⟩) (by assumption) ?_
        rotate_left
        · (intro w hSw; (try dsimp only at hSw); (try simp only [List.getElem_toArray, List.getElem_cons_succ, List.getElem_cons_zero]); first | (go_simp; done) | (go_simp; with_reducible rfl))
        try simp only [Act.put, List.getElem_toArray, List.getElem_cons_succ, List.getElem_cons_zero, List.setIfInBounds_toArray, List.set_cons_zero, List.set_cons_succ]
        refine AnyZ.take (i := 2) (oi := ⟨_, _, _, _, _, _⟩) (v := ?_) rfl (by kernel_rfl) (by kernel_rfl) (by kernel_rfl) (by kernel_rfl) (fun _ _ _ h => h) (Or.inl ⟨by rfl, ?_⟩) (by assumption) ?_
        rotate_left
        · (intro w hSw; (try dsimp only at hSw); (try simp only [List.getElem_toArray, List.getElem_cons_succ, List.getElem_cons_zero]); first | (go_simp; done) | (go_simp; with_reducible rfl))
        try simp only [Act.put, List.getElem_toArray, List.getElem_cons_succ, List.getElem_cons_zero, List.setIfInBounds_toArray, List.set_cons_zero, List.set_cons_succ]
        refine AnyZ.take (i := 3) (oi := ⟨_, _, _, _, _, _⟩) (v := ?_) rfl (by kernel_rfl) (by kernel_rfl) (by kernel_rfl) (by kernel_rfl) (fun _ _ _ h => h) (Or.inl ⟨by rfl, ?_⟩) (by assumption) ?_
        rotate_left
        · (intro w hSw; (try dsimp only at hSw); (try simp only [List.getElem_toArray, List.getElem_cons_succ, List.getElem_cons_zero]); first | (go_simp; done) | (go_simp; with_reducible rfl))
        try simp only [Act.put, List.getElem_toArray, List.getElem_cons_succ, List.getElem_cons_zero, List.setIfInBounds_toArray, List.set_cons_zero, List.set_cons_succ]
        refine AnyZ.take (i := 4) (oi := ⟨_, _, _, _, _, _⟩) (v := ?_) rfl (by kernel_rfl) (by kernel_rfl) (by kernel_rfl) (by kernel_rfl) (fun _ _ _ h => h) (Or.inl ⟨by rfl, ?_⟩) (by assumption) ?_
        rotate_left
        · (intro w hSw; (try dsimp only at hSw); (try simp only [List.getElem_toArray, List.getElem_cons_succ, List.getElem_cons_zero]); first | (go_simp; done) | (go_simp; with_reducible rfl))
        try simp only [Act.put, List.getElem_toArray, List.getElem_cons_succ, List.getElem_cons_zero, List.setIfInBounds_toArray, List.set_cons_zero, List.set_cons_succ]
        refine AnyZ.take (i := 5) (oi := ⟨_, _, _, _, _, _⟩) (v := ?_) rfl (by kernel_rfl) (by kernel_rfl) (by kernel_rfl) (by kernel_rfl) (fun _ _ _ h => h) (Or.inl ⟨by rfl, ?_⟩) (by assumption) ?_
        rotate_left
        · (intro w hSw; (try dsimp only at hSw); (try simp only [List.getElem_toArray, List.getElem_cons_succ, List.getElem_cons_zero]); first | (go_simp; done) | (go_simp; with_reducible rfl))
        try simp only [Act.put, List.getElem_toArray, List.getElem_cons_succ, List.getElem_cons_zero, List.setIfInBounds_toArray, List.set_cons_zero, List.set_cons_succ]
        refine AnyZ.take (i := 6) (oi := ⟨_, _, _, _, _, _⟩) (v := ?_) rfl (by kernel_rfl) (by kernel_rfl) (by kernel_rfl) (by kernel_rfl) (fun _ _ _ h => h) (Or.inl ⟨by rfl, ?_⟩) (by assumption) ?_
        rotate_left
        · (intro w hSw; (try dsimp only at hSw); (try simp only [List.getElem_toArray, List.getElem_cons_succ, List.getElem_cons_zero]); first | (go_simp; done) | (go_simp; with_reducible rfl))
        try simp only [Act.put, List.getElem_toArray, List.getElem_cons_succ, List.getElem_cons_zero, List.setIfInBounds_toArray, List.set_cons_zero, List.set_cons_succ]
        refine AnyZ.take (i := 7) (oi := ⟨_, _, _, _, _, _⟩) (v := ?_) rfl (by kernel_rfl) (by kernel_rfl) (by kernel_rfl) (by kernel_rfl) (fun _ _ _ h => h) (Or.inl ⟨by rfl, ?_⟩) (by assumption) ?_
        rotate_left
        · (intro w hSw; (try dsimp only at hSw); (try simp only [List.getElem_toArray, List.getElem_cons_succ, List.getElem_cons_zero]); first | (go_simp; done) | (go_simp; with_reducible rfl))
        try simp only [Act.put, List.getElem_toArray, List.getElem_cons_succ, List.getElem_cons_zero, List.setIfInBounds_toArray, List.set_cons_zero, List.set_cons_succ]
        refine AnyZ.take (i := 8) (oi := ⟨_, _, _, _, _, _⟩) (v := ?_) rfl (by kernel_rfl) (by kernel_rfl) (by kernel_rfl) (by kernel_rfl) (fun _ _ _ h => h) (Or.inl ⟨by rfl, ?_⟩) (by assumption) ?_
        rotate_left
        · (intro w hSw; (try dsimp only at hSw); (try simp only [List.getElem_toArray, List.getElem_cons_succ, List.getElem_cons_zero]); first | (go_simp; done) | (go_simp; with_reducible rfl))
        try simp only [Act.put, List.getElem_toArray, List.getElem_cons_succ, List.getElem_cons_zero, List.setIfInBounds_toArray, List.set_cons_zero, List.set_cons_succ]
        refine AnyZ.take (i := 9) (oi := ⟨_, _, _, _, _, _⟩) (v := ?_) rfl (by kernel_rfl) (by kernel_rfl) (by kernel_rfl) (by kernel_rfl) (fun _ _ _ h => h) (Or.inl ⟨by rfl, ?_⟩) (by assumption) ?_
        rotate_left
        · (intro w hSw; (try dsimp only at hSw); (try simp only [List.getElem_toArray, List.getElem_cons_succ, List.getElem_cons_zero]); first | (go_simp; done) | (go_simp; with_reducible rfl))
        try simp only [Act.put, List.getElem_toArray, List.getElem_cons_succ, List.getElem_cons_zero, List.setIfInBounds_toArray, List.set_cons_zero, List.set_cons_succ]
        refine AnyZ.take (i := 10) (oi := ⟨_, _, _, _, _, _⟩) (v := ?_) rfl (by kernel_rfl) (by kernel_rfl) (by kernel_rfl) (by kernel_rfl) (fun _ _ _ h => h) (Or.inl ⟨by rfl, ?_⟩) (by assumption) ?_
        rotate_left
        · (intro w hSw; (try dsimp only at hSw); (try simp only [List.getElem_toArray, List.getElem_cons_succ, List.getElem_cons_zero]); first | (go_simp; done) | (go_simp; with_reducible rfl))
        try simp only [Act.put, List.getElem_toArray, List.getElem_cons_succ, List.getElem_cons_zero, List.setIfInBounds_toArray, List.set_cons_zero, List.set_cons_succ]
        refine AnyZ.step (i := 11) (o := ⟨_, _, _, _, _, _⟩) (by kernel_rfl) rfl (fun K hK => ?_)
        go_simp
        refine hK.out _ _ (fun h => absurd rfl h) (fun _ => ?_)
        clear hK K
        try simp only [Act.put, List.getElem_toArray, List.getElem_cons_succ, List.getElem_cons_zero, List.setIfInBounds_toArray, List.set_cons_zero, List.set_cons_succ]
        refine AnyZ.done (by kernel_rfl) ?_ _
        go_wp2_with fail
        refine bodyPost_ret (v := .tuple #[.int .i64 P, (.slice (some ⟨bl, 0, none⟩) L.length cq)]) (by simp [results, Tryd.results33, go_sem]) rfl ?_
        have hf : ∀ W : World, LiSt w W 79 28 g A len cap (m + 50) (.slice (some ⟨bl, 0, none⟩) L.length cq) (L.set 0 (pb, pa)) → LiPost w 79 g A len cap m (.returned (.tuple #[.int .i64 P, .slice (some ⟨bl, 0, none⟩) L.length cq])) W := fun W h => by
          have e : (L.set 0 (pb, pa)).length = L.length := by rw [List.length_set]
          have h9 := LiSt.fin (P := P) (m := m) (by rw [e]; exact h) (by rw [e]; exact hL5) p2 p6 (by omega)
          rw [e] at h9
          exact h9
        first | exact hf _ S5.out | exact hf _ S5.out.drew | exact hf _ S5.out.drew.drew
      · have e2 : (y == 1) = false := by simp [y1]
        have HWL : Hid (IntKind.i64.wrap ((L.length : Int) - 1) = ((L.length - 1 : Nat) : Int)) := by show _ = _; rw [IntWalk.i64_in _ ⟨by omega, by omega⟩]; omega
        have HWL2 : Hid (wrap64 ((L.length : Int) - 1) = ((L.length - 1 : Nat) : Int)) := by show _ = _; rw [IntWalk.wrap64_in _ ⟨by omega, by omega⟩]; omega
        obtain ⟨j, hj⟩ : ∃ j, L.length - 1 = j := ⟨_, rfl⟩
        have hjl : j < L.length := by omega
        rw [hj] at HWL HWL2
        clear hj
        have hji : (j : Int) < (L.length : Int) := by omega
        have hj0 : (0 : Int) ≤ (j : Int) := by omega
        have hwl := HWL.out
        have hwl2 := HWL2.out
        go_wp2_with fail
        refine (pickE g A len cap _ P _ S4.out.rdr (by clear hwl hwl2; omega) (by clear hwl hwl2; omega)).mono ?_; rintro e5 w5 ⟨q1, rfl, -, -, hr5, hg5, -⟩
        have S5 := Lib.hid ((S4.out.keep hr5 hg5).more (m' := m + 60) (by clear hwl hwl2; omega))
        clear hr5 hg5 S4
        go_wp2_with fail
        refine (pickE g A len cap _ P _ S5.out.rdr (by clear hwl hwl2; omega) (by clear hwl hwl2; omega)).mono ?_; rintro e6 w6 ⟨q2, rfl, -, -, hr6, hg6, -⟩
        have S6 := Lib.hid ((S5.out.keep hr6 hg6).more (m' := m + 70) (by clear hwl hwl2; omega))
        obtain ⟨⟨pa, pb⟩, hx⟩ : ∃ x, L[j]? = some x := ⟨_, List.getElem?_eq_getElem hjl⟩
        obtain ⟨b', o', e9, -, c0, c1⟩ := S6.out.rc j _ hx
        injection e9 with e9; injection e9 with e91 e92; subst e91; subst e92
        simp only [Nat.zero_add] at c0 c1
        have d0 := S6.out.own.frozenAt (j * 2)
        have d1 := S6.out.own.frozenAt (j * 2 + 1)
        have S7 := Lib.hid (S6.out.put j (q1, q2))
        clear hr6 hg6 hx S5
        go_wp2_with fail
        clear hwl hwl2
        refine bodyPost_ret (v := .tuple #[.int .i64 P, (.slice (some ⟨bl, 0, none⟩) L.length cq)]) (by simp [results, Tryd.results33, go_sem]) rfl ?_
        have hf : ∀ W : World, LiSt w W 79 28 g A len cap (m + 70) (.slice (some ⟨bl, 0, none⟩) L.length cq) (L.set j (q1, q2)) → LiPost w 79 g A len cap m (.returned (.tuple #[.int .i64 P, .slice (some ⟨bl, 0, none⟩) L.length cq])) W := fun W h => by
          have e : (L.set j (q1, q2)).length = L.length := by rw [List.length_set]
          have h9 := LiSt.fin (P := P) (m := m) (by rw [e]; exact h) (by rw [e]; exact hL5) p2 p6 (by omega)
          rw [e] at h9
          exact h9
        first | exact hf _ S7.out | exact hf _ S7.out.drew
/-- some places, some pairs -/
def DrawnLi (w : World) (e : Ending) (w' : World) : Prop :=
  ∃ (P : Int) (bq oq cp : Nat) (ps : List (Int × Int)), e = .returned (.tuple #[.int .i64 P, .slice (some ⟨bq, oq, none⟩) ps.length cp]) ∧ RC w' w'.heap.size (some ⟨bq, oq, none⟩) ps ∧ ps.length ≤ 5 ∧ ps.length ≤ cp ∧ 2 ≤ P ∧ P ≤ 6 ∧ Below w.heap.size w w'
set_option maxHeartbeats 2000000 in
theorem DrawLinksOk_any (A : Option Addr) (len cap : Nat) (w : World) (hr : RB w w.heap.size A len) (hc : len ≤ cap) (hl : len ≤ 1048576) :
    Calls Tryd.prog 9 #[.slice A len cap] w (DrawnLi w) := by
  have HR := Lib.hid hr
  clear hr
  go_enter Tryd.func9, Tryd.ntmps9
  go_wp2_with fail
  refine (openE A len cap _ HR.out hc hl).mono ?_
  rintro e wo ⟨l1, rfl, hr1, hb1⟩
  have hgo := hr1.lt
  have HB1 := Lib.hid hb1
  clear hb1
  go_wp2_with fail
  refine (l20Links_any w.heap.size A l1 cap 0 2 _ hr1 (by omega) (by omega) (by omega)).mono ?_
  rintro e w1 ⟨P, bq, oq, cp, ps, rfl, hrc, h5, hcp, p2, p6, -, hgr⟩
  have HBD := Lib.hid (below_of_only HB1.out hgr (Nat.le_refl _))
  have HRC := Lib.hid hrc
  clear hrc hr1 hgr
  go_wp2_with fail
  refine bodyPost_ret (v := .tuple #[.int .i64 P, .slice (some ⟨bq, oq, none⟩) ps.length cp]) (by simp [results, Tryd.results9, go_sem]) rfl ?_
  exact ⟨P, bq, oq, cp, ps, rfl, HRC.out, h5, hcp, p2, p6, HBD.out⟩
set_option maxHeartbeats 2000000 in
theorem DrawCodeOf_any (A : Option Addr) (len cap : Nat) (w : World) (hr : RB w w.heap.size A len) (hc : len ≤ cap) (hl : len ≤ 1048576) :
    Calls Tryd.prog 12 #[.slice A len cap] w (DrawnLi w) := by
  have HR := Lib.hid hr
  clear hr
  go_enter Tryd.func12, Tryd.ntmps12
  go_wp2_with fail
  refine (openE A len cap _ HR.out hc hl).mono ?_
  rintro e wo ⟨l1, rfl, hr1, hb1⟩
  have hgo := hr1.lt
  have HB1 := Lib.hid hb1
  clear hb1
  go_wp2_with fail
  refine (l20Links_any w.heap.size A l1 cap 0 9 _ hr1 (by omega) (by omega) (by omega)).mono ?_
  rintro e w1 ⟨P, bq, oq, cp, ps, rfl, hrc, h5, hcp, p2, p6, -, hgr⟩
  have HBD := Lib.hid (below_of_only HB1.out hgr (Nat.le_refl _))
  have HRC := Lib.hid hrc
  clear hrc hr1 hgr
  go_wp2_with fail
  refine bodyPost_ret (v := .tuple #[.int .i64 P, .slice (some ⟨bq, oq, none⟩) ps.length cp]) (by simp [results, Tryd.results12, go_sem]) rfl ?_
  exact ⟨P, bq, oq, cp, ps, rfl, HRC.out, h5, hcp, p2, p6, HBD.out⟩
end Go.Proofs.YtimccjmphdkbjaaDoor
