/- The draw of points. -/
import Derived.Test.YtgnjjiljipgbnaaCuA
import Derived.Test.YtgnjjiljipgbnaaWX
import Derived.Test.YtgnjjiljipgbnaaOrY
set_option linter.unusedSimpArgs false
set_option linter.unusedVariables false
attribute [local go_sem ↓] Go.wp_at_zero Go.wp_at_succ
namespace Go.Proofs.Ytgnjjiljipgbnaa
open Go.ChangeShapes Go.WideShapes Go.ChangeAt Go.RowKit

theorem ctA : ∀ (ys xs : List (Int × Int)), ctCells (ys ++ xs) = ctCells ys ++ ctCells xs
  | [], _ => rfl
  | y :: ys, xs => by simp [ctCells, ctA ys xs]
/-- points under way: w0 the world at the beginning -/
structure PtSt (w0 w : World) (t tc : TypeId) (g : Nat) (A : Option Addr) (len cap : Nat) (m : Int) (v : Value) (cs : List (Int × Int)) : Prop where
  rdr : RdrE w t g A len cap m
  gr : w0.grownBy w (some g)
  own : w.ownsRow w0.heap.size tc 2 v cs.length (ctCells cs)
  glt : g < w0.heap.size
section
variable {w0 w w' : World} {t tc : TypeId} {g : Nat} {A : Option Addr} {len cap : Nat} {m m' : Int} {v : Value} {cs : List (Int × Int)}
theorem PtSt.start (hr : RdrE w0 t g A len cap m) (hlt : g < w0.heap.size) : PtSt w0 (w0.alloc (.cells #[] tc)) t tc g A len cap m (.slice (some ⟨w0.heap.size, 0, none⟩) 0 0) [] :=
  ⟨hr.keep fun k hk => Below.heap_alloc _ _ _ (by omega), only_alloc (World.grownBy.refl w0 (some g)) _, ⟨rfl, .inr ⟨w0.heap.size, 0, #[], rfl, Nat.le_refl _, heap_alloc_new _ _, Nat.le_refl _, Nat.zero_le _, rfl, rfl⟩⟩, hlt⟩
theorem PtSt.keep (h : PtSt w0 w t tc g A len cap m v cs) (hr : RdrE w' t g A len cap m') (hg : w.grownBy w' (some g)) : PtSt w0 w' t tc g A len cap m' v cs :=
  ⟨hr, only_trans h.gr hg, h.own.kept hg (by right; intro e; have := h.own.lt g e; have := h.glt; omega), h.glt⟩
theorem PtSt.more (h : PtSt w0 w t tc g A len cap m v cs) (hm : m ≤ m') : PtSt w0 w t tc g A len cap m' v cs := h.keep (h.rdr.more hm) (World.grownBy.refl w _)
theorem PtSt.append (h : PtSt w0 w t tc g A len cap m v cs) (xs : List (Int × Int)) {o : Obj} {w3 : World} {gg c : Nat}
    (hown : w3.ownsRow w0.heap.size tc 2 (.slice (some ⟨gg, 0, none⟩) (cs.length + xs.length) c) (cs.length + xs.length) (ctCells cs ++ ctCells xs)) (hg : (w.alloc o).grownBy w3 v.ownBlock) :
    PtSt w0 w3 t tc g A len cap m (.slice (some ⟨gg, 0, none⟩) (cs.length + xs.length) c) (cs ++ xs) := by
  have h1 := h.glt
  have hs : w0.heap.size ≤ w.heap.size := h.gr.size
  have hlt : ∀ k, v.ownBlock = some k → w0.heap.size ≤ k := fun k hk => (h.own.lt k hk).1
  have hblk : ∀ k, k < w0.heap.size → w3.heap[k]? = w.heap[k]? := fun k hk => by
    rw [hg.block k (by simp; omega) (fun e => by have := hlt k e.symm; omega)]
    exact Below.heap_alloc _ _ _ (by omega)
  have hsz := hg.size
  simp only [World.size_alloc] at hsz
  refine ⟨h.rdr.keep fun k hk => hblk k (by omega), ⟨hg.os.trans h.gr.os, hg.tape.trans h.gr.tape, hg.output.trans h.gr.output, by omega, fun k hk hne => (hblk k hk).trans (h.gr.block k hk hne)⟩, ?_, h1⟩
  have e : ctCells (cs ++ xs) = ctCells cs ++ ctCells xs := by
    exact ctA cs xs
  rw [e, List.length_append]; exact hown
end
/-- points -/
def PtPost (w : World) (t : TypeId) (g : Nat) (A : Option Addr) (len cap : Nat) (m : Int) (e : Ending) (w' : World) : Prop :=
  ∃ (bc cc : Nat) (ps : List (Int × Int)), e = .returned (.slice (some ⟨bc, 0, none⟩) ps.length cc) ∧ RC w' w'.heap.size (some ⟨bc, 0, none⟩) ps ∧ w.heap.size ≤ bc ∧ ps.length ≤ 12 ∧ ps.length ≤ cc ∧ RdrE w' t g A len cap (m + 60) ∧ w.grownBy w' (some g)
theorem pt_cap {w : World} {base n len c1 g : Nat} {e : TypeId} {xs : List Value} (h : w.ownsRow base e 2 (.slice (some ⟨g, 0, none⟩) n c1) len xs) : len ≤ c1 := by
  rcases h.2 with ⟨h8, _⟩ | ⟨g9, c9, cur, h8, _, _, h9, _⟩
  · cases h8
  · injection h8 with _ _ h8; omega
theorem PtSt.fin {w wc : World} {t tc : TypeId} {g : Nat} {A : Option Addr} {len cap : Nat} {m mm : Int} {bc cc : Nat} {cs : List (Int × Int)}
    (h : PtSt w wc t tc g A len cap mm (.slice (some ⟨bc, 0, none⟩) cs.length cc) cs) (hcs : cs.length ≤ 12) (hmm : mm ≤ m + 60) :
    PtPost w t g A len cap m (.returned (.slice (some ⟨bc, 0, none⟩) cs.length cc)) wc :=
  ⟨bc, cc, cs, rfl, rc_of_own h.own, (h.own.lt bc rfl).1, hcs, pt_cap h.own, h.rdr.more hmm, h.gr⟩
theorem rc_set0 {w : World} {B b o : Nat} {p : Int × Int} {ps : List (Int × Int)} (h : RC w B (some ⟨b, o, none⟩) (p :: ps)) (v : Int) : RC (w.setCell ⟨b, o, none⟩ (.int .i64 v)) B (some ⟨b, o, none⟩) ((v, p.2) :: ps) := by
  intro i x hx
  have hoth : ∀ j, j ≠ o → (w.setCell ⟨b, o, none⟩ (.int .i64 v)).cell? ⟨b, j, none⟩ = w.cell? ⟨b, j, none⟩ := fun j hj => World.cell?_setCell_other _ _ _ _ (by intro e; simp only [Addr.mk.injEq] at e; exact hj e.2.1.symm)
  cases i with
  | zero =>
    simp at hx
    subst hx
    obtain ⟨b', o', e9, hB, c0, c1⟩ := h 0 p rfl
    injection e9 with e9; injection e9 with e91 e92; subst e91; subst e92
    refine ⟨b, o, rfl, hB, ?_, ?_⟩
    · simp only [Nat.zero_mul, Nat.add_zero] at c0 ⊢
      exact World.cell?_setCell_same _ _ _ (by rw [c0])
    · simp only [Nat.zero_mul, Nat.add_zero] at c1 ⊢
      rw [hoth (o + 1) (by omega)]; exact c1
  | succ i =>
    obtain ⟨b', o', e9, hB, c0, c1⟩ := h (i + 1) x hx
    injection e9 with e9; injection e9 with e91 e92; subst e91; subst e92
    exact ⟨b, o, rfl, hB, (hoth _ (by omega)).trans c0, (hoth _ (by omega)).trans c1⟩
theorem noPoints (W : World) : (Instr.buildSlice 23 0 #[]).run Try.prog W = .ok (.slice (some ⟨W.heap.size, 0, none⟩) 0 0) (W.alloc (.cells #[] 27)) := by kernel_rfl
theorem infoPointD : (Try.prog.info? 27).map (fun i => (i.zero, i.size, i.bytes)) = some (some (.agg #[.int .i64 0, .int .i64 0]), 2, 16) := by kernel_rfl
set_option maxRecDepth 100000 in
set_option maxHeartbeats 8000000 in
theorem l20Points_any (g : Nat) (A : Option Addr) (len cap : Nat) (m n : Int) (w : World) (hr : RdrE w 67 g A len cap m) (hm : m ≤ 700000) (h1 : 1 ≤ n) (hn : n ≤ 1000) :
    Calls Try.prog 35 #[.pointer (some ⟨g, 0, none⟩), .int .i64 n] w (PtPost w 67 g A len cap m) := by
  have hg := hr.lt
  have HR := Lib.hid hr
  have S0 := Lib.hid (PtSt.start (tc := 27) hr hg)
  clear hr
  have hbs := noPoints
  obtain ⟨i0, hi0, hz0, hz1', hz2⟩ := info_parts infoPointD
  go_enter Try.func35, Try.ntmps35
  go_wp2_with fail
  refine (pickE g A len cap m 5 _ S0.out.rdr (by omega) (by decide)).mono ?_; rintro e wk ⟨k0, rfl, hk00, hk01, hrk, hgk, -⟩
  have hk02 := hk01 (by decide)
  have SK := Lib.hid ((S0.out.keep hrk hgk).more (m' := m + 40 - 4 * (1 + k0)) (by omega))
  have HWK : Hid (IntKind.i64.wrap (1 + k0) = 1 + k0 ∧ wrap64 (1 + k0) = 1 + k0) := ⟨IntWalk.i64_in _ ⟨by omega, by omega⟩, IntWalk.wrap64_in _ ⟨by omega, by omega⟩⟩
  obtain ⟨wk1, wk2⟩ := HWK.out
  clear hk01 hrk hgk S0
  go_wp2_with fail
  clear wk1 wk2
  go_loopw [5, 6] (fun v i wr => ∃ (cs : List (Int × Int)) (k : Int), i = .int .i64 k ∧ 0 ≤ k ∧ k ≤ 5 ∧ (cs.length : Int) + k ≤ 5 ∧ 1 ≤ (cs.length : Int) + k ∧ PtSt w wr 67 27 g A len cap (m + 40 - 4 * k) v cs ∧ ∃ bc cc, v = .slice (some ⟨bc, 0, none⟩) cs.length cc) (fun _ i _ => (intOf i).toNat)
  case atStart => exact ⟨[], 1 + k0, rfl, by omega, by omega, by simp; omega, by simp; omega, SK.out, ⟨_, _, rfl⟩⟩
  case round =>
    clear SK hk00 hk02 HWK
    obtain ⟨cs, k, rfl, hk0, hk5, hcl, hcl1, hst, ⟨bc, cc, hv⟩⟩ := hrel
    (try injection hv with hv1 hv2 hv3)
    (try subst hv)
    (try subst hv1)
    (try subst hv3)
    have S1 := Lib.hid hst
    clear hst
    by_cases hkp : 0 < k
    · go_wp2_with fail
      refine (pickE g A len cap _ 9 _ S1.out.rdr (by omega) (by omega)).mono ?_; rintro e2 w2 ⟨q1, rfl, hq10, hq11, hr2, hg2, -⟩
      have hq12 := hq11 (by decide)
      have S2 := Lib.hid (S1.out.keep hr2 hg2)
      clear hr2 hg2 hq11
      go_wp2_with fail
      refine (pickE g A len cap _ 9 _ S2.out.rdr (by omega) (by omega)).mono ?_; rintro e3 w3 ⟨q2, rfl, hq20, hq21, hr3, hg3, -⟩
      have hq22 := hq21 (by decide)
      have S3 := Lib.hid (S2.out.keep hr3 hg3)
      obtain ⟨t2, ht2⟩ : ∃ t : Int, q2.tdiv 8 = t := ⟨_, rfl⟩
      have ht20 : 0 ≤ t2 ∧ t2 ≤ 1 := by rw [← ht2, Int.tdiv_eq_ediv_of_nonneg hq20]; omega
      have H1 : Hid (IntKind.i64.wrap (q2.tdiv 8) = t2 ∧ wrap64 (q2.tdiv 8) = t2 ∧ wrap64 (q2 / 8) = t2) := ⟨by rw [ht2]; exact IntWalk.i64_in _ ⟨by omega, by omega⟩, by rw [ht2]; exact IntWalk.wrap64_in _ ⟨by omega, by omega⟩, by rw [← Int.tdiv_eq_ediv_of_nonneg hq20, ht2]; exact IntWalk.wrap64_in _ ⟨by omega, by omega⟩⟩
      have H2 : Hid (IntKind.i64.wrap (t2 * 12) = t2 * 12 ∧ wrap64 (t2 * 12) = t2 * 12) := ⟨IntWalk.i64_in _ ⟨by omega, by omega⟩, IntWalk.wrap64_in _ ⟨by omega, by omega⟩⟩
      have H3 : Hid (IntKind.i64.wrap (q1 + t2 * 12) = q1 + t2 * 12 ∧ wrap64 (q1 + t2 * 12) = q1 + t2 * 12) := ⟨IntWalk.i64_in _ ⟨by omega, by omega⟩, IntWalk.wrap64_in _ ⟨by omega, by omega⟩⟩
      clear hr3 hg3 hq21 ht2 S1
      obtain ⟨a1, a2, a3⟩ := H1.out
      obtain ⟨a4, a5⟩ := H2.out
      obtain ⟨a6, a7⟩ := H3.out
      go_wp2_with fail
      clear a1 a2 a3 a4 a5 a6 a7
      refine (pickE g A len cap _ 9 _ S3.out.rdr (by omega) (by omega)).mono ?_; rintro e4 w4 ⟨q3, rfl, hq30, hq31, hr4, hg4, -⟩
      have hq32 := hq31 (by decide)
      have S4 := Lib.hid (S3.out.keep hr4 hg4)
      clear hr4 hg4 hq31 S2
      go_wp2_with fail
      refine (pickE g A len cap _ 9 _ S4.out.rdr (by omega) (by omega)).mono ?_; rintro e5 w5 ⟨q4, rfl, hq40, hq41, hr5, hg5, -⟩
      have hq42 := hq41 (by decide)
      have S5 := Lib.hid ((S4.out.keep hr5 hg5).more (m' := m + 40 - 4 * (k - 1)) (by omega))
      obtain ⟨t4, ht4⟩ : ∃ t : Int, q4.tdiv 8 = t := ⟨_, rfl⟩
      have ht40 : 0 ≤ t4 ∧ t4 ≤ 1 := by rw [← ht4, Int.tdiv_eq_ediv_of_nonneg hq40]; omega
      have H4 : Hid (IntKind.i64.wrap (q4.tdiv 8) = t4 ∧ wrap64 (q4.tdiv 8) = t4 ∧ wrap64 (q4 / 8) = t4) := ⟨by rw [ht4]; exact IntWalk.i64_in _ ⟨by omega, by omega⟩, by rw [ht4]; exact IntWalk.wrap64_in _ ⟨by omega, by omega⟩, by rw [← Int.tdiv_eq_ediv_of_nonneg hq40, ht4]; exact IntWalk.wrap64_in _ ⟨by omega, by omega⟩⟩
      have H5 : Hid (IntKind.i64.wrap (t4 * 12) = t4 * 12 ∧ wrap64 (t4 * 12) = t4 * 12) := ⟨IntWalk.i64_in _ ⟨by omega, by omega⟩, IntWalk.wrap64_in _ ⟨by omega, by omega⟩⟩
      have H6 : Hid (IntKind.i64.wrap (q3 + t4 * 12) = q3 + t4 * 12 ∧ wrap64 (q3 + t4 * 12) = q3 + t4 * 12) := ⟨IntWalk.i64_in _ ⟨by omega, by omega⟩, IntWalk.wrap64_in _ ⟨by omega, by omega⟩⟩
      clear hr5 hg5 hq41 ht4 S3 S4
      obtain ⟨x, hx⟩ : ∃ x, q1 + t2 * 12 = x := ⟨_, rfl⟩
      obtain ⟨y, hy⟩ : ∃ y, q3 + t4 * 12 = y := ⟨_, rfl⟩
      rw [hx]
      rw [hy] at H6
      clear hx
      obtain ⟨a1, a2, a3⟩ := H4.out
      obtain ⟨a4, a5⟩ := H5.out
      obtain ⟨a6, a7⟩ := H6.out
      go_wp2_with (at_builtin; (clear a1 a2 a3 a4 a5 a6 a7); refine wpList_append_lies _ rfl _ _ _ rfl w.heap.size 27 i0 _ 2 16 Try.underlying23 hi0 hz0 hz1' hz2 rfl (by decide) (.slice (some ⟨bc, 0, none⟩) cs.length cc) cs.length (ctCells cs) rfl (World.ownsRow.alloc S5.out.own _) ⟨w5.heap.size, 0, none⟩ 1 1 (ctCells [(x, y)]) rfl rfl (World.news_of_block (cs := #[.int .i64 x, .int .i64 y]) (t := 27) (fr := (0, 0)) (heap_alloc_new w5 _)) (ctCells_one _) (by decide) (by unfold maxLen; omega) (by omega) (by have h9 := S5.out.gr.size; (try simp); omega) (w5.heap.size + 1) (World.size_alloc w5 _) ?_; intro gg cg w9 hown9 hgrow9 hat9 hlt9)
      (try clear a1 a2 a3 a4 a5 a6 a7)
      have S9 := Lib.hid (S5.out.append [(x, y)] hown9 ⟨hgrow9.os, hgrow9.tape, hgrow9.output, hgrow9.size, hgrow9.block⟩)
      clear hown9 hgrow9 hat9 hlt9
      go_wp2_with fail
      go_roundw
      case rel => exact ⟨cs ++ [(x, y)], k - 1, by go_num, by omega, by omega, by rw [List.length_append]; simp only [List.length_cons, List.length_nil]; omega, by rw [List.length_append]; simp only [List.length_cons, List.length_nil]; omega, S9.out, ⟨gg, cg, by rw [List.length_append]; rfl⟩⟩
      case measure => (simp [intOf]) <;> omega
    · have hcs1 : 0 < cs.length := by omega
      have hcs1i : (0 : Int) < (cs.length : Int) := by omega
      go_wp2_with fail
      refine (oddE g A len cap _ n _ S1.out.rdr (by omega) (by omega) (by omega)).mono ?_; rintro e7 w7 ⟨q7, rfl, hr7, hg7, -⟩
      have S7 := Lib.hid (S1.out.keep hr7 hg7)
      clear hr7 hg7 S1
      cases q7
      · go_wp2_with fail
        go_ret
        exact S7.out.fin (by omega) (by omega)
      · go_wp2_with fail
        refine (pickE g A len cap _ 3 _ S7.out.rdr (by omega) (by omega)).mono ?_; rintro e8 w8 ⟨q8, rfl, hq80, hq81, hr8, hg8, -⟩
        have hq82 := hq81 (by decide)
        have S8 := Lib.hid (S7.out.keep hr8 hg8)
        clear hr8 hg8 hq81 S7
        by_cases hc0 : q8 = 0
        · subst hc0
          have S9 := Lib.hid (PtSt.start (tc := 27) S8.out.rdr (by have := S8.out.gr.size; omega))
          go_wp2_with fail
          go_ret
          have h9 := PtSt.fin (m := m) (bc := w8.heap.size) (cc := 0) (cs := []) S9.out (by decide) (by omega)
          obtain ⟨b', c', ps', e', r1, r2, r3, r4, r5, r6⟩ := h9
          exact ⟨b', c', ps', e', r1, by have := S8.out.gr.size; omega, r3, r4, r5, only_trans S8.out.gr r6⟩
        · have hc0b : (q8 == 0) = false := by simpa using hc0
          obtain ⟨⟨pa, pb⟩, rest, hcs⟩ : ∃ p rest, cs = p :: rest := by
            cases cs with
            | nil => simp at hcs1
            | cons p rest => exact ⟨p, rest, rfl⟩
          have hrc := rc_of_own S8.out.own
          rw [hcs] at hrc
          obtain ⟨b9, o9, e9, hb8, x0, x1⟩ := hrc 0 _ rfl
          injection e9 with e9; injection e9 with e91 e92; subst e91; subst e92
          simp only [Nat.zero_mul, Nat.zero_add] at x0 x1
          have hbc := (S8.out.own.lt bc rfl).1
          have hfz : w8.frozen? ⟨bc, 0, none⟩ = false := by
            obtain ⟨b9, o9, e9, _, _, _, f0⟩ := (rowF_of_cuts S8.out.own).at_ 0 (by omega)
            injection e9 with e9; injection e9 with e91 e92; subst e91; subst e92
            simpa using f0
          have HRC := Lib.hid hrc
          have HCS := Lib.hid hcs
          clear hrc hcs
          by_cases hc1 : q8 = 1
          · subst hc1
            go_wp2_with fail
            refine (pickE g A len cap _ 2 _ (S8.out.rdr.keep (w' := w8.alloc (.cells #[.int .i64 (-1), .int .i64 21] 3)) (fun k hk => Below.heap_alloc _ _ _ (by have := S8.out.gr.size; omega))) (by omega) (by omega)).mono ?_; rintro e10 w10 ⟨q9, rfl, hq90, hq91, hr10, hg10, -⟩
            have hq92 := hq91 (by decide)
            have hgb : ∀ i, i < w8.heap.size → i ≠ g → w10.heap[i]? = w8.heap[i]? := fun i hi hne => (hg10.block i (by simp; omega) (by intro e; injection e; omega)).trans (Below.heap_alloc _ _ _ hi)
            have hbg : bc ≠ g := by omega
            have z0 := (World.cell?_of_block (w := w8) (hgb bc hb8 hbg)).trans x0
            have z1 := (World.cell?_of_block (w := w8) (hgb bc hb8 hbg)).trans x1
            have z2 := (World.frozen?_of_block (w := w8) (a := ⟨bc, 0, none⟩) (hgb bc hb8 hbg)).trans hfz
            have lit : w10.heap[w8.heap.size]? = some (.cells #[.int .i64 (-1), .int .i64 21] 3 (0, 0)) := (hg10.block w8.heap.size (by simp) (by intro e; injection e; have := S8.out.gr.size; omega)).trans (heap_alloc_new w8 _)
            have y0 := cell_of_row _ _ 0 _ _ (0, 0) lit
            have y1 := cell_of_row _ _ 1 _ _ (0, 0) lit
            have hs10 : w8.heap.size < w10.heap.size := by have := hg10.size; simp at this; omega
            have hrc10 : RC w10 w10.heap.size (some ⟨bc, 0, none⟩) ((pa, pb) :: rest) := fun i x hx => by
              obtain ⟨b9, o9, e9, hb9, c0, c1⟩ := HRC.out i x hx
              injection e9 with e9; injection e9 with e91 e92; subst e91; subst e92
              exact ⟨bc, 0, rfl, by omega, (World.cell?_of_block (w := w8) (hgb bc hb8 hbg)).trans c0, (World.cell?_of_block (w := w8) (hgb bc hb8 hbg)).trans c1⟩
            have HR10 := Lib.hid hrc10
            have HG10 : Hid (w8.grownBy w10 (some g)) := only_trans (only_alloc (World.grownBy.refl w8 (some g)) _) hg10
            have HRD := Lib.hid hr10
            clear hg10 hgb lit hrc10 hr10 x0 x1 hfz hq91
            have fin9 : ∀ v : Int, PtPost w 67 g A len cap m (.returned (.slice (some ⟨bc, 0, none⟩) cs.length cc)) (w10.setCell ⟨bc, 0, none⟩ (.int .i64 v)) := fun v => by
              have hl : cs.length = ((v, pb) :: rest).length := by rw [HCS.out]; rfl
              have hcap := pt_cap S8.out.own
              have hr := (rc_set0 HR10.out v)
              refine ⟨bc, cc, (v, pb) :: rest, by rw [hl], fun i x hx => ?_, hbc, by rw [← hl]; omega, by rw [← hl]; exact hcap, (HRD.out.more (by omega)).keep (fun k hk => Below.heap_setCell _ _ _ _ (by show k ≠ bc; omega)), only_setCell (only_trans S8.out.gr HG10.out) (.inr hbc) _⟩
              obtain ⟨b9, o9, e9, hb9, c0, c1⟩ := hr i x hx
              exact ⟨b9, o9, e9, by simpa [World.setCell] using hb9, c0, c1⟩
            have HFIN := Lib.hid fin9
            clear fin9
            rcases (show q9 = 0 ∨ q9 = 1 by omega) with h9 | h9 <;> subst h9
            · go_wp2_with fail
              go_ret
              exact HFIN.out _
            · go_wp2_with fail
              go_ret
              exact HFIN.out _
          · have hc1b : (q8 == 1) = false := by simpa using hc1
            go_wp2_with fail
            refine AnyY.region (S := (fun w' => w'.cell? ⟨bc, 0, none⟩ = some (.int .i64 pa) ∧ w'.cell? ⟨bc, 1, none⟩ = some (.int .i64 pb))) (z := 20) (by kernel_rfl) ?_ (fun hHeld => ?_)
            · exact ⟨x0, x1⟩
            refine AnyY.take (i := 0) (oi := ⟨_, _, _, _, _, _⟩) (v := ?_) (n := 5) rfl (by kernel_rfl) (by kernel_rfl) (by kernel_rfl) (by kernel_rfl) (by kernel_rfl) (fun _ _ _ h => h) (Or.inl ⟨by rfl, ?_⟩) (by assumption) ?_
            rotate_left
            · (intro w hSw; (try dsimp only at hSw); (try simp only [List.getElem_toArray, List.getElem_cons_succ, List.getElem_cons_zero]); first | (go_simp; done) | (go_simp; with_reducible rfl))
            try simp only [Act.put, List.getElem_toArray, List.getElem_cons_succ, List.getElem_cons_zero, List.setIfInBounds_toArray, List.set_cons_zero, List.set_cons_succ]
            refine AnyY.take (i := 1) (oi := ⟨_, _, _, _, _, _⟩) (v := ?_) (n := 5) rfl (by kernel_rfl) (by kernel_rfl) (by kernel_rfl) (by kernel_rfl) (by kernel_rfl) (fun _ _ _ h => h) (Or.inl ⟨by rfl, ?_⟩) (by assumption) ?_
            rotate_left
            · (intro w hSw; (try dsimp only at hSw); (try simp only [List.getElem_toArray, List.getElem_cons_succ, List.getElem_cons_zero]); first | (go_simp; done) | (go_simp; with_reducible rfl))
            try simp only [Act.put, List.getElem_toArray, List.getElem_cons_succ, List.getElem_cons_zero, List.setIfInBounds_toArray, List.set_cons_zero, List.set_cons_succ]
            refine AnyY.take (i := 2) (oi := ⟨_, _, _, _, _, _⟩) (v := ?_) (n := 5) rfl (by kernel_rfl) (by kernel_rfl) (by kernel_rfl) (by kernel_rfl) (by kernel_rfl) (fun _ _ _ h => h) (Or.inl ⟨by rfl, ?_⟩) (by assumption) ?_
            rotate_left
            · (intro w hSw; (try dsimp only at hSw); (try simp only [List.getElem_toArray, List.getElem_cons_succ, List.getElem_cons_zero]); first | (go_simp; done) | (go_simp; with_reducible rfl))
            try simp only [Act.put, List.getElem_toArray, List.getElem_cons_succ, List.getElem_cons_zero, List.setIfInBounds_toArray, List.set_cons_zero, List.set_cons_succ]
            refine AnyY.take (i := 3) (oi := ⟨_, _, _, _, _, _⟩) (v := ?_) (n := 5) rfl (by kernel_rfl) (by kernel_rfl) (by kernel_rfl) (by kernel_rfl) (by kernel_rfl) (fun _ _ _ h => h) (Or.inl ⟨by rfl, ?_⟩) (by assumption) ?_
            rotate_left
            · (intro w hSw; (try dsimp only at hSw); (try simp only [List.getElem_toArray, List.getElem_cons_succ, List.getElem_cons_zero]); first | (go_simp; done) | (go_simp; with_reducible rfl))
            try simp only [Act.put, List.getElem_toArray, List.getElem_cons_succ, List.getElem_cons_zero, List.setIfInBounds_toArray, List.set_cons_zero, List.set_cons_succ]
            refine AnyY.take (i := 4) (oi := ⟨_, _, _, _, _, _⟩) (v := ?_) (n := 5) rfl (by kernel_rfl) (by kernel_rfl) (by kernel_rfl) (by kernel_rfl) (by kernel_rfl) (fun _ _ _ h => h) (Or.inl ⟨by rfl, ?_⟩) (by assumption) ?_
            rotate_left
            · (intro w hSw; (try dsimp only at hSw); (try simp only [List.getElem_toArray, List.getElem_cons_succ, List.getElem_cons_zero]); first | (go_simp; done) | (go_simp; with_reducible rfl))
            try simp only [Act.put, List.getElem_toArray, List.getElem_cons_succ, List.getElem_cons_zero, List.setIfInBounds_toArray, List.set_cons_zero, List.set_cons_succ]
            refine AnyY.take (i := 5) (oi := ⟨_, _, _, _, _, _⟩) (v := ?_) (n := 5) rfl (by kernel_rfl) (by kernel_rfl) (by kernel_rfl) (by kernel_rfl) (by kernel_rfl) (fun _ _ _ h => h) (Or.inl ⟨by rfl, ?_⟩) (by assumption) ?_
            rotate_left
            · (intro w hSw; (try dsimp only at hSw); (try simp only [List.getElem_toArray, List.getElem_cons_succ, List.getElem_cons_zero]); first | (go_simp; done) | (go_simp; with_reducible rfl))
            try simp only [Act.put, List.getElem_toArray, List.getElem_cons_succ, List.getElem_cons_zero, List.setIfInBounds_toArray, List.set_cons_zero, List.set_cons_succ]
            refine AnyY.take (i := 6) (oi := ⟨_, _, _, _, _, _⟩) (v := ?_) (n := 5) rfl (by kernel_rfl) (by kernel_rfl) (by kernel_rfl) (by kernel_rfl) (by kernel_rfl) (fun _ _ _ h => h) (Or.inl ⟨by rfl, ?_⟩) (by assumption) ?_
            rotate_left
            · (intro w hSw; (try dsimp only at hSw); (try simp only [List.getElem_toArray, List.getElem_cons_succ, List.getElem_cons_zero]); first | (go_simp; done) | (go_simp; with_reducible rfl))
            try simp only [Act.put, List.getElem_toArray, List.getElem_cons_succ, List.getElem_cons_zero, List.setIfInBounds_toArray, List.set_cons_zero, List.set_cons_succ]
            refine AnyY.take (i := 7) (oi := ⟨_, _, _, _, _, _⟩) (v := ?_) (n := 5) rfl (by kernel_rfl) (by kernel_rfl) (by kernel_rfl) (by kernel_rfl) (by kernel_rfl) (fun _ _ _ h => h) (Or.inl ⟨by rfl, ?_⟩) (by assumption) ?_
            rotate_left
            · (intro w hSw; (try dsimp only at hSw); (try simp only [List.getElem_toArray, List.getElem_cons_succ, List.getElem_cons_zero]); first | (go_simp; done) | (go_simp; with_reducible rfl))
            try simp only [Act.put, List.getElem_toArray, List.getElem_cons_succ, List.getElem_cons_zero, List.setIfInBounds_toArray, List.set_cons_zero, List.set_cons_succ]
            refine AnyY.take (i := 8) (oi := ⟨_, _, _, _, _, _⟩) (v := ?_) (n := 5) rfl (by kernel_rfl) (by kernel_rfl) (by kernel_rfl) (by kernel_rfl) (by kernel_rfl) (fun _ _ _ h => h) (Or.inl ⟨by rfl, ?_⟩) (by assumption) ?_
            rotate_left
            · (intro w hSw; (try dsimp only at hSw); (try simp only [List.getElem_toArray, List.getElem_cons_succ, List.getElem_cons_zero]); first | (go_simp; done) | (go_simp; with_reducible rfl))
            try simp only [Act.put, List.getElem_toArray, List.getElem_cons_succ, List.getElem_cons_zero, List.setIfInBounds_toArray, List.set_cons_zero, List.set_cons_succ]
            refine AnyY.take (i := 9) (oi := ⟨_, _, _, _, _, _⟩) (v := ?_) (n := 5) rfl (by kernel_rfl) (by kernel_rfl) (by kernel_rfl) (by kernel_rfl) (by kernel_rfl) (fun _ _ _ h => h) (Or.inl ⟨by rfl, ?_⟩) (by assumption) ?_
            rotate_left
            · (intro w hSw; (try dsimp only at hSw); (try simp only [List.getElem_toArray, List.getElem_cons_succ, List.getElem_cons_zero]); first | (go_simp; done) | (go_simp; with_reducible rfl))
            try simp only [Act.put, List.getElem_toArray, List.getElem_cons_succ, List.getElem_cons_zero, List.setIfInBounds_toArray, List.set_cons_zero, List.set_cons_succ]
            refine AnyY.take (i := 10) (oi := ⟨_, _, _, _, _, _⟩) (v := ?_) (n := 5) rfl (by kernel_rfl) (by kernel_rfl) (by kernel_rfl) (by kernel_rfl) (by kernel_rfl) (fun _ _ _ h => h) (Or.inl ⟨by rfl, ?_⟩) (by assumption) ?_
            rotate_left
            · (intro w hSw; (try dsimp only at hSw); (try simp only [List.getElem_toArray, List.getElem_cons_succ, List.getElem_cons_zero]); first | (go_simp; done) | (go_simp; with_reducible rfl))
            try simp only [Act.put, List.getElem_toArray, List.getElem_cons_succ, List.getElem_cons_zero, List.setIfInBounds_toArray, List.set_cons_zero, List.set_cons_succ]
            refine AnyY.take (i := 11) (oi := ⟨_, _, _, _, _, _⟩) (v := ?_) (n := 5) rfl (by kernel_rfl) (by kernel_rfl) (by kernel_rfl) (by kernel_rfl) (by kernel_rfl) (fun _ _ _ h => h) (Or.inl ⟨by rfl, ?_⟩) (by assumption) ?_
            rotate_left
            · (intro w hSw; (try dsimp only at hSw); (try simp only [List.getElem_toArray, List.getElem_cons_succ, List.getElem_cons_zero]); first | (go_simp; done) | (go_simp; with_reducible rfl))
            try simp only [Act.put, List.getElem_toArray, List.getElem_cons_succ, List.getElem_cons_zero, List.setIfInBounds_toArray, List.set_cons_zero, List.set_cons_succ]
            refine AnyY.take (i := 12) (oi := ⟨_, _, _, _, _, _⟩) (v := ?_) (n := 5) rfl (by kernel_rfl) (by kernel_rfl) (by kernel_rfl) (by kernel_rfl) (by kernel_rfl) (fun _ _ _ h => h) (Or.inl ⟨by rfl, ?_⟩) (by assumption) ?_
            rotate_left
            · (intro w hSw; (try dsimp only at hSw); (try simp only [List.getElem_toArray, List.getElem_cons_succ, List.getElem_cons_zero]); first | (go_simp; done) | (go_simp; with_reducible rfl))
            try simp only [Act.put, List.getElem_toArray, List.getElem_cons_succ, List.getElem_cons_zero, List.setIfInBounds_toArray, List.set_cons_zero, List.set_cons_succ]
            refine AnyY.take (i := 13) (oi := ⟨_, _, _, _, _, _⟩) (v := ?_) (n := 5) rfl (by kernel_rfl) (by kernel_rfl) (by kernel_rfl) (by kernel_rfl) (by kernel_rfl) (fun _ _ _ h => h) (Or.inl ⟨by rfl, ?_⟩) (by assumption) ?_
            rotate_left
            · (intro w hSw; (try dsimp only at hSw); (try simp only [List.getElem_toArray, List.getElem_cons_succ, List.getElem_cons_zero]); first | (go_simp; done) | (go_simp; with_reducible rfl))
            try simp only [Act.put, List.getElem_toArray, List.getElem_cons_succ, List.getElem_cons_zero, List.setIfInBounds_toArray, List.set_cons_zero, List.set_cons_succ]
            refine AnyY.take (i := 14) (oi := ⟨_, _, _, _, _, _⟩) (v := ?_) (n := 5) rfl (by kernel_rfl) (by kernel_rfl) (by kernel_rfl) (by kernel_rfl) (by kernel_rfl) (fun _ _ _ h => h) (Or.inl ⟨by rfl, ?_⟩) (by assumption) ?_
            rotate_left
            · (intro w hSw; (try dsimp only at hSw); (try simp only [List.getElem_toArray, List.getElem_cons_succ, List.getElem_cons_zero]); first | (go_simp; done) | (go_simp; with_reducible rfl))
            try simp only [Act.put, List.getElem_toArray, List.getElem_cons_succ, List.getElem_cons_zero, List.setIfInBounds_toArray, List.set_cons_zero, List.set_cons_succ]
            refine AnyY.take (i := 15) (oi := ⟨_, _, _, _, _, _⟩) (v := ?_) (n := 5) rfl (by kernel_rfl) (by kernel_rfl) (by kernel_rfl) (by kernel_rfl) (by kernel_rfl) (fun _ _ _ h => h) (Or.inl ⟨by rfl, ?_⟩) (by assumption) ?_
            rotate_left
            · (intro w hSw; (try dsimp only at hSw); (try simp only [List.getElem_toArray, List.getElem_cons_succ, List.getElem_cons_zero]); first | (go_simp; done) | (go_simp; with_reducible rfl))
            try simp only [Act.put, List.getElem_toArray, List.getElem_cons_succ, List.getElem_cons_zero, List.setIfInBounds_toArray, List.set_cons_zero, List.set_cons_succ]
            refine AnyY.take (i := 16) (oi := ⟨_, _, _, _, _, _⟩) (v := ?_) (n := 5) rfl (by kernel_rfl) (by kernel_rfl) (by kernel_rfl) (by kernel_rfl) (by kernel_rfl) (fun _ _ _ h => h) (Or.inl ⟨by rfl, ?_⟩) (by assumption) ?_
            rotate_left
            · (intro w hSw; (try dsimp only at hSw); (try simp only [List.getElem_toArray, List.getElem_cons_succ, List.getElem_cons_zero]); first | (go_simp; done) | (go_simp; with_reducible rfl))
            try simp only [Act.put, List.getElem_toArray, List.getElem_cons_succ, List.getElem_cons_zero, List.setIfInBounds_toArray, List.set_cons_zero, List.set_cons_succ]
            refine AnyY.take (i := 17) (oi := ⟨_, _, _, _, _, _⟩) (v := ?_) (n := 5) rfl (by kernel_rfl) (by kernel_rfl) (by kernel_rfl) (by kernel_rfl) (by kernel_rfl) (fun _ _ _ h => h) (Or.inl ⟨by rfl, ?_⟩) (by assumption) ?_
            rotate_left
            · (intro w hSw; (try dsimp only at hSw); (try simp only [List.getElem_toArray, List.getElem_cons_succ, List.getElem_cons_zero]); first | (go_simp; done) | (go_simp; with_reducible rfl))
            try simp only [Act.put, List.getElem_toArray, List.getElem_cons_succ, List.getElem_cons_zero, List.setIfInBounds_toArray, List.set_cons_zero, List.set_cons_succ]
            refine AnyY.take (i := 18) (oi := ⟨_, _, _, _, _, _⟩) (v := ?_) (n := 5) rfl (by kernel_rfl) (by kernel_rfl) (by kernel_rfl) (by kernel_rfl) (by kernel_rfl) (fun _ _ _ h => h) (Or.inl ⟨by rfl, ?_⟩) (by assumption) ?_
            rotate_left
            · (intro w hSw; (try dsimp only at hSw); (try simp only [List.getElem_toArray, List.getElem_cons_succ, List.getElem_cons_zero]); first | (go_simp; done) | (go_simp; with_reducible rfl))
            try simp only [Act.put, List.getElem_toArray, List.getElem_cons_succ, List.getElem_cons_zero, List.setIfInBounds_toArray, List.set_cons_zero, List.set_cons_succ]
            refine AnyY.step (i := 19) (o := ⟨_, _, _, _, _, _⟩) (by kernel_rfl) (by decide) rfl (fun K hK => ?_)
            go_simp
            refine hK.out _ _ ?_ (fun hHeld => ?_)
            · exact ⟨(World.cell?_alloc_lt _ _ _ hb8).trans x0, (World.cell?_alloc_lt _ _ _ hb8).trans x1⟩
            clear hK K
            try simp only [Act.put, List.getElem_toArray, List.getElem_cons_succ, List.getElem_cons_zero, List.setIfInBounds_toArray, List.set_cons_zero, List.set_cons_succ]
            refine AnyY.stepZ (o := ⟨_, _, _, _, _, _⟩) (by kernel_rfl) rfl (fun K hK => ?_)
            refine step_append_lies _ (by rfl) _ _ _ (by rfl) w.heap.size 27 i0 _ 2 16 Try.underlying23 hi0 hz0 hz1' hz2 rfl (by decide) (.slice (some ⟨bc, 0, none⟩) cs.length cc) cs.length (ctCells cs) (by rfl) (World.ownsRow.alloc S8.out.own _) ⟨w8.drew.heap.size, 0, none⟩ 6 6 (ctCells [(pa, pb), (pa, pb), (pa, pb), (pa, pb), (pa, pb), (pa, pb)]) (by rfl) (by rfl) (World.news_of_block (cs := #[.int .i64 pa, .int .i64 pb, .int .i64 pa, .int .i64 pb, .int .i64 pa, .int .i64 pb, .int .i64 pa, .int .i64 pb, .int .i64 pa, .int .i64 pb, .int .i64 pa, .int .i64 pb]) (t := 27) (fr := (0, 0)) (heap_alloc_new w8.drew _)) (ctCells_one _) (by decide) (by unfold maxLen; omega) (by omega) (by have h9 := S8.out.gr.size; (try simp); omega) (w8.drew.heap.size + 1) (World.size_alloc w8.drew _) ?_; intro gg cg w9 hown9 hgrow9 hat9 hlt9
            have S9 := Lib.hid (S8.out.append [(pa, pb), (pa, pb), (pa, pb), (pa, pb), (pa, pb), (pa, pb)] hown9 ⟨hgrow9.os, hgrow9.tape, hgrow9.output, hgrow9.size, hgrow9.block⟩)
            refine hK.out _ _ ?_
            clear hK K
            try simp only [Act.put, List.getElem_toArray, List.getElem_cons_succ, List.getElem_cons_zero, List.setIfInBounds_toArray, List.set_cons_zero, List.set_cons_succ]
            refine wpAny_one (i := 21) (o := ⟨_, _, _, _, _, _⟩) (by kernel_rfl) rfl (fun K hK => ?_)
            go_simp
            refine hK.out _ _ ?_
            clear hK K
            try simp only [Act.put, List.getElem_toArray, List.getElem_cons_succ, List.getElem_cons_zero, List.setIfInBounds_toArray, List.set_cons_zero, List.set_cons_succ]
            refine wpAny_end (by kernel_rfl) ?_ _
            go_wp2_with fail
            go_ret
            have h9 := PtSt.fin (m := m) (bc := gg) (cc := cg) (cs := cs ++ [(pa, pb), (pa, pb), (pa, pb), (pa, pb), (pa, pb), (pa, pb)]) (by rw [List.length_append]; exact S9.out) (by rw [List.length_append]; simp; omega) (by omega)
            rw [List.length_append] at h9
            exact h9
end Go.Proofs.Ytgnjjiljipgbnaa
