/- The draw of a net, ends and cuts. -/
import Derived.Test.YtiioojjjpabaeaaCuE
import Derived.Test.YtiioojjjpabaeaaWX
import Derived.Test.YtiioojjjpabaeaaWCq
set_option linter.unusedSimpArgs false
set_option linter.unusedVariables false
attribute [local go_sem ↓] Go.wp_at_zero Go.wp_at_succ
namespace Go.Proofs.Ytiioojjjpabaeaa
open Go.ChangeShapes Go.WideShapes Go.ChangeAt Go.RowKit

/-- cuts under way: w0 the world at the beginning, w1 the one behind the net's draw -/
structure CutSt (w0 w1 w : World) (t tn tc : TypeId) (g : Nat) (A : Option Addr) (len cap : Nat) (m nn : Int) (u v : Value) (cs : List (Int × Int)) : Prop where
  rdr : RdrE w t g A len cap m
  gr : w0.grownBy w (some g)
  low : ∀ k, w0.heap.size ≤ k → k < w1.heap.size → w.heap[k]? = w1.heap[k]?
  net : w.heap[w1.heap.size]? = some (.cells #[.int .i64 nn, u] tn (0, 0))
  own : w.ownsRow (w1.heap.size + 1) tc 2 v cs.length (ctCells cs)
  glt : g < w0.heap.size
  wlt : w0.heap.size < w1.heap.size
section
variable {w0 w1 w w' : World} {t tn tc : TypeId} {g : Nat} {A : Option Addr} {len cap : Nat} {m m' nn : Int} {u v : Value} {cs : List (Int × Int)}
theorem CutSt.start (hr : RdrE w1 t g A len cap m) (hg : w0.grownBy w1 (some g)) (hlt : g < w0.heap.size) (hw : w0.heap.size < w1.heap.size) (nn : Int) (u : Value) :
    CutSt w0 w1 ((w1.alloc (.cells #[.int .i64 nn, u] tn)).alloc (.cells #[] tc)) t tn tc g A len cap m nn u (.slice (some ⟨w1.heap.size + 1, 0, none⟩) 0 0) [] := by
  have hk : ∀ k, k < w1.heap.size → ((w1.alloc (.cells #[.int .i64 nn, u] tn)).alloc (.cells #[] tc)).heap[k]? = w1.heap[k]? := fun k hk => (Below.heap_alloc _ _ _ (by simp; omega)).trans (Below.heap_alloc _ _ _ hk)
  refine ⟨hr.keep fun k hk' => hk k (by omega), only_alloc (only_alloc hg _) _, fun k _ h => hk k h, ?_, ⟨rfl, .inr ⟨w1.heap.size + 1, 0, #[], rfl, Nat.le_refl _, ?_, Nat.le_refl _, Nat.zero_le _, rfl, rfl⟩⟩, hlt, hw⟩
  · exact (Below.heap_alloc _ _ _ (by simp)).trans (heap_alloc_new _ _)
  · have h9 := heap_alloc_new (w1.alloc (.cells #[.int .i64 nn, u] tn)) (.cells #[] tc)
    simpa using h9
theorem CutSt.nlt (h : CutSt w0 w1 w t tn tc g A len cap m nn u v cs) : w1.heap.size < w.heap.size := (Array.getElem?_eq_some_iff.1 h.net).1
theorem CutSt.keep (h : CutSt w0 w1 w t tn tc g A len cap m nn u v cs) (hr : RdrE w' t g A len cap m') (hg : w.grownBy w' (some g)) : CutSt w0 w1 w' t tn tc g A len cap m' nn u v cs := by
  have h1 := h.glt
  have h2 := h.wlt
  have h3 := h.nlt
  refine ⟨hr, only_trans h.gr hg, fun k hk hk' => ?_, ?_, h.own.kept hg ?_, h1, h2⟩
  · rw [hg.block k (by omega) (by intro e; injection e; omega)]; exact h.low k hk hk'
  · rw [hg.block _ h3 (by intro e; injection e; omega)]; exact h.net
  · right; intro e; have := h.own.lt g e; omega
theorem CutSt.more (h : CutSt w0 w1 w t tn tc g A len cap m nn u v cs) (hm : m ≤ m') : CutSt w0 w1 w t tn tc g A len cap m' nn u v cs :=
  h.keep (h.rdr.more hm) (World.grownBy.refl w _)
theorem CutSt.below (h : CutSt w0 w1 w t tn tc g A len cap m nn u v cs) (hb : Below w.heap.size w w') : CutSt w0 w1 w' t tn tc g A len cap m nn u v cs :=
  h.keep (h.rdr.below hb) (only_below hb (some g))
theorem CutSt.cells (h : CutSt w0 w1 w t tn tc g A len cap m nn u v cs) : w.cell? ⟨w1.heap.size, 0, none⟩ = some (.int .i64 nn) ∧ w.cell? ⟨w1.heap.size, 1, none⟩ = some u :=
  ⟨cell_of_row _ _ 0 _ _ (0, 0) h.net, cell_of_row _ _ 1 _ _ (0, 0) h.net⟩
theorem CutSt.ways (h : CutSt w0 w1 w t tn tc g A len cap m nn u v cs) {A' : Option Addr} {ws : List Wy} (hrw : RW w1 w1.heap.size A' ws) (hA : ∀ ad, A' = some ad → w0.heap.size < ad.block) : RW w w.heap.size A' ws := by
  intro i x hx
  obtain ⟨b, o, ha, hB, g0, g1, g2⟩ := hrw i x hx
  have hbb := hA _ ha
  simp at hbb
  have hk := h.low b (by omega) hB
  have := h.nlt
  exact ⟨b, o, ha, by omega, (World.cell?_of_block (w := w1) hk).trans g0, (World.cell?_of_block (w := w1) hk).trans g1, (World.cell?_of_block (w := w1) hk).trans g2⟩
theorem CutSt.append (h : CutSt w0 w1 w t tn tc g A len cap m nn u v cs) (x : Int × Int) {o : Obj} {w3 : World} {gg c : Nat}
    (hown : w3.ownsRow (w1.heap.size + 1) tc 2 (.slice (some ⟨gg, 0, none⟩) (cs.length + 1) c) (cs.length + 1) (ctCells cs ++ [.int .i64 x.1, .int .i64 x.2])) (hg : (w.alloc o).grownBy w3 v.ownBlock) :
    CutSt w0 w1 w3 t tn tc g A len cap m nn u (.slice (some ⟨gg, 0, none⟩) (cs.length + 1) c) (cs ++ [x]) := by
  have h1 := h.glt
  have h2 := h.wlt
  have h3 := h.nlt
  have hlt : ∀ k, v.ownBlock = some k → w1.heap.size + 1 ≤ k := fun k hk => (h.own.lt k hk).1
  have hblk : ∀ k, k < w.heap.size → k < w1.heap.size + 1 → w3.heap[k]? = w.heap[k]? := fun k hk hk2 => by
    rw [hg.block k (by simp; omega) (fun e => by have := hlt k e.symm; omega)]
    exact Below.heap_alloc _ _ _ hk
  have hsz := hg.size
  simp only [World.size_alloc] at hsz
  refine ⟨h.rdr.keep fun k hk => hblk k (by omega) (by omega), ⟨?_, ?_, ?_, ?_, fun k hk hne => ?_⟩, fun k hk hk' => ?_, ?_, ?_, h1, h2⟩
  · exact hg.os.trans h.gr.os
  · exact hg.tape.trans h.gr.tape
  · exact hg.output.trans h.gr.output
  · have := h.gr.size; omega
  · rw [hblk k (by omega) (by omega)]; exact h.gr.block k hk hne
  · rw [hblk k (by omega) (by omega)]; exact h.low k hk hk'
  · rw [hblk _ h3 (by omega)]; exact h.net
  · rw [ctCells_snoc, List.length_append]; exact hown
end
/-- a net, ends and cuts -/
def CutsPost (w : World) (g : Nat) (e : Ending) (w' : World) : Prop :=
  ∃ (nn ee : Int) (A' : Option Addr) (c' : Nat) (ws : List Wy) (bc cc : Nat) (cs : List (Int × Int)), e = .returned (.tuple #[.agg #[.int .i64 nn, .slice A' ws.length c'], .int .i64 ee, .slice (some ⟨bc, 0, none⟩) cs.length cc]) ∧ RW w' w'.heap.size A' ws ∧ RC w' w'.heap.size (some ⟨bc, 0, none⟩) cs ∧
    ws.length ≤ 10 ∧ ws.length ≤ c' ∧ cs.length ≤ 10 ∧ cs.length ≤ cc ∧ 0 ≤ nn ∧ nn ≤ 7 ∧ 0 ≤ ee ∧ ee ≤ 4000 ∧ w.grownBy w' (some g)
theorem cuts_out {w w1 wc : World} {t tn tc : TypeId} {g : Nat} {A : Option Addr} {len cap : Nat} {m nn : Int} {u v : Value} {cs : List (Int × Int)} (h : CutSt w w1 wc t tn tc g A len cap m nn u v cs) {A' : Option Addr} {ws : List Wy} (hrw : RW w1 w1.heap.size A' ws) (hA : ∀ ad, A' = some ad → w.heap.size < ad.block) (x y : Value) :
    RW ((wc.setCell ⟨w.heap.size, 0, none⟩ x).setCell ⟨w.heap.size, 1, none⟩ y) ((wc.setCell ⟨w.heap.size, 0, none⟩ x).setCell ⟨w.heap.size, 1, none⟩ y).heap.size A' ws ∧ w.grownBy ((wc.setCell ⟨w.heap.size, 0, none⟩ x).setCell ⟨w.heap.size, 1, none⟩ y) (some g) := by
  refine ⟨?_, only_setCell (only_setCell h.gr (.inr (Nat.le_refl _)) _) (.inr (Nat.le_refl _)) _⟩
  intro i z hz
  obtain ⟨b, o, ha, hB, g0, g1, g2⟩ := h.ways hrw hA i z hz
  have hbb := hA _ ha
  simp at hbb
  have hk : ((wc.setCell ⟨w.heap.size, 0, none⟩ x).setCell ⟨w.heap.size, 1, none⟩ y).heap[b]? = wc.heap[b]? := (Below.heap_setCell _ _ _ _ (by simp; omega)).trans (Below.heap_setCell _ _ _ _ (by simp; omega))
  exact ⟨b, o, ha, by simpa [World.setCell] using hB, (World.cell?_of_block (w := wc) hk).trans g0, (World.cell?_of_block (w := wc) hk).trans g1, (World.cell?_of_block (w := wc) hk).trans g2⟩
theorem cuts_own {w wc : World} {base : Nat} {tc : TypeId} {A1 : Option Addr} {c1 : Nat} {cs : List (Int × Int)} (h : wc.ownsRow base tc 2 (.slice A1 cs.length c1) cs.length (ctCells cs)) (hb : w.heap.size < base) (x y : Value) :
    RC ((wc.setCell ⟨w.heap.size, 0, none⟩ x).setCell ⟨w.heap.size, 1, none⟩ y) ((wc.setCell ⟨w.heap.size, 0, none⟩ x).setCell ⟨w.heap.size, 1, none⟩ y).heap.size A1 cs := by
  have h1 := ownsRow_setCell_below h (a := ⟨w.heap.size, 0, none⟩) (by simpa using hb) x
  have h2 := ownsRow_setCell_below h1 (a := ⟨w.heap.size, 1, none⟩) (by simpa using hb) y
  exact (rowF_of_cuts h2).rc
theorem own_cap {w : World} {base n len c1 g : Nat} {e : TypeId} {xs : List Value} (h : w.ownsRow base e 2 (.slice (some ⟨g, 0, none⟩) n c1) len xs) : len ≤ c1 := by
  rcases h.2 with ⟨h8, _⟩ | ⟨g9, c9, cur, h8, _, _, h9, _⟩
  · cases h8
  · injection h8 with _ _ h8; omega
theorem cuts_row {w wc : World} {lo hi : Nat} {A1 : Option Addr} {cs : List (Int × Int)} (h : RowF wc lo hi A1 (cs.length * 2) (ctF cs)) (hb : w.heap.size < lo) (x y : Value) :
    RC ((wc.setCell ⟨w.heap.size, 0, none⟩ x).setCell ⟨w.heap.size, 1, none⟩ y) ((wc.setCell ⟨w.heap.size, 0, none⟩ x).setCell ⟨w.heap.size, 1, none⟩ y).heap.size A1 cs := by
  have ho : Only w.heap.size (w.heap.size + 1) wc ((wc.setCell ⟨w.heap.size, 0, none⟩ x).setCell ⟨w.heap.size, 1, none⟩ y) := ((Only.refl w.heap.size (w.heap.size + 1) wc).setCell (p := ⟨w.heap.size, 0, none⟩) ⟨Nat.le_refl _, Nat.lt_succ_self _⟩ x).setCell (p := ⟨w.heap.size, 1, none⟩) ⟨Nat.le_refl _, Nat.lt_succ_self _⟩ y
  exact (h.only ho (.inr (by omega))).rc
set_option maxRecDepth 100000 in
set_option maxHeartbeats 8000000 in
theorem l20Cuts_any (g : Nat) (A : Option Addr) (len cap : Nat) (w : World) (hr : RdrE w 86 g A len cap 0) :
    Calls Try.prog 49 #[.pointer (some ⟨g, 0, none⟩)] w (CutsPost w g) := by
  have hg := hr.lt
  have HR := Lib.hid hr
  clear hr
  have hbs := noCuts
  go_enter Try.func49, Try.ntmps49
  go_wp2_with fail
  refine (l20Ends_any g A len cap 0 14 _ (HR.out.below (by go_grown)) (by omega) (by omega) (by omega)).mono ?_
  rintro e w1 ⟨nn, ee, A', c', ws, rfl, hrw, hA', hl10, hcc, hn0, hn7, he0, he1, hr1, hg1⟩
  have hsz1 : w.heap.size < w1.heap.size := by have := hg1.size; simp at this; omega
  have hres : w1.heap[w.heap.size]? = some (.cells #[.int .i64 0, .slice none 0 0] 25 (0, 0)) := by
    rw [hg1.block _ (by simp) (by intro e; injection e; omega)]
    exact heap_alloc_new w _
  have HRES := Lib.hid hres
  have HAD : Hid (∀ ad, A' = some ad → w.heap.size < ad.block) := fun ad h => by have := hA' ad h; simp at this; omega
  have HRW := Lib.hid hrw
  have S0 := Lib.hid (CutSt.start (tn := 25) (tc := 38) hr1 (only_trans (only_alloc (World.grownBy.refl w (some g)) _) hg1) hg hsz1 nn (.slice A' ws.length c'))
  have hp2 := pow_bd nn 7 (by omega)
  have hpp : 1 ≤ (2 : Int) ^ nn.toNat := hp2.1
  have hpb : (2 : Int) ^ nn.toNat ≤ 1048576 := by omega
  have HPW : Hid (IntKind.i64.wrap (2 ^ nn.toNat) = 2 ^ nn.toNat) := IntWalk.i64_in _ ⟨by omega, by omega⟩
  have HPW2 : Hid (wrap64 (2 ^ nn.toNat) = 2 ^ nn.toNat) := IntWalk.wrap64_in _ ⟨by omega, by omega⟩
  have HMX : Hid (max nn 0 = nn) := by show _ = _; omega
  clear hg1 hr1 hres hrw hA' hp2
  go_wp2_with fail
  refine (pickE g A len cap (0 + 50) 3 _ S0.out.rdr (by decide) (by decide)).mono ?_; rintro e w2 ⟨q1, rfl, hq10, hq11, hr2, hg2, hs2⟩
  have S2 := Lib.hid (S0.out.keep hr2 hg2)
  clear hq11 hr2 hg2 hs2 S0
  by_cases hq : q1 = 0
  · have hq1 : (q1 == 0) = true := by simpa using hq
    obtain ⟨n20, n21⟩ := S2.out.cells
    have nz2 := S2.out.nlt
    cases hno : netOk nn ws
    · have HNO := Lib.hid hno
      clear hno
      go_wp2_with fail
      refine (sNetOk_any nn A' c' ws _ (S2.out.ways HRW.out HAD.out) (by omega)).mono ?_; rintro e w3 ⟨rfl, hb3⟩; rw [HNO.out]
      have S3 := Lib.hid (S2.out.below hb3)
      clear hb3 n20 n21 nz2 S2 hq hq1
      go_wp2_with fail
      obtain ⟨n0, n1⟩ := S3.out.cells
      have nz := S3.out.nlt
      refine (pickE g A len cap (0 + 50 + 1) 4 _ S3.out.rdr (by decide) (by decide)).mono ?_; rintro e wk ⟨k0, rfl, hk00, hk01, hrk, hgk, hsk⟩
      have hk02 := hk01 (by decide)
      have SK := Lib.hid ((S3.out.keep hrk hgk).more (m' := 60) (by omega))
      clear hk01 hrk hgk hsk n0 n1 nz
      obtain ⟨i0, hi0, hz0, hz1', hz2⟩ := info_parts infoCutC
      go_wp2_with fail
      go_loopw [7, 12] (fun v i wr => ∃ (cs : List (Int × Int)) (k : Int), i = .int .i64 k ∧ 0 ≤ k ∧ k ≤ 3 ∧ (cs.length : Int) + k ≤ 3 ∧ CutSt w w1 wr 86 25 38 g A len cap (100 - 10 * k) nn (.slice A' ws.length c') v cs ∧ (∃ g1 c1, v = .slice (some ⟨g1, 0, none⟩) cs.length c1)) (fun _ i _ => (intOf i).toNat)
      case atStart => exact ⟨[], k0, rfl, hk00, by omega, by simp; omega, SK.out.more (by omega), ⟨_, _, rfl⟩⟩
      case round =>
        clear SK hk00 hk02
        obtain ⟨cs, k, rfl, hk0, hk3, hcl, hst, ⟨g1, c1, rfl⟩⟩ := hrel
        obtain ⟨n0, n1⟩ := hst.cells
        have nz := hst.nlt
        have SR := Lib.hid hst
        clear hst
        by_cases hkp : 0 < k
        · have hmx := HMX.out
          have hpw := HPW.out
          have hpw2 := HPW2.out
          have wkk : IntKind.i64.wrap (k - 1) = k - 1 := IntWalk.i64_in _ ⟨by clear hmx hpw hpw2; omega, by clear hmx hpw hpw2; omega⟩
          have wkk2 : wrap64 (k - 1) = k - 1 := IntWalk.wrap64_in _ ⟨by clear hmx hpw hpw2 wkk; omega, by clear hmx hpw hpw2 wkk; omega⟩
          have HKK := Lib.hid wkk
          have HKK2 := Lib.hid wkk2
          clear wkk wkk2
          go_wp2_with fail
          refine (pickE g A len cap (100 - 10 * k) (2 ^ nn.toNat) _ SR.out.rdr (by clear hmx hpw hpw2; omega) hpb).mono ?_; rintro e wa ⟨p1, rfl, hp10, hp11, hra, hga, hsa⟩
          have hp12 := hp11 hpp
          have SA := Lib.hid (SR.out.keep hra hga)
          clear hp11 hra hga hsa SR n0 n1 nz hmx hpw hpw2
          go_wp2_with fail
          refine (pickE g A len cap (100 - 10 * k + 1) 4 _ SA.out.rdr (by omega) (by decide)).mono ?_; rintro e wb ⟨p2, rfl, hp20, hp21, hrb, hgb, hsb⟩
          have hp22 := hp21 (by decide)
          have SB := Lib.hid (SA.out.keep hrb hgb)
          clear hp21 hrb hgb hsb SA
          go_wp2_with fail
          refine (pickE g A len cap (100 - 10 * k + 1 + 1) 2 _ SB.out.rdr (by omega) (by decide)).mono ?_; rintro e wc ⟨p3, rfl, hp30, hp31, hrc, hgc, hsc⟩
          have hp32 := hp31 (by decide)
          have SC := Lib.hid (SB.out.keep hrc hgc)
          clear hp31 hrc hgc hsc SB
          obtain ⟨y, hy⟩ : ∃ y, p2 * p3 = y := ⟨_, rfl⟩
          have hyb : 0 ≤ y ∧ y ≤ 3 := by
            have h9 : p3 = 0 ∨ p3 = 1 := by omega
            rcases h9 with h9 | h9 <;> subst h9 <;> simp at hy <;> omega
          have wy : IntKind.i64.wrap (p2 * p3) = y := by rw [hy]; exact IntWalk.i64_in _ ⟨by omega, by omega⟩
          have wy2 : wrap64 (p2 * p3) = y := by rw [hy]; exact IntWalk.wrap64_in _ ⟨by omega, by omega⟩
          have nzc := SC.out.nlt
          clear hy
          go_wp2_with (at_builtin; refine wpList_append_lies _ rfl _ _ _ rfl (w1.heap.size + 1) 38 i0 _ 2 16 Try.underlying32 hi0 hz0 hz1' hz2 rfl (by clear wy wy2; omega) (.slice (some ⟨g1, 0, none⟩) cs.length c1) cs.length (ctCells cs) rfl (SC.out.own.alloc _) ⟨wc.heap.size, 0, none⟩ 1 1 [.int .i64 p1, .int .i64 y] rfl rfl (World.news_of_block (cs := #[.int .i64 p1, .int .i64 y]) (t := 38) (fr := (0, 0)) (heap_alloc_new wc _)) (by simp [Value.oneCell']) (by clear wy wy2; omega) (by clear wy wy2; unfold maxLen; omega) (by clear wy wy2; omega) (by clear wy wy2; simp; omega) (wc.heap.size + 1) (by simp) ?_; intro gg cc w5 hown5 hgrow5 hat5 hlt5)
          clear wy wy2
          have S5 := Lib.hid (SC.out.append (p1, y) hown5 hgrow5)
          clear hown5 hgrow5 hat5 hlt5 SC
          have wkk := HKK.out
          have wkk2 := HKK2.out
          go_wp2_with fail
          clear wkk wkk2
          go_roundw
          case rel => exact ⟨cs ++ [(p1, y)], k - 1, by go_num, by omega, by omega, by rw [List.length_append]; simp only [List.length_cons, List.length_nil]; omega, S5.out.more (by omega), ⟨gg, cc, by rw [List.length_append]; rfl⟩⟩
          case measure => (simp [intOf]) <;> omega
        · go_wp2_with fail
          refine (oddE g A len cap (100 - 10 * k) 30 _ SR.out.rdr (by omega) (by decide) (by decide)).mono ?_; rintro e wo ⟨od, rfl, hro, hgo, hso⟩
          have SO := Lib.hid (SR.out.keep hro hgo)
          clear hro hgo hso SR n0 n1 nz
          cases od
          · have hrs : wo.heap[w.heap.size]? = some (.cells #[.int .i64 0, .slice none 0 0] 25 (0, 0)) := (SO.out.low _ (Nat.le_refl _) hsz1).trans HRES.out
            have r0 : wo.cell? ⟨w.heap.size, 0, none⟩ = some (.int .i64 0) := cell_of_row _ _ 0 _ _ (0, 0) hrs
            have r1 : wo.cell? ⟨w.heap.size, 1, none⟩ = some (.slice none 0 0) := cell_of_row _ _ 1 _ _ (0, 0) hrs
            have f0 : wo.frozen? ⟨w.heap.size, 0, none⟩ = false := by simp [World.frozen?, hrs]
            have f1 : wo.frozen? ⟨w.heap.size, 1, none⟩ = false := by simp [World.frozen?, hrs]
            have T := Lib.hid (two_cells (v0 := .int .i64 nn) (v1 := .slice A' ws.length c') hrs)
            obtain ⟨n0, n1⟩ := SO.out.cells
            have nz := SO.out.nlt
            clear hrs
            go_wp2_with fail
            obtain ⟨t0, t1⟩ := T.out
            refine bodyPost_ret (v := .tuple #[.agg #[.int .i64 nn, .slice A' ws.length c'], .int .i64 ee, .slice (some ⟨g1, 0, none⟩) cs.length c1]) (by simp [results, Try.results49, go_sem, t0, t1]) rfl ?_
            have ho := cuts_out SO.out HRW.out HAD.out (.int .i64 nn) (.slice A' ws.length c')
            exact ⟨nn, ee, A', c', ws, g1, c1, cs, rfl, ho.1, cuts_own SO.out.own (by omega) _ _, hl10, hcc, by omega, own_cap SO.out.own, hn0, hn7, he0, by omega, ho.2⟩
          · have nzo := SO.out.nlt
            go_wp2_with (at_builtin; refine wpList_append_lies _ rfl _ _ _ rfl (w1.heap.size + 1) 38 i0 _ 2 16 Try.underlying32 hi0 hz0 hz1' hz2 rfl (by omega) (.slice (some ⟨g1, 0, none⟩) cs.length c1) cs.length (ctCells cs) rfl (SO.out.own.alloc _) ⟨wo.heap.size, 0, none⟩ 1 1 [.int .i64 1, .int .i64 (-1)] rfl rfl (World.news_of_block (cs := #[.int .i64 1, .int .i64 (-1)]) (t := 38) (fr := (0, 0)) (heap_alloc_new wo _)) (by simp [Value.oneCell']) (by omega) (by unfold maxLen; omega) (by omega) (by simp; omega) (wo.heap.size + 1) (by simp) ?_; intro gg cc w5 hown5 hgrow5 hat5 hlt5; have S5 := Lib.hid (SO.out.append (1, -1) hown5 hgrow5); have hrs : w5.heap[w.heap.size]? = some (.cells #[.int .i64 0, .slice none 0 0] 25 (0, 0)) := (S5.out.low _ (Nat.le_refl _) hsz1).trans HRES.out; have r0 : w5.cell? ⟨w.heap.size, 0, none⟩ = some (.int .i64 0) := cell_of_row _ _ 0 _ _ (0, 0) hrs; have r1 : w5.cell? ⟨w.heap.size, 1, none⟩ = some (.slice none 0 0) := cell_of_row _ _ 1 _ _ (0, 0) hrs; have f0 : w5.frozen? ⟨w.heap.size, 0, none⟩ = false := (by simp [World.frozen?, hrs]); have f1 : w5.frozen? ⟨w.heap.size, 1, none⟩ = false := (by simp [World.frozen?, hrs]); have T := Lib.hid (two_cells (v0 := .int .i64 nn) (v1 := .slice A' ws.length c') hrs); obtain ⟨n0, n1⟩ := S5.out.cells; have nz := S5.out.nlt; clear hrs hown5 hgrow5 hat5 hlt5)
            (try go_wp2_with fail)
            obtain ⟨t0, t1⟩ := T.out
            refine bodyPost_ret (v := .tuple #[.agg #[.int .i64 nn, .slice A' ws.length c'], .int .i64 ee, .slice (some ⟨gg, 0, none⟩) (cs.length + 1) cc]) (by simp [results, Try.results49, go_sem, t0, t1]) rfl ?_
            have ho := cuts_out S5.out HRW.out HAD.out (.int .i64 nn) (.slice A' ws.length c')
            refine ⟨nn, ee, A', c', ws, gg, cc, cs ++ [(1, -1)], by rw [List.length_append]; rfl, ho.1, cuts_own (c1 := cc) (by have h9 := S5.out.own; rw [List.length_append] at h9 ⊢; exact h9) (by omega) _ _, hl10, hcc, by rw [List.length_append]; simp only [List.length_cons, List.length_nil]; omega, own_cap S5.out.own, hn0, hn7, he0, by omega, ho.2⟩
    · have HNO := Lib.hid hno
      have hnn2 : 2 ≤ nn := (netOk_t hno).lo
      clear hno
      go_wp2_with fail
      refine (sNetOk_any nn A' c' ws _ (S2.out.ways HRW.out HAD.out) (by omega)).mono ?_; rintro e w3 ⟨rfl, hb3⟩; rw [HNO.out]
      have S3 := Lib.hid (S2.out.below hb3)
      clear hb3 n20 n21 nz2 S2 hq hq1
      obtain ⟨n30, n31⟩ := S3.out.cells
      have nz3 := S3.out.nlt
      go_wp2_with fail
      refine (pickE g A len cap (0 + 50 + 1) nn _ S3.out.rdr (by decide) (by omega)).mono ?_; rintro e w4 ⟨a, rfl, ha0, ha1, hr4, hg4, hs4⟩
      have S4 := Lib.hid (S3.out.keep hr4 hg4)
      have ha2 := ha1 (by omega)
      clear ha1 hr4 hg4 hs4 n30 n31 nz3 S3
      obtain ⟨n40, n41⟩ := S4.out.cells
      have nz4 := S4.out.nlt
      go_wp2_with fail
      refine (pickE g A len cap (0 + 50 + 1 + 1) nn _ S4.out.rdr (by decide) (by omega)).mono ?_; rintro e w5 ⟨b, rfl, hb0, hb1, hr5, hg5, hs5⟩
      have S5 := Lib.hid (S4.out.keep hr5 hg5)
      have hb2 := hb1 (by omega)
      clear hb1 hr5 hg5 hs5 n40 n41 nz4 S4
      obtain ⟨n50, n51⟩ := S5.out.cells
      have nz5 := S5.out.nlt
      go_wp2_with fail
      refine (sPathCuts_is nn a b A' c' ws _ (S5.out.ways HRW.out HAD.out) (by omega)).mono ?_
      intro e w6 hres6
      cases hpc : pathCuts nn ws a b with
      | none =>
        rw [hpc] at hres6
        obtain ⟨g6, c6, rfl, hb6⟩ := hres6
        have S6 := Lib.hid (S5.out.below hb6)
        clear hb6 hpc n50 n51 nz5 S5
        go_wp2_with fail
        obtain ⟨n0, n1⟩ := S6.out.cells
        have nz := S6.out.nlt
        refine (pickE g A len cap (0 + 50 + 1 + 1 + 1) 4 _ S6.out.rdr (by decide) (by decide)).mono ?_; rintro e wk ⟨k0, rfl, hk00, hk01, hrk, hgk, hsk⟩
        have hk02 := hk01 (by decide)
        have SK := Lib.hid ((S6.out.keep hrk hgk).more (m' := 60) (by omega))
        clear hk01 hrk hgk hsk n0 n1 nz
        obtain ⟨i0, hi0, hz0, hz1', hz2⟩ := info_parts infoCutC
        go_wp2_with fail
        go_loopw [7, 12] (fun v i wr => ∃ (cs : List (Int × Int)) (k : Int), i = .int .i64 k ∧ 0 ≤ k ∧ k ≤ 3 ∧ (cs.length : Int) + k ≤ 3 ∧ CutSt w w1 wr 86 25 38 g A len cap (100 - 10 * k) nn (.slice A' ws.length c') v cs ∧ (∃ g1 c1, v = .slice (some ⟨g1, 0, none⟩) cs.length c1)) (fun _ i _ => (intOf i).toNat)
        case atStart => exact ⟨[], k0, rfl, hk00, by omega, by simp; omega, SK.out.more (by omega), ⟨_, _, rfl⟩⟩
        case round =>
          clear SK hk00 hk02
          obtain ⟨cs, k, rfl, hk0, hk3, hcl, hst, ⟨g1, c1, rfl⟩⟩ := hrel
          obtain ⟨n0, n1⟩ := hst.cells
          have nz := hst.nlt
          have SR := Lib.hid hst
          clear hst
          by_cases hkp : 0 < k
          · have hmx := HMX.out
            have hpw := HPW.out
            have hpw2 := HPW2.out
            have wkk : IntKind.i64.wrap (k - 1) = k - 1 := IntWalk.i64_in _ ⟨by clear hmx hpw hpw2; omega, by clear hmx hpw hpw2; omega⟩
            have wkk2 : wrap64 (k - 1) = k - 1 := IntWalk.wrap64_in _ ⟨by clear hmx hpw hpw2 wkk; omega, by clear hmx hpw hpw2 wkk; omega⟩
            have HKK := Lib.hid wkk
            have HKK2 := Lib.hid wkk2
            clear wkk wkk2
            go_wp2_with fail
            refine (pickE g A len cap (100 - 10 * k) (2 ^ nn.toNat) _ SR.out.rdr (by clear hmx hpw hpw2; omega) hpb).mono ?_; rintro e wa ⟨p1, rfl, hp10, hp11, hra, hga, hsa⟩
            have hp12 := hp11 hpp
            have SA := Lib.hid (SR.out.keep hra hga)
            clear hp11 hra hga hsa SR n0 n1 nz hmx hpw hpw2
            go_wp2_with fail
            refine (pickE g A len cap (100 - 10 * k + 1) 4 _ SA.out.rdr (by omega) (by decide)).mono ?_; rintro e wb ⟨p2, rfl, hp20, hp21, hrb, hgb, hsb⟩
            have hp22 := hp21 (by decide)
            have SB := Lib.hid (SA.out.keep hrb hgb)
            clear hp21 hrb hgb hsb SA
            go_wp2_with fail
            refine (pickE g A len cap (100 - 10 * k + 1 + 1) 2 _ SB.out.rdr (by omega) (by decide)).mono ?_; rintro e wc ⟨p3, rfl, hp30, hp31, hrc, hgc, hsc⟩
            have hp32 := hp31 (by decide)
            have SC := Lib.hid (SB.out.keep hrc hgc)
            clear hp31 hrc hgc hsc SB
            obtain ⟨y, hy⟩ : ∃ y, p2 * p3 = y := ⟨_, rfl⟩
            have hyb : 0 ≤ y ∧ y ≤ 3 := by
              have h9 : p3 = 0 ∨ p3 = 1 := by omega
              rcases h9 with h9 | h9 <;> subst h9 <;> simp at hy <;> omega
            have wy : IntKind.i64.wrap (p2 * p3) = y := by rw [hy]; exact IntWalk.i64_in _ ⟨by omega, by omega⟩
            have wy2 : wrap64 (p2 * p3) = y := by rw [hy]; exact IntWalk.wrap64_in _ ⟨by omega, by omega⟩
            have nzc := SC.out.nlt
            clear hy
            go_wp2_with (at_builtin; refine wpList_append_lies _ rfl _ _ _ rfl (w1.heap.size + 1) 38 i0 _ 2 16 Try.underlying32 hi0 hz0 hz1' hz2 rfl (by clear wy wy2; omega) (.slice (some ⟨g1, 0, none⟩) cs.length c1) cs.length (ctCells cs) rfl (SC.out.own.alloc _) ⟨wc.heap.size, 0, none⟩ 1 1 [.int .i64 p1, .int .i64 y] rfl rfl (World.news_of_block (cs := #[.int .i64 p1, .int .i64 y]) (t := 38) (fr := (0, 0)) (heap_alloc_new wc _)) (by simp [Value.oneCell']) (by clear wy wy2; omega) (by clear wy wy2; unfold maxLen; omega) (by clear wy wy2; omega) (by clear wy wy2; simp; omega) (wc.heap.size + 1) (by simp) ?_; intro gg cc w5 hown5 hgrow5 hat5 hlt5)
            clear wy wy2
            have S5 := Lib.hid (SC.out.append (p1, y) hown5 hgrow5)
            clear hown5 hgrow5 hat5 hlt5 SC
            have wkk := HKK.out
            have wkk2 := HKK2.out
            go_wp2_with fail
            clear wkk wkk2
            go_roundw
            case rel => exact ⟨cs ++ [(p1, y)], k - 1, by go_num, by omega, by omega, by rw [List.length_append]; simp only [List.length_cons, List.length_nil]; omega, S5.out.more (by omega), ⟨gg, cc, by rw [List.length_append]; rfl⟩⟩
            case measure => (simp [intOf]) <;> omega
          · go_wp2_with fail
            refine (oddE g A len cap (100 - 10 * k) 30 _ SR.out.rdr (by omega) (by decide) (by decide)).mono ?_; rintro e wo ⟨od, rfl, hro, hgo, hso⟩
            have SO := Lib.hid (SR.out.keep hro hgo)
            clear hro hgo hso SR n0 n1 nz
            cases od
            · have hrs : wo.heap[w.heap.size]? = some (.cells #[.int .i64 0, .slice none 0 0] 25 (0, 0)) := (SO.out.low _ (Nat.le_refl _) hsz1).trans HRES.out
              have r0 : wo.cell? ⟨w.heap.size, 0, none⟩ = some (.int .i64 0) := cell_of_row _ _ 0 _ _ (0, 0) hrs
              have r1 : wo.cell? ⟨w.heap.size, 1, none⟩ = some (.slice none 0 0) := cell_of_row _ _ 1 _ _ (0, 0) hrs
              have f0 : wo.frozen? ⟨w.heap.size, 0, none⟩ = false := by simp [World.frozen?, hrs]
              have f1 : wo.frozen? ⟨w.heap.size, 1, none⟩ = false := by simp [World.frozen?, hrs]
              have T := Lib.hid (two_cells (v0 := .int .i64 nn) (v1 := .slice A' ws.length c') hrs)
              obtain ⟨n0, n1⟩ := SO.out.cells
              have nz := SO.out.nlt
              clear hrs
              go_wp2_with fail
              obtain ⟨t0, t1⟩ := T.out
              refine bodyPost_ret (v := .tuple #[.agg #[.int .i64 nn, .slice A' ws.length c'], .int .i64 ee, .slice (some ⟨g1, 0, none⟩) cs.length c1]) (by simp [results, Try.results49, go_sem, t0, t1]) rfl ?_
              have ho := cuts_out SO.out HRW.out HAD.out (.int .i64 nn) (.slice A' ws.length c')
              exact ⟨nn, ee, A', c', ws, g1, c1, cs, rfl, ho.1, cuts_own SO.out.own (by omega) _ _, hl10, hcc, by omega, own_cap SO.out.own, hn0, hn7, he0, by omega, ho.2⟩
            · have nzo := SO.out.nlt
              go_wp2_with (at_builtin; refine wpList_append_lies _ rfl _ _ _ rfl (w1.heap.size + 1) 38 i0 _ 2 16 Try.underlying32 hi0 hz0 hz1' hz2 rfl (by omega) (.slice (some ⟨g1, 0, none⟩) cs.length c1) cs.length (ctCells cs) rfl (SO.out.own.alloc _) ⟨wo.heap.size, 0, none⟩ 1 1 [.int .i64 1, .int .i64 (-1)] rfl rfl (World.news_of_block (cs := #[.int .i64 1, .int .i64 (-1)]) (t := 38) (fr := (0, 0)) (heap_alloc_new wo _)) (by simp [Value.oneCell']) (by omega) (by unfold maxLen; omega) (by omega) (by simp; omega) (wo.heap.size + 1) (by simp) ?_; intro gg cc w5 hown5 hgrow5 hat5 hlt5; have S5 := Lib.hid (SO.out.append (1, -1) hown5 hgrow5); have hrs : w5.heap[w.heap.size]? = some (.cells #[.int .i64 0, .slice none 0 0] 25 (0, 0)) := (S5.out.low _ (Nat.le_refl _) hsz1).trans HRES.out; have r0 : w5.cell? ⟨w.heap.size, 0, none⟩ = some (.int .i64 0) := cell_of_row _ _ 0 _ _ (0, 0) hrs; have r1 : w5.cell? ⟨w.heap.size, 1, none⟩ = some (.slice none 0 0) := cell_of_row _ _ 1 _ _ (0, 0) hrs; have f0 : w5.frozen? ⟨w.heap.size, 0, none⟩ = false := (by simp [World.frozen?, hrs]); have f1 : w5.frozen? ⟨w.heap.size, 1, none⟩ = false := (by simp [World.frozen?, hrs]); have T := Lib.hid (two_cells (v0 := .int .i64 nn) (v1 := .slice A' ws.length c') hrs); obtain ⟨n0, n1⟩ := S5.out.cells; have nz := S5.out.nlt; clear hrs hown5 hgrow5 hat5 hlt5)
              (try go_wp2_with fail)
              obtain ⟨t0, t1⟩ := T.out
              refine bodyPost_ret (v := .tuple #[.agg #[.int .i64 nn, .slice A' ws.length c'], .int .i64 ee, .slice (some ⟨gg, 0, none⟩) (cs.length + 1) cc]) (by simp [results, Try.results49, go_sem, t0, t1]) rfl ?_
              have ho := cuts_out S5.out HRW.out HAD.out (.int .i64 nn) (.slice A' ws.length c')
              refine ⟨nn, ee, A', c', ws, gg, cc, cs ++ [(1, -1)], by rw [List.length_append]; rfl, ho.1, cuts_own (c1 := cc) (by have h9 := S5.out.own; rw [List.length_append] at h9 ⊢; exact h9) (by omega) _ _, hl10, hcc, by rw [List.length_append]; simp only [List.length_cons, List.length_nil]; omega, own_cap S5.out.own, hn0, hn7, he0, by omega, ho.2⟩
      | some L =>
        rw [hpc] at hres6
        obtain ⟨g6, c6, lo, hi, rfl, hrow, hlo, hb6, hcp6⟩ := hres6
        have S6 := Lib.hid (S5.out.below hb6)
        have HROW := Lib.hid hrow
        have hlo6 : w.heap.size < lo := by omega
        have hL8 : L.length ≤ 10 := by
          obtain ⟨m', ia, ib, e1, e2, e3, e4, e5, e6, e7, e8, e9, e10⟩ := pathCuts_told hpc
          have hni := netOk_t e4
          subst e1
          have := (cuts_are hni e6 e7 e8 e9).1
          rw [e10]
          have := hni.hi
          omega
        have hpa := pow_bd a 6 (by omega)
        have hpb6 := pow_bd b 6 (by omega)
        have e2048 : ((2 : Int) ^ 11) = 2048 := by decide
        have h1 := ior_bd ee (2 ^ a.toNat) 11 (by omega) (by omega)
        have h2 := ior_bd (ior ee (2 ^ a.toNat)) (2 ^ b.toNat) 11 (by omega) (by omega)
        have hor1 : bits .or .i64 ee (2 ^ a.toNat) = ior ee (2 ^ a.toNat) := bits_or _ _ (by omega) (by omega) (by omega) (by omega)
        have hor2 : bits .or .i64 (ior ee (2 ^ a.toNat)) (2 ^ b.toNat) = ior (ior ee (2 ^ a.toNat)) (2 ^ b.toNat) := bits_or _ _ (by omega) (by omega) (by omega) (by omega)
        have hwa : IntKind.i64.wrap (2 ^ a.toNat) = 2 ^ a.toNat := IntWalk.i64_in _ ⟨by clear hor1 hor2; omega, by clear hor1 hor2; omega⟩
        have hwa2 : wrap64 (2 ^ a.toNat) = 2 ^ a.toNat := IntWalk.wrap64_in _ ⟨by clear hor1 hor2 hwa; omega, by clear hor1 hor2 hwa; omega⟩
        have hwb : IntKind.i64.wrap (2 ^ b.toNat) = 2 ^ b.toNat := IntWalk.i64_in _ ⟨by clear hor1 hor2 hwa hwa2; omega, by clear hor1 hor2 hwa hwa2; omega⟩
        have hwb2 : wrap64 (2 ^ b.toNat) = 2 ^ b.toNat := IntWalk.wrap64_in _ ⟨by clear hor1 hor2 hwa hwa2 hwb; omega, by clear hor1 hor2 hwa hwa2 hwb; omega⟩
        obtain ⟨E, hE⟩ : ∃ E, ior (ior ee (2 ^ a.toNat)) (2 ^ b.toNat) = E := ⟨_, rfl⟩
        rw [hE] at hor2 h2
        have hE0 := h2.1
        have hE1 : E ≤ 4000 := by clear hor1 hor2 hwa hwa2 hwb hwb2; omega
        have ha60 : a ≤ 60 := by clear hor1 hor2 hwa hwa2 hwb hwb2; omega
        have hb60 : b ≤ 60 := by clear hor1 hor2 hwa hwa2 hwb hwb2; omega
        obtain ⟨n60, n61⟩ := S6.out.cells
        have nz6 := S6.out.nlt
        have hne6 : w1.heap.size ≠ w.heap.size := by clear hor1 hor2 hwa hwa2 hwb hwb2; omega
        have hrs : w6.heap[w.heap.size]? = some (.cells #[.int .i64 0, .slice none 0 0] 25 (0, 0)) := (S6.out.low _ (Nat.le_refl _) hsz1).trans HRES.out
        have r60 : w6.cell? ⟨w.heap.size, 0, none⟩ = some (.int .i64 0) := cell_of_row _ _ 0 _ _ (0, 0) hrs
        have r61 : w6.cell? ⟨w.heap.size, 1, none⟩ = some (.slice none 0 0) := cell_of_row _ _ 1 _ _ (0, 0) hrs
        have f60 : w6.frozen? ⟨w.heap.size, 0, none⟩ = false := by simp [World.frozen?, hrs]
        have f61 : w6.frozen? ⟨w.heap.size, 1, none⟩ = false := by simp [World.frozen?, hrs]
        have T := Lib.hid (two_cells (v0 := .int .i64 nn) (v1 := .slice A' ws.length c') hrs)
        have hk6 := set_d (.int .i64 nn) (.slice A' ws.length c') (w3 := w6) ⟨n60, n61⟩ hne6
        clear hb6 hpc n50 n51 nz5 S5 hrow hlo hrs hpa hpb6 h1 h2 hE
        go_wp2_with fail
        refine wp_region_held_drew (S := (fun w' => w'.cell? ⟨w1.heap.size, 0, none⟩ = some (.int .i64 nn) ∧ w'.cell? ⟨w1.heap.size, 1, none⟩ = some (.slice A' ws.length c'))) (by kernel_rfl) ?_ (fun hHeld => ?_)
        · exact ⟨n60, n61⟩
        refine wpAnyH_take (i := 0) (v := ?_) rfl (by kernel_rfl) (by kernel_rfl) (by kernel_rfl) (fun _ _ _ h => h) (Or.inl ⟨by rfl, ?_⟩) (by assumption) ?_
        rotate_left
        · (intro w hSw; (try dsimp only at hSw); (try simp only [List.getElem_toArray, List.getElem_cons_succ, List.getElem_cons_zero]); first | (go_simp; done) | (go_simp; with_reducible rfl))
        try simp only [Act.put, List.getElem_toArray, List.getElem_cons_succ, List.getElem_cons_zero, List.setIfInBounds_toArray, List.set_cons_zero, List.set_cons_succ]
        refine wpAnyH_take (i := 1) (v := ?_) rfl (by kernel_rfl) (by kernel_rfl) (by kernel_rfl) (fun _ _ _ h => h) (Or.inl ⟨by rfl, ?_⟩) (by assumption) ?_
        rotate_left
        · (intro w hSw; (try dsimp only at hSw); (try simp only [List.getElem_toArray, List.getElem_cons_succ, List.getElem_cons_zero]); first | (go_simp; done) | (go_simp; with_reducible rfl))
        try simp only [Act.put, List.getElem_toArray, List.getElem_cons_succ, List.getElem_cons_zero, List.setIfInBounds_toArray, List.set_cons_zero, List.set_cons_succ]
        refine wpAnyH_take (i := 2) (v := ?_) rfl (by kernel_rfl) (by kernel_rfl) (by kernel_rfl) (fun _ _ _ h => h) (Or.inl ⟨by rfl, ?_⟩) (by assumption) ?_
        rotate_left
        · (intro w hSw; (try dsimp only at hSw); (try simp only [List.getElem_toArray, List.getElem_cons_succ, List.getElem_cons_zero]); first | (go_simp; done) | (go_simp; with_reducible rfl))
        try simp only [Act.put, List.getElem_toArray, List.getElem_cons_succ, List.getElem_cons_zero, List.setIfInBounds_toArray, List.set_cons_zero, List.set_cons_succ]
        refine wpAnyH_take (i := 3) (v := ?_) rfl (by kernel_rfl) (by kernel_rfl) (by kernel_rfl) (fun _ _ _ h => h) (Or.inl ⟨by rfl, ?_⟩) (by assumption) ?_
        rotate_left
        · (intro w hSw; (try dsimp only at hSw); (try simp only [List.getElem_toArray, List.getElem_cons_succ, List.getElem_cons_zero]); first | (go_simp; done) | (go_simp; with_reducible rfl))
        try simp only [Act.put, List.getElem_toArray, List.getElem_cons_succ, List.getElem_cons_zero, List.setIfInBounds_toArray, List.set_cons_zero, List.set_cons_succ]
        refine wpAnyH_take (i := 4) (v := ?_) rfl (by kernel_rfl) (by kernel_rfl) (by kernel_rfl) (fun _ _ _ h => h) (Or.inl ⟨by rfl, ?_⟩) (by assumption) ?_
        rotate_left
        · (intro w hSw; (try dsimp only at hSw); (try simp only [List.getElem_toArray, List.getElem_cons_succ, List.getElem_cons_zero]); first | (go_simp; done) | (go_simp; with_reducible rfl))
        try simp only [Act.put, List.getElem_toArray, List.getElem_cons_succ, List.getElem_cons_zero, List.setIfInBounds_toArray, List.set_cons_zero, List.set_cons_succ]
        refine wpAnyH_take (i := 5) (v := ?_) rfl (by kernel_rfl) (by kernel_rfl) (by kernel_rfl) (fun _ _ _ h => h) (Or.inl ⟨by rfl, ?_⟩) (by assumption) ?_
        rotate_left
        · (intro w hSw; (try dsimp only at hSw); (try simp only [List.getElem_toArray, List.getElem_cons_succ, List.getElem_cons_zero]); first | (go_simp; done) | (go_simp; with_reducible rfl))
        try simp only [Act.put, List.getElem_toArray, List.getElem_cons_succ, List.getElem_cons_zero, List.setIfInBounds_toArray, List.set_cons_zero, List.set_cons_succ]
        refine wpAnyH_take (i := 6) (v := ?_) rfl (by kernel_rfl) (by kernel_rfl) (by kernel_rfl) (fun _ _ _ h => h) (Or.inl ⟨by rfl, ?_⟩) (by assumption) ?_
        rotate_left
        · (intro w hSw; (try dsimp only at hSw); (try simp only [List.getElem_toArray, List.getElem_cons_succ, List.getElem_cons_zero]); first | (go_simp; done) | (go_simp; with_reducible rfl))
        try simp only [Act.put, List.getElem_toArray, List.getElem_cons_succ, List.getElem_cons_zero, List.setIfInBounds_toArray, List.set_cons_zero, List.set_cons_succ]
        refine wpAnyH_take (i := 7) (v := ?_) rfl (by kernel_rfl) (by kernel_rfl) (by kernel_rfl) (fun _ _ _ h => h) (Or.inl ⟨by rfl, ?_⟩) (by assumption) ?_
        rotate_left
        · (intro w hSw; (try dsimp only at hSw); (try simp only [List.getElem_toArray, List.getElem_cons_succ, List.getElem_cons_zero]); first | (go_simp; done) | (go_simp; with_reducible rfl))
        try simp only [Act.put, List.getElem_toArray, List.getElem_cons_succ, List.getElem_cons_zero, List.setIfInBounds_toArray, List.set_cons_zero, List.set_cons_succ]
        refine wpAnyH_take (i := 8) (v := ?_) rfl (by kernel_rfl) (by kernel_rfl) (by kernel_rfl) (fun _ _ _ h => h) (Or.inl ⟨by rfl, ?_⟩) (by assumption) ?_
        rotate_left
        · (intro w hSw; (try dsimp only at hSw); (try simp only [List.getElem_toArray, List.getElem_cons_succ, List.getElem_cons_zero]); first | (go_simp; done) | (go_simp; with_reducible rfl))
        try simp only [Act.put, List.getElem_toArray, List.getElem_cons_succ, List.getElem_cons_zero, List.setIfInBounds_toArray, List.set_cons_zero, List.set_cons_succ]
        refine wpAnyH_ready (rs := [9]) (by kernel_rfl) (by simp) ?_
        refine AllReadyH.cons rfl (fun K hK => ?_) AllReadyH.nil
        try simp only [List.getElem_toArray, List.getElem_cons_succ, List.getElem_cons_zero]
        go_simp
        
        refine hK.out _ _ ?_ (fun hHeld => ?_)
        · exact hk6
        clear hK K
        try simp only [Act.put, List.getElem_toArray, List.getElem_cons_succ, List.getElem_cons_zero, List.setIfInBounds_toArray, List.set_cons_zero, List.set_cons_succ]
        refine wpAnyH_take (i := 10) (v := ?_) rfl (by kernel_rfl) (by kernel_rfl) (by kernel_rfl) (fun _ _ _ h => h) (Or.inl ⟨by rfl, ?_⟩) (by assumption) ?_
        rotate_left
        · (intro w hSw; (try dsimp only at hSw); (try simp only [List.getElem_toArray, List.getElem_cons_succ, List.getElem_cons_zero]); first | (go_simp; done) | (go_simp; with_reducible rfl))
        try simp only [Act.put, List.getElem_toArray, List.getElem_cons_succ, List.getElem_cons_zero, List.setIfInBounds_toArray, List.set_cons_zero, List.set_cons_succ]
        refine wpAnyH_take (i := 11) (v := ?_) rfl (by kernel_rfl) (by kernel_rfl) (by kernel_rfl) (fun _ _ _ h => h) (Or.inl ⟨by rfl, ?_⟩) (by assumption) ?_
        rotate_left
        · (intro w hSw; (try dsimp only at hSw); (try simp only [List.getElem_toArray, List.getElem_cons_succ, List.getElem_cons_zero]); first | (go_simp; done) | (go_simp; with_reducible rfl))
        try simp only [Act.put, List.getElem_toArray, List.getElem_cons_succ, List.getElem_cons_zero, List.setIfInBounds_toArray, List.set_cons_zero, List.set_cons_succ]
        refine wpAnyH_done (by kernel_rfl) ?_ _
        clear hor1 hor2 hwa hwa2 hwb hwb2 hk6
        go_wp2_with fail
        obtain ⟨t0, t1⟩ := T.out
        refine bodyPost_ret (v := .tuple #[.agg #[.int .i64 nn, .slice A' ws.length c'], .int .i64 E, .slice (some ⟨g6, 0, none⟩) L.length c6]) (by simp [results, Try.results49, go_sem, t0, t1]) rfl ?_
        have ho := cuts_out S6.out HRW.out HAD.out (.int .i64 nn) (.slice A' ws.length c')
        exact ⟨nn, E, A', c', ws, g6, c6, L, rfl, ho.1, cuts_row HROW.out hlo6 _ _, hl10, hcc, hL8, hcp6, hn0, hn7, hE0, hE1, ⟨ho.2.os, ho.2.tape, ho.2.output, ho.2.size, ho.2.block⟩⟩
  · have hq1 : (q1 == 0) = false := by simpa using hq
    go_wp2_with fail
    obtain ⟨n0, n1⟩ := S2.out.cells
    have nz := S2.out.nlt
    refine (pickE g A len cap (0 + 50 + 1) 4 _ S2.out.rdr (by decide) (by decide)).mono ?_; rintro e wk ⟨k0, rfl, hk00, hk01, hrk, hgk, hsk⟩
    have hk02 := hk01 (by decide)
    have SK := Lib.hid ((S2.out.keep hrk hgk).more (m' := 60) (by omega))
    clear hk01 hrk hgk hsk n0 n1 nz
    obtain ⟨i0, hi0, hz0, hz1', hz2⟩ := info_parts infoCutC
    go_wp2_with fail
    go_loopw [7, 12] (fun v i wr => ∃ (cs : List (Int × Int)) (k : Int), i = .int .i64 k ∧ 0 ≤ k ∧ k ≤ 3 ∧ (cs.length : Int) + k ≤ 3 ∧ CutSt w w1 wr 86 25 38 g A len cap (100 - 10 * k) nn (.slice A' ws.length c') v cs ∧ (∃ g1 c1, v = .slice (some ⟨g1, 0, none⟩) cs.length c1)) (fun _ i _ => (intOf i).toNat)
    case atStart => exact ⟨[], k0, rfl, hk00, by omega, by simp; omega, SK.out.more (by omega), ⟨_, _, rfl⟩⟩
    case round =>
      clear SK hk00 hk02
      obtain ⟨cs, k, rfl, hk0, hk3, hcl, hst, ⟨g1, c1, rfl⟩⟩ := hrel
      obtain ⟨n0, n1⟩ := hst.cells
      have nz := hst.nlt
      have SR := Lib.hid hst
      clear hst
      by_cases hkp : 0 < k
      · have hmx := HMX.out
        have hpw := HPW.out
        have hpw2 := HPW2.out
        have wkk : IntKind.i64.wrap (k - 1) = k - 1 := IntWalk.i64_in _ ⟨by clear hmx hpw hpw2; omega, by clear hmx hpw hpw2; omega⟩
        have wkk2 : wrap64 (k - 1) = k - 1 := IntWalk.wrap64_in _ ⟨by clear hmx hpw hpw2 wkk; omega, by clear hmx hpw hpw2 wkk; omega⟩
        have HKK := Lib.hid wkk
        have HKK2 := Lib.hid wkk2
        clear wkk wkk2
        go_wp2_with fail
        refine (pickE g A len cap (100 - 10 * k) (2 ^ nn.toNat) _ SR.out.rdr (by clear hmx hpw hpw2; omega) hpb).mono ?_; rintro e wa ⟨p1, rfl, hp10, hp11, hra, hga, hsa⟩
        have hp12 := hp11 hpp
        have SA := Lib.hid (SR.out.keep hra hga)
        clear hp11 hra hga hsa SR n0 n1 nz hmx hpw hpw2
        go_wp2_with fail
        refine (pickE g A len cap (100 - 10 * k + 1) 4 _ SA.out.rdr (by omega) (by decide)).mono ?_; rintro e wb ⟨p2, rfl, hp20, hp21, hrb, hgb, hsb⟩
        have hp22 := hp21 (by decide)
        have SB := Lib.hid (SA.out.keep hrb hgb)
        clear hp21 hrb hgb hsb SA
        go_wp2_with fail
        refine (pickE g A len cap (100 - 10 * k + 1 + 1) 2 _ SB.out.rdr (by omega) (by decide)).mono ?_; rintro e wc ⟨p3, rfl, hp30, hp31, hrc, hgc, hsc⟩
        have hp32 := hp31 (by decide)
        have SC := Lib.hid (SB.out.keep hrc hgc)
        clear hp31 hrc hgc hsc SB
        obtain ⟨y, hy⟩ : ∃ y, p2 * p3 = y := ⟨_, rfl⟩
        have hyb : 0 ≤ y ∧ y ≤ 3 := by
          have h9 : p3 = 0 ∨ p3 = 1 := by omega
          rcases h9 with h9 | h9 <;> subst h9 <;> simp at hy <;> omega
        have wy : IntKind.i64.wrap (p2 * p3) = y := by rw [hy]; exact IntWalk.i64_in _ ⟨by omega, by omega⟩
        have wy2 : wrap64 (p2 * p3) = y := by rw [hy]; exact IntWalk.wrap64_in _ ⟨by omega, by omega⟩
        have nzc := SC.out.nlt
        clear hy
        go_wp2_with (at_builtin; refine wpList_append_lies _ rfl _ _ _ rfl (w1.heap.size + 1) 38 i0 _ 2 16 Try.underlying32 hi0 hz0 hz1' hz2 rfl (by clear wy wy2; omega) (.slice (some ⟨g1, 0, none⟩) cs.length c1) cs.length (ctCells cs) rfl (SC.out.own.alloc _) ⟨wc.heap.size, 0, none⟩ 1 1 [.int .i64 p1, .int .i64 y] rfl rfl (World.news_of_block (cs := #[.int .i64 p1, .int .i64 y]) (t := 38) (fr := (0, 0)) (heap_alloc_new wc _)) (by simp [Value.oneCell']) (by clear wy wy2; omega) (by clear wy wy2; unfold maxLen; omega) (by clear wy wy2; omega) (by clear wy wy2; simp; omega) (wc.heap.size + 1) (by simp) ?_; intro gg cc w5 hown5 hgrow5 hat5 hlt5)
        clear wy wy2
        have S5 := Lib.hid (SC.out.append (p1, y) hown5 hgrow5)
        clear hown5 hgrow5 hat5 hlt5 SC
        have wkk := HKK.out
        have wkk2 := HKK2.out
        go_wp2_with fail
        clear wkk wkk2
        go_roundw
        case rel => exact ⟨cs ++ [(p1, y)], k - 1, by go_num, by omega, by omega, by rw [List.length_append]; simp only [List.length_cons, List.length_nil]; omega, S5.out.more (by omega), ⟨gg, cc, by rw [List.length_append]; rfl⟩⟩
        case measure => (simp [intOf]) <;> omega
      · go_wp2_with fail
        refine (oddE g A len cap (100 - 10 * k) 30 _ SR.out.rdr (by omega) (by decide) (by decide)).mono ?_; rintro e wo ⟨od, rfl, hro, hgo, hso⟩
        have SO := Lib.hid (SR.out.keep hro hgo)
        clear hro hgo hso SR n0 n1 nz
        cases od
        · have hrs : wo.heap[w.heap.size]? = some (.cells #[.int .i64 0, .slice none 0 0] 25 (0, 0)) := (SO.out.low _ (Nat.le_refl _) hsz1).trans HRES.out
          have r0 : wo.cell? ⟨w.heap.size, 0, none⟩ = some (.int .i64 0) := cell_of_row _ _ 0 _ _ (0, 0) hrs
          have r1 : wo.cell? ⟨w.heap.size, 1, none⟩ = some (.slice none 0 0) := cell_of_row _ _ 1 _ _ (0, 0) hrs
          have f0 : wo.frozen? ⟨w.heap.size, 0, none⟩ = false := by simp [World.frozen?, hrs]
          have f1 : wo.frozen? ⟨w.heap.size, 1, none⟩ = false := by simp [World.frozen?, hrs]
          have T := Lib.hid (two_cells (v0 := .int .i64 nn) (v1 := .slice A' ws.length c') hrs)
          obtain ⟨n0, n1⟩ := SO.out.cells
          have nz := SO.out.nlt
          clear hrs
          go_wp2_with fail
          obtain ⟨t0, t1⟩ := T.out
          refine bodyPost_ret (v := .tuple #[.agg #[.int .i64 nn, .slice A' ws.length c'], .int .i64 ee, .slice (some ⟨g1, 0, none⟩) cs.length c1]) (by simp [results, Try.results49, go_sem, t0, t1]) rfl ?_
          have ho := cuts_out SO.out HRW.out HAD.out (.int .i64 nn) (.slice A' ws.length c')
          exact ⟨nn, ee, A', c', ws, g1, c1, cs, rfl, ho.1, cuts_own SO.out.own (by omega) _ _, hl10, hcc, by omega, own_cap SO.out.own, hn0, hn7, he0, by omega, ho.2⟩
        · have nzo := SO.out.nlt
          go_wp2_with (at_builtin; refine wpList_append_lies _ rfl _ _ _ rfl (w1.heap.size + 1) 38 i0 _ 2 16 Try.underlying32 hi0 hz0 hz1' hz2 rfl (by omega) (.slice (some ⟨g1, 0, none⟩) cs.length c1) cs.length (ctCells cs) rfl (SO.out.own.alloc _) ⟨wo.heap.size, 0, none⟩ 1 1 [.int .i64 1, .int .i64 (-1)] rfl rfl (World.news_of_block (cs := #[.int .i64 1, .int .i64 (-1)]) (t := 38) (fr := (0, 0)) (heap_alloc_new wo _)) (by simp [Value.oneCell']) (by omega) (by unfold maxLen; omega) (by omega) (by simp; omega) (wo.heap.size + 1) (by simp) ?_; intro gg cc w5 hown5 hgrow5 hat5 hlt5; have S5 := Lib.hid (SO.out.append (1, -1) hown5 hgrow5); have hrs : w5.heap[w.heap.size]? = some (.cells #[.int .i64 0, .slice none 0 0] 25 (0, 0)) := (S5.out.low _ (Nat.le_refl _) hsz1).trans HRES.out; have r0 : w5.cell? ⟨w.heap.size, 0, none⟩ = some (.int .i64 0) := cell_of_row _ _ 0 _ _ (0, 0) hrs; have r1 : w5.cell? ⟨w.heap.size, 1, none⟩ = some (.slice none 0 0) := cell_of_row _ _ 1 _ _ (0, 0) hrs; have f0 : w5.frozen? ⟨w.heap.size, 0, none⟩ = false := (by simp [World.frozen?, hrs]); have f1 : w5.frozen? ⟨w.heap.size, 1, none⟩ = false := (by simp [World.frozen?, hrs]); have T := Lib.hid (two_cells (v0 := .int .i64 nn) (v1 := .slice A' ws.length c') hrs); obtain ⟨n0, n1⟩ := S5.out.cells; have nz := S5.out.nlt; clear hrs hown5 hgrow5 hat5 hlt5)
          (try go_wp2_with fail)
          obtain ⟨t0, t1⟩ := T.out
          refine bodyPost_ret (v := .tuple #[.agg #[.int .i64 nn, .slice A' ws.length c'], .int .i64 ee, .slice (some ⟨gg, 0, none⟩) (cs.length + 1) cc]) (by simp [results, Try.results49, go_sem, t0, t1]) rfl ?_
          have ho := cuts_out S5.out HRW.out HAD.out (.int .i64 nn) (.slice A' ws.length c')
          refine ⟨nn, ee, A', c', ws, gg, cc, cs ++ [(1, -1)], by rw [List.length_append]; rfl, ho.1, cuts_own (c1 := cc) (by have h9 := S5.out.own; rw [List.length_append] at h9 ⊢; exact h9) (by omega) _ _, hl10, hcc, by rw [List.length_append]; simp only [List.length_cons, List.length_nil]; omega, own_cap S5.out.own, hn0, hn7, he0, by omega, ho.2⟩
/-- some net, some ends, some cuts -/
def DrawnCuts (w : World) (e : Ending) (w' : World) : Prop :=
  ∃ (nn ee : Int) (A' : Option Addr) (c' : Nat) (ws : List Wy) (bc cc : Nat) (cs : List (Int × Int)), e = .returned (.tuple #[.agg #[.int .i64 nn, .slice A' ws.length c'], .int .i64 ee, .slice (some ⟨bc, 0, none⟩) cs.length cc]) ∧ RW w' w'.heap.size A' ws ∧ RC w' w'.heap.size (some ⟨bc, 0, none⟩) cs ∧
    ws.length ≤ 10 ∧ ws.length ≤ c' ∧ cs.length ≤ 10 ∧ cs.length ≤ cc ∧ 0 ≤ nn ∧ nn ≤ 7 ∧ 0 ≤ ee ∧ ee ≤ 4000 ∧ Below w.heap.size w w'
set_option maxHeartbeats 1000000 in
theorem DrawPacksOk_any (A : Option Addr) (len cap : Nat) (w : World) (hr : RB w w.heap.size A len) (hc : len ≤ cap) (hl : len ≤ 1048576) :
    Calls Try.prog 17 #[.slice A len cap] w (DrawnCuts w) := by
  have HR := Lib.hid hr
  clear hr
  go_enter Try.func17, Try.ntmps17
  go_wp2_with fail
  refine (openE A len cap _ (fun i hi => ?_) hc hl).mono ?_
  · obtain ⟨b, o, v, ha, hB, h0, h1, h2⟩ := HR.out i hi
    exact ⟨b, o, v, ha, by simp; omega, h0, h1, (World.cell?_alloc_lt w _ _ hB).trans h2⟩
  rintro e w1 ⟨l1, rfl, hr1, hb1⟩
  simp only [World.size_alloc] at hr1
  have hz1 : w.heap.size < w1.heap.size := by have hq := hb1.size; simp at hq; omega
  have HB1 := Lib.hid (bstep (B := w.heap.size) (W := w) (by go_grown) (by go_size) hb1)
  have HBL := Lib.hid (hb1.block w.heap.size (by simp))
  clear hb1
  go_wp2_with fail
  refine (l20Cuts_any _ A l1 cap _ hr1).mono ?_
  rintro e w2 ⟨nn, ee, A', c', ws, bc, cc, cs, rfl, hrw, hrc, hl10, hcc, hcl, hcp, hn0, hn7, he0, he1, hg2⟩
  have hres : w2.heap[w.heap.size]? = some (.cells #[.int .i64 0, .slice none 0 0] 25 (0, 0)) := by
    rw [hg2.block _ hz1 (by intro e; injection e; omega), HBL.out]
    exact heap_alloc_new w _
  have c0 : w2.cell? ⟨w.heap.size, 0, none⟩ = some (.int .i64 0) := cell_of_row _ _ 0 _ _ (0, 0) hres
  have c1 : w2.cell? ⟨w.heap.size, 1, none⟩ = some (.slice none 0 0) := cell_of_row _ _ 1 _ _ (0, 0) hres
  have f0 : w2.frozen? ⟨w.heap.size, 0, none⟩ = false := by simp [World.frozen?, hres]
  have f1 : w2.frozen? ⟨w.heap.size, 1, none⟩ = false := by simp [World.frozen?, hres]
  have T := Lib.hid (two_cells (v0 := .int .i64 nn) (v1 := .slice A' ws.length c') hres)
  have HB2 := Lib.hid (below_of_only HB1.out hg2 (by omega))
  have HRW := Lib.hid hrw
  have HRC := Lib.hid hrc
  have HRES := Lib.hid hres
  clear hg2 hres hrw hrc
  go_wp2_with fail
  obtain ⟨t0, t1⟩ := T.out
  refine bodyPost_ret (v := .tuple #[.agg #[.int .i64 nn, .slice A' ws.length c'], .int .i64 ee, .slice (some ⟨bc, 0, none⟩) cs.length cc]) (by simp [results, Try.results17, go_sem, t0, t1]) rfl ?_
  refine ⟨nn, ee, A', c', ws, bc, cc, cs, rfl, fun i x hx => ?_, fun i x hx => ?_, hl10, hcc, hcl, hcp, hn0, hn7, he0, he1, by have := HB2.out; go_grown⟩
  · obtain ⟨b, o, ha, hB, g0, g1, g2⟩ := HRW.out i x hx
    have hne : b ≠ w.heap.size := fun e => by subst e; exact not_pair HRES.out g0 g1
    have hk : ((w2.setCell ⟨w.heap.size, 0, none⟩ (.int .i64 nn)).setCell ⟨w.heap.size, 1, none⟩ (.slice A' ws.length c')).heap[b]? = w2.heap[b]? := (Below.heap_setCell _ _ _ _ (by simpa using hne)).trans (Below.heap_setCell _ _ _ _ (by simpa using hne))
    exact ⟨b, o, ha, by simpa [World.setCell] using hB, (World.cell?_of_block (w := w2) hk).trans g0, (World.cell?_of_block (w := w2) hk).trans g1, (World.cell?_of_block (w := w2) hk).trans g2⟩
  · obtain ⟨b, o, ha, hB, g0, g1⟩ := HRC.out i x hx
    have hne : b ≠ w.heap.size := fun e => by subst e; exact not_pair HRES.out g0 g1
    have hk : ((w2.setCell ⟨w.heap.size, 0, none⟩ (.int .i64 nn)).setCell ⟨w.heap.size, 1, none⟩ (.slice A' ws.length c')).heap[b]? = w2.heap[b]? := (Below.heap_setCell _ _ _ _ (by simpa using hne)).trans (Below.heap_setCell _ _ _ _ (by simpa using hne))
    exact ⟨b, o, ha, by simpa [World.setCell] using hB, (World.cell?_of_block (w := w2) hk).trans g0, (World.cell?_of_block (w := w2) hk).trans g1⟩
end Go.Proofs.Ytiioojjjpabaeaa
