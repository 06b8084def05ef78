/- The walk of FnCodeOf. -/
import Derived.Test.YtimccjmphdkbjaaDoorLEe
set_option linter.unusedSimpArgs false
set_option linter.unusedVariables false
attribute [local go_sem ↓] Go.wp_at_zero Go.wp_at_succ
namespace Go.Proofs.YtimccjmphdkbjaaDoor
open Go.ChangeShapes Go.WideShapes Go.ChangeAt Go.RowKit

set_option maxRecDepth 100000 in
set_option maxHeartbeats 2000000 in
theorem FnCodeOf_walk (A : Option Addr) (len cap : Nat) (w : World) (hr : RB w w.heap.size A len) (hc : len ≤ cap) (hlen : len ≤ 9223372036854775807) (hT : Tab w) :
    Calls Tryd.prog 4 #[.slice A len cap] w fun e w' => e = .returned (.bool true) ∧ Below w.heap.size w w' := by
  have HR := Lib.hid hr
  have HT := Lib.hid hT
  clear hr hT
  by_cases hm : 1048576 < len
  · go_enter Tryd.func4, Tryd.ntmps4
    go_wp2_with fail
    go_ret
    exact ⟨rfl, Below.refl _ _⟩
  · go_enter Tryd.func4, Tryd.ntmps4
    go_wp2_with fail
    refine (DrawCodeOf_any A len cap _ HR.out hc (by omega)).mono ?_
    rintro e wd ⟨P, bq, oq, cp, L, rfl, hrc, hL5, hcp, p2, p6, hbd⟩
    obtain ⟨m, rfl⟩ := Int.eq_ofNat_of_zero_le (show 0 ≤ P by omega)
    have HRC := Lib.hid hrc
    have HBD := Lib.hid hbd
    clear hrc hbd hm
    cases hok : linksOk (m : Int) L
    · have HOK := Lib.hid hok
      have htn := codeOf_none hok
      go_wp2_with fail
      refine (CodeOf_any (m : Int) _ cp L _ (HT.out.later HBD.out) HRC.out (by omega)).mono ?_
      intro e1 w1 h1
      rw [htn] at h1
      obtain ⟨A1, c1, rfl, hb1⟩ := h1
      have HB1 := Lib.hid (bstep (B := w.heap.size) (W := w) HBD.out HBD.out.size hb1)
      have HR1 := Lib.hid (HRC.out.later hb1)
      clear hb1
      go_wp2_with fail
      refine (sCodeOf_any (m : Int) _ cp L _ HR1.out (by omega)).mono ?_
      intro e2 w2 h2
      rw [htn] at h2
      obtain ⟨A2, c2, rfl, hb2⟩ := h2
      have HB2 := Lib.hid (bstep (B := w.heap.size) (W := w) HB1.out HB1.out.size hb2)
      have HR2 := Lib.hid (HR1.out.later hb2)
      have HSL := Lib.hid (sameIntsR_any A1 A2 c1 c2 0 [] rfl w2 (fun i x hx => by simp at hx) (fun i x hx => by simp at hx) (by omega))
      clear hb2 htn hok
      go_wp2_with fail
      refine (HSL.out).mono ?_; rintro e3 w3 ⟨rfl, hb3⟩
      have HB3 := Lib.hid (bstep (B := w.heap.size) (W := w) HB2.out HB2.out.size hb3)
      have HR3 := Lib.hid (HR2.out.later hb3)
      clear hb3
      go_wp2_with fail
      refine (LinksOk_any (m : Int) _ cp L _ (HT.out.later HB3.out) HR3.out (by omega)).mono ?_; rintro e4 w4 ⟨rfl, hb4⟩; rw [HOK.out]
      have HB4 := Lib.hid (bstep (B := w.heap.size) (W := w) HB3.out HB3.out.size hb4)
      clear hb4
      go_wp2_with fail
      refine (alive_any _).mono ?_; rintro e5 w5 ⟨rfl, hb5⟩
      have HB5 := Lib.hid (bstep (B := w.heap.size) (W := w) HB4.out HB4.out.size hb5)
      clear hb5
      go_wp2_with fail
      go_ret
      exact ⟨rfl, HB5.out⟩
    · obtain ⟨m', em, h2, h6, hsh, _⟩ := linksOk_t hok
      have em2 : m = m' := by omega
      subst em2
      obtain ⟨c, hco, _, hcok, htr, hdeg⟩ := code_of_tree hok
      obtain ⟨m9, em9, _, _, hcb⟩ := codeOk_t hcok
      have em3 : m = m9 := by omega
      subst em3
      obtain ⟨hcl, hcin⟩ := codeB_t hcb
      have HIL : Hid (∀ p, p ∈ L → InP m p) := fun p hp => shape_in hsh hp
      have HCI := Lib.hid hcin
      have HDEG := Lib.hid hdeg
      have HTR := Lib.hid htr
      have HCK := Lib.hid hcok
      have hc4 : c.length ≤ 4 := by omega
      clear hok em hsh hcok htr hdeg hcb hcl hcin em9
      go_wp2_with fail
      refine (CodeOf_any (m : Int) _ cp L _ (HT.out.later HBD.out) HRC.out (by omega)).mono ?_
      intro e1 w1 h1
      rw [hco] at h1
      obtain ⟨A1, c1, lo1, hi1, rfl, hrf1, -, hb1⟩ := h1
      have HB1 := Lib.hid (bstep (B := w.heap.size) (W := w) HBD.out HBD.out.size hb1)
      have HR1 := Lib.hid (HRC.out.later hb1)
      have HA1 := Lib.hid hrf1.ri
      clear hb1 hrf1
      go_wp2_with fail
      refine (sCodeOf_any (m : Int) _ cp L _ HR1.out (by omega)).mono ?_
      intro e2 w2 h2'
      rw [hco] at h2'
      obtain ⟨A2, c2, lo2, hi2, rfl, hrf2, -, hb2⟩ := h2'
      have HB2 := Lib.hid (bstep (B := w.heap.size) (W := w) HB1.out HB1.out.size hb2)
      have HR2 := Lib.hid (HR1.out.later hb2)
      have HA2 := Lib.hid (HA1.out.later hb2)
      have HX2 := Lib.hid hrf2.ri
      clear hb2 hrf2 hco
      go_wp2_with fail
      refine (sameIntsR_any A1 A2 c1 c2 c.length c rfl w2 HA2.out HX2.out (by omega)).mono ?_; rintro e3 W ⟨rfl, hb3⟩
      have HB3 := Lib.hid (bstep (B := w.heap.size) (W := w) HB2.out HB2.out.size hb3)
      have HR3 := Lib.hid (HR2.out.later hb3)
      have HA3 := Lib.hid (HA2.out.later hb3)
      have hmk := fun W => mkInts' W m h6
      have HROW0 : Hid (RowG (W.alloc (.cells (Array.replicate m (.int .i64 0)) 3)) W.heap.size 3 m (fun i => degL (L.take 0) (i : Int))) := RowG.made W 3 m
      clear hb3
      go_wp2_with fail
      clear hmk
      go_loopw [10] (fun i wr => ∃ k : Nat, k ≤ L.length ∧ i = .int .i64 (k : Int) ∧ RowG wr W.heap.size 3 m (fun i => degL (L.take k) (i : Int)) ∧ Below W.heap.size W wr) (fun i _ => L.length - (intOf i).toNat)
      case atStart => exact ⟨0, Nat.zero_le _, rfl, HROW0.out, (Below.refl _ _).alloc (Nat.le_refl _) _⟩
      case round =>
        clear HROW0
        obtain ⟨k, hk, rfl, hrow, hb⟩ := hrel
        have HROW := Lib.hid hrow
        have HBW := Lib.hid hb
        have hk0 : (0 : Int) ≤ (k : Int) := by omega
        by_cases hlk : k < L.length
        · have hk1 : (k : Int) < (L.length : Int) := by omega
          obtain ⟨⟨ia, ib⟩, hx⟩ : ∃ x, L[k]? = some x := ⟨_, List.getElem?_eq_getElem hlk⟩
          obtain ⟨x0, x1, x2⟩ := HIL.out _ (List.mem_of_getElem? hx)
          simp only at x0 x1 x2
          obtain ⟨pa, rfl⟩ := Int.eq_ofNat_of_zero_le x0
          obtain ⟨pb, rfl⟩ := Int.eq_ofNat_of_zero_le (show 0 ≤ ib by omega)
          have ham : pa < m := by omega
          have hbm : pb < m := by omega
          have hai : (pa : Int) < (m : Int) := by omega
          have hbi : (pb : Int) < (m : Int) := by omega
          have ha0 : (0 : Int) ≤ (pa : Int) := by omega
          have hb0 : (0 : Int) ≤ (pb : Int) := by omega
          have hab : pb ≠ pa := by omega
          obtain ⟨b', o', e9, hB', c0, c1'⟩ := (HR3.out.below hb) k _ hx
          injection e9 with e9; injection e9 with e91 e92; subst e91; subst e92
          simp only at c0 c1'
          have HSTEP : Hid (∀ v : Int, degL (L.take (k + 1)) v = degL (L.take k) v + ((if (pa : Int) = v then 1 else 0) + (if (pb : Int) = v then 1 else 0))) := fun v => degL_take hx v
          have hdb : ∀ v : Int, 0 ≤ degL (L.take k) v ∧ degL (L.take k) v ≤ 10 := fun v => by
            have := degL_bd (L.take k) v
            have h9 : (L.take k).length ≤ 5 := by rw [List.length_take]; omega
            omega
          obtain ⟨FA, hFA⟩ : ∃ F, degL (L.take k) (pa : Int) = F := ⟨_, rfl⟩
          obtain ⟨FB, hFB⟩ : ∃ F, degL (L.take k) (pb : Int) = F := ⟨_, rfl⟩
          have hba := hdb (pa : Int)
          have hbb := hdb (pb : Int)
          rw [hFA] at hba
          rw [hFB] at hbb
          have HFA := Lib.hid hFA
          have HFB := Lib.hid hFB
          have q0 : wr.cell? ⟨W.heap.size, pa, none⟩ = some (.int .i64 FA) := by rw [← hFA]; exact hrow.cell ham
          have qf := hrow.frozen pa
          have HV1 : Hid (IntKind.i64.wrap (FA + 1) = FA + 1) := IntWalk.i64_in _ ⟨by omega, by omega⟩
          have HV2 : Hid (wrap64 (FA + 1) = FA + 1) := IntWalk.wrap64_in _ ⟨by omega, by omega⟩
          have HV3 : Hid (IntKind.i64.wrap (FB + 1) = FB + 1) := IntWalk.i64_in _ ⟨by omega, by omega⟩
          have HV4 : Hid (wrap64 (FB + 1) = FB + 1) := IntWalk.wrap64_in _ ⟨by omega, by omega⟩
          have hrow9 : RowG (wr.setCell ⟨W.heap.size, pa, none⟩ (.int .i64 (FA + 1))) W.heap.size 3 m (fun i => if i = pa then FA + 1 else degL (L.take k) (i : Int)) := RowG.put HROW.out ham (FA + 1)
          have HROW9 := Lib.hid hrow9
          have c1 : (wr.setCell ⟨W.heap.size, pa, none⟩ (.int .i64 (FA + 1))).cell? ⟨bq, oq + k * 2 + 1, none⟩ = some (.int .i64 (pb : Int)) := (World.cell?_of_block (w := wr) (Below.heap_setCell _ _ _ _ (by simp; omega))).trans c1'
          have q1 : (wr.setCell ⟨W.heap.size, pa, none⟩ (.int .i64 (FA + 1))).cell? ⟨W.heap.size, pb, none⟩ = some (.int .i64 FB) := by
            have h9 := hrow9.cell hbm
            simp only [if_neg hab, HFB.out] at h9
            exact h9
          have qf1 := hrow9.frozen pb
          clear hrow hrow9 hb hx hFA hFB hba hbb hdb x0 x1 x2 c1'
          have hv1 := HV1.out
          have hv2 := HV2.out
          have hv3 := HV3.out
          have hv4 := HV4.out
          go_wp2_with fail
          clear hv1 hv2 hv3 hv4
          go_roundw
          case rel =>
            have hrow10 : RowG ((wr.setCell ⟨W.heap.size, pa, none⟩ (.int .i64 (FA + 1))).setCell ⟨W.heap.size, pb, none⟩ (.int .i64 (FB + 1))) W.heap.size 3 m (fun i => degL (L.take (k + 1)) (i : Int)) := (RowG.put HROW9.out hbm (FB + 1)).congr (fun i _ => by
              rw [HSTEP.out (i : Int)]
              by_cases e1 : i = pb
              · subst e1
                have e2 : ¬ ((pa : Int) = (i : Int)) := by omega
                simp [e2, HFB.out]
              · have e3 : ¬ ((pb : Int) = (i : Int)) := by omega
                by_cases e2 : i = pa
                · subst e2; simp [e1, e3, HFA.out]
                · have e4 : ¬ ((pa : Int) = (i : Int)) := by omega
                  simp [e1, e2, e3, e4])
            exact ⟨k + 1, by omega, by go_num, hrow10, (HBW.out.setCell (p := ⟨W.heap.size, pa, none⟩) (Nat.le_refl _) _).setCell (p := ⟨W.heap.size, pb, none⟩) (Nat.le_refl _) _⟩
          case measure => (simp [intOf]) <;> omega
        · obtain rfl : k = L.length := by omega
          have HROW1 : Hid (RowG wr W.heap.size 3 m (fun i => degL L (i : Int) - (cntL (c.take 0) (i : Int) - 1))) := hrow.congr (fun i _ => by rw [List.take_length, show cntL (c.take 0) (i : Int) = 1 from rfl]; omega)
          clear hrow HROW hb
          go_wp2_with fail
          go_loopw [11] (fun i wr => ∃ q : Nat, q ≤ c.length ∧ i = .int .i64 (q : Int) ∧ RowG wr W.heap.size 3 m (fun i => degL L (i : Int) - (cntL (c.take q) (i : Int) - 1)) ∧ Below W.heap.size W wr) (fun i _ => c.length - (intOf i).toNat)
          case atStart => exact ⟨0, Nat.zero_le _, rfl, HROW1.out, HBW.out⟩
          case round =>
            clear HROW1 HBW
            obtain ⟨q, hq, rfl, hrow, hb⟩ := hrel
            have HROW := Lib.hid hrow
            have HBW := Lib.hid hb
            have hq0 : (0 : Int) ≤ (q : Int) := by omega
            by_cases hlq : q < c.length
            · have hq1 : (q : Int) < (c.length : Int) := by omega
              obtain ⟨xi, hxi⟩ : ∃ x, c[q]? = some x := ⟨_, List.getElem?_eq_getElem hlq⟩
              obtain ⟨x0, x1⟩ := HCI.out xi (List.mem_of_getElem? hxi)
              obtain ⟨x, rfl⟩ := Int.eq_ofNat_of_zero_le x0
              have hxm : x < m := by omega
              have hx9 : ¬ (x : Int) < 0 := by omega
              have hx8 : ¬ (m : Int) ≤ (x : Int) := by omega
              obtain ⟨b, o, rfl, hB, c0⟩ := (HA3.out.below hb).at_ hlq
              rw [getD_at hxi] at c0
              have HSTEP : Hid (∀ v : Int, cntL (c.take (q + 1)) v = cntL (c.take q) v + (if (x : Int) = v then 1 else 0)) := fun v => cntL_take hxi v
              have hd := degL_bd L (x : Int)
              have hcb := cntL_bd (c.take q) (x : Int)
              have hcl : (c.take q).length ≤ 4 := by rw [List.length_take]; omega
              obtain ⟨G, hG⟩ : ∃ G, degL L (x : Int) - (cntL (c.take q) (x : Int) - 1) = G := ⟨_, rfl⟩
              have hGb : -10 ≤ G ∧ G ≤ 10 := by omega
              have q0 : wr.cell? ⟨W.heap.size, x, none⟩ = some (.int .i64 G) := by rw [← hG]; exact hrow.cell hxm
              have qf := hrow.frozen x
              have HG := Lib.hid hG
              have HV1 : Hid (IntKind.i64.wrap (G - 1) = G - 1) := IntWalk.i64_in _ ⟨by omega, by omega⟩
              have HV2 : Hid (wrap64 (G - 1) = G - 1) := IntWalk.wrap64_in _ ⟨by omega, by omega⟩
              clear hrow hb hxi hG hd hcb hcl hGb
              have hv1 := HV1.out
              have hv2 := HV2.out
              go_wp2_with fail
              clear hv1 hv2
              go_roundw
              case rel =>
                have hrow9 : RowG (wr.setCell ⟨W.heap.size, x, none⟩ (.int .i64 (G - 1))) W.heap.size 3 m (fun i => degL L (i : Int) - (cntL (c.take (q + 1)) (i : Int) - 1)) := (RowG.put HROW.out hxm (G - 1)).congr (fun i _ => by
                  rw [HSTEP.out (i : Int)]
                  by_cases e1 : i = x
                  · subst e1
                    have := HG.out
                    rw [if_pos rfl, if_pos rfl]
                    omega
                  · rw [if_neg e1, if_neg (show ¬ (x : Int) = (i : Int) by omega)]
                    omega)
                exact ⟨q + 1, by omega, by go_num, hrow9, HBW.out.setCell (p := ⟨W.heap.size, x, none⟩) (Nat.le_refl _) _⟩
              case measure => (simp [intOf]) <;> omega
            · obtain rfl : q = c.length := by omega
              have HROW1 : Hid (RowG wr W.heap.size 3 m (fun _ => 1)) := hrow.congr (fun i hi => by
                have := HDEG.out i hi
                rw [List.take_length]; omega)
              clear hrow HROW hb
              go_wp2_with fail
              go_loopw [12] (fun i w9 => ∃ p : Nat, p ≤ m ∧ i = .int .i64 (p : Int) ∧ w9 = wr) (fun i _ => m - (intOf i).toNat)
              case atStart => exact ⟨0, Nat.zero_le _, rfl, rfl⟩
              case round =>
                obtain ⟨p, hp, rfl, rfl⟩ := hrel
                have hp0 : (0 : Int) ≤ (p : Int) := by omega
                by_cases hlp : p < m
                · have hp1 : (p : Int) < (m : Int) := by omega
                  have q0 := HROW1.out.cell hlp
                  (try simp only at q0)
                  go_wp2_with fail
                  go_roundw
                  case rel => exact ⟨p + 1, by omega, by go_num, by first | rfl | trivial⟩
                  case measure => (simp [intOf]) <;> omega
                · obtain rfl : p = m := by omega
                  have HBX := Lib.hid (bstep (B := w.heap.size) (W := w) HB3.out HB3.out.size HBW.out)
                  have HA4 := Lib.hid (HA3.out.later HBW.out)
                  have HR4 := Lib.hid (HR3.out.later HBW.out)
                  go_wp2_with fail
                  refine (TreeOfCode_any (p : Int) A1 c1 c _ HA4.out (by omega)).mono ?_
                  intro e5 w5 h5
                  rw [HTR.out] at h5
                  obtain ⟨A5, c5, lo5, hi5, rfl, hrf5, -, hb5⟩ := h5
                  have HB5 := Lib.hid (bstep (B := w.heap.size) (W := w) HBX.out HBX.out.size hb5)
                  have HA5 := Lib.hid (HA4.out.later hb5)
                  have HR5 := Lib.hid (HR4.out.later hb5)
                  have HX5 := Lib.hid hrf5.rc
                  clear hb5 hrf5
                  go_wp2_with fail
                  refine (CodeOk_any (p : Int) A1 c1 c _ HA5.out (by omega)).mono ?_; rintro e6 w6 ⟨rfl, hb6⟩; rw [HCK.out]
                  have HB6 := Lib.hid (bstep (B := w.heap.size) (W := w) HB5.out HB5.out.size hb6)
                  have HR6 := Lib.hid (HR5.out.later hb6)
                  have HX6 := Lib.hid (HX5.out.later hb6)
                  clear hb6
                  go_wp2_with fail
                  refine (sameLinks_any A5 _ c5 cp L _ HX6.out HR6.out (by omega)).mono ?_; rintro e7 w7 ⟨rfl, hb7⟩
                  have HB7 := Lib.hid (bstep (B := w.heap.size) (W := w) HB6.out HB6.out.size hb7)
                  clear hb7
                  go_wp2_with fail
                  go_ret
                  exact ⟨rfl, HB7.out⟩
end Go.Proofs.YtimccjmphdkbjaaDoor
