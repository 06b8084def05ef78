/- The walk of FnLinksOk. -/
import Derived.Test.YtimccjmphdkbjaaDoorPcI
import Derived.Test.YtimccjmphdkbjaaDoorPdB
import Derived.Test.YtimccjmphdkbjaaDoorWLab
set_option linter.unusedSimpArgs false
set_option linter.unusedVariables false
attribute [local go_sem ↓] Go.wp_at_zero Go.wp_at_succ
namespace Go.Proofs.YtimccjmphdkbjaaDoor
open Go.ChangeShapes Go.WideShapes Go.ChangeAt Go.RowKit

theorem starL_at {m k : Nat} (hk : k < m - 1) : (starL m)[k]? = some ((0 : Int), (k : Int) + 1) := by
  unfold starL; rw [List.getElem?_map, List.getElem?_range hk]; rfl
theorem starL_len (m : Nat) : (starL m).length = m - 1 := by unfold starL; simp
theorem star_take {m k : Nat} (hk : k < m - 1) : (starL m).take (k + 1) = (starL m).take k ++ [((0 : Int), (k : Int) + 1)] := by rw [List.take_add_one, starL_at hk]; rfl
theorem linksOk_lenC {n : Int} {L : List (Int × Int)} (h : (L.length : Int) + 1 ≠ n) : linksOk n L = false := by
  cases h9 : linksOk n L
  · rfl
  · obtain ⟨m, rfl, _, _, hs, _⟩ := linksOk_t h9
    have := (shape_at hs).1
    omega
set_option maxRecDepth 100000 in
set_option maxHeartbeats 8000000 in
theorem FnLinksOk_walk (A : Option Addr) (len cap : Nat) (w : World) (hr : RB w w.heap.size A len) (hc : len ≤ cap) (hlen : len ≤ 9223372036854775807) (hT : Tab w) :
    Calls Tryd.prog 3 #[.slice A len cap] w fun e w' => e = .returned (.bool true) ∧ Below w.heap.size w w' := by
  have HR := Lib.hid hr
  have HT := Lib.hid hT
  clear hr hT
  by_cases hm : 1048576 < len
  · go_enter Tryd.func3, Tryd.ntmps3
    go_wp2_with fail
    go_ret
    exact ⟨rfl, Below.refl _ _⟩
  · obtain ⟨i0, hi0, hz0, hz1', hz2⟩ := info_parts infoPr
    go_enter Tryd.func3, Tryd.ntmps3
    go_wp2_with fail
    refine (DrawLinksOk_any A len cap _ HR.out hc (by omega)).mono ?_
    rintro e wd ⟨P, bq, oq, cp, ps, rfl, hrc, h5, hcp, p2, p6, hbd⟩
    obtain ⟨m, rfl⟩ := Int.eq_ofNat_of_zero_le (show 0 ≤ P by omega)
    have HRC := Lib.hid hrc
    have HBD := Lib.hid hbd
    obtain ⟨Z, hZ⟩ : ∃ Z, linksOk (m : Int) ps = Z := ⟨_, rfl⟩
    have HZ := Lib.hid hZ
    clear hrc hbd hZ hm
    go_wp2_with fail
    refine (LinksOk_any (m : Int) _ cp ps _ (HT.out.later HBD.out) HRC.out (by omega)).mono ?_; rintro e1 w1 ⟨rfl, hb1⟩; rw [HZ.out]
    have HB1 := Lib.hid (bstep (B := w.heap.size) (W := w) HBD.out HBD.out.size hb1)
    have HR1 := Lib.hid (HRC.out.later hb1)
    clear hb1
    go_wp2_with fail
    refine (sLinksOk_any (m : Int) _ cp ps _ HR1.out (by omega)).mono ?_; rintro e2 w2 ⟨rfl, hb2⟩; rw [HZ.out]
    have HB2 := Lib.hid (bstep (B := w.heap.size) (W := w) HB1.out HB1.out.size hb2)
    have HR2 := Lib.hid (HR1.out.later hb2)
    have HB3 := Lib.hid (HB2.out.alloc HB2.out.size (.cells #[] 28))
    have HR3 := Lib.hid (HR2.out.later ((Below.refl _ _).alloc (Nat.le_refl _) (.cells #[] 28)))
    have hsz2 := HB2.out.size
    have HO3 : Hid ((w2.alloc (.cells #[] 28)).ownsRow w2.heap.size 28 2 (.slice (some ⟨w2.heap.size, 0, none⟩) 0 0) 0 (ctCells ((starL m).take 0))) := ⟨rfl, .inr ⟨w2.heap.size, 0, #[], rfl, Nat.le_refl _, heap_alloc_new _ _, Nat.le_refl _, Nat.zero_le _, rfl, rfl⟩⟩
    have hbq : bq < wd.heap.size ∨ ps.length = 0 := by
      by_cases h0 : ps.length = 0
      · exact .inr h0
      · obtain ⟨b', o', e9, hB', _⟩ := HRC.out 0 _ (List.getElem?_eq_getElem (show 0 < ps.length by omega))
        injection e9 with e9; injection e9 with e91 e92; subst e91
        exact .inl hB'
    clear hb2
    cases Z
    all_goals
      go_wp2_with fail
      go_loopw [6, 7] (fun v i wr => ∃ (k g6 c6 : Nat), k ≤ m - 1 ∧ i = .int .i64 ((k : Int) + 1) ∧ v = .slice (some ⟨g6, 0, none⟩) k c6 ∧ wr.ownsRow w2.heap.size 28 2 (.slice (some ⟨g6, 0, none⟩) k c6) k (ctCells ((starL m).take k)) ∧ Below w2.heap.size w2 wr) (fun _ i _ => m - (intOf i).toNat)
      case atStart => exact ⟨0, _, 0, Nat.zero_le _, rfl, rfl, HO3.out, (Below.refl _ _).alloc (Nat.le_refl _) _⟩
      case round =>
        clear HO3 HB3 HR3
        obtain ⟨k, g6, c6, hk, rfl, rfl, how, hb⟩ := hrel
        have HOW := Lib.hid how
        have HBW := Lib.hid hb
        have hk0 : (0 : Int) ≤ (k : Int) := by omega
        have hwz := hb.size
        clear how hb
        by_cases hlt : k < m - 1
        · have hk1 : (k : Int) + 1 < (m : Int) := by omega
          have HX := Lib.hid (star_take hlt)
          go_wp2_with (at_builtin; refine wpList_append_lies _ rfl _ _ _ rfl w2.heap.size 28 i0 _ 2 16 Tryd.underlying23 hi0 hz0 hz1' hz2 rfl (by decide) (.slice (some ⟨g6, 0, none⟩) k c6) k (ctCells ((starL m).take k)) rfl (World.ownsRow.alloc HOW.out _) ⟨wr.heap.size, 0, none⟩ 1 1 [.int .i64 0, .int .i64 ((k : Int) + 1)] rfl rfl (World.news_of_block (cs := #[.int .i64 0, .int .i64 ((k : Int) + 1)]) (t := 28) (fr := (0, 0)) (heap_alloc_new wr _)) (by simp [Value.oneCell']) (by omega) (by unfold maxLen; omega) (by omega) (by simp; omega) (wr.heap.size + 1) (by simp) ?_; intro g9 c9 w9 hown9 hg9 hat9 hlt9)
          have HBW9 := Lib.hid (below_app3 (HBW.out.alloc hwz _) hg9 (World.ownsRow.alloc HOW.out _) (Nat.le_refl _))
          have HOW9 : Hid (w9.ownsRow w2.heap.size 28 2 (.slice (some ⟨g9, 0, none⟩) (k + 1) c9) (k + 1) (ctCells ((starL m).take (k + 1)))) := by show World.ownsRow _ _ _ _ _ _ _; rw [HX.out, ctCells_snoc]; exact hown9
          clear hown9 hg9 hat9 hlt9
          (try go_wp2_with fail)
          go_roundw
          case rel => exact ⟨k + 1, g9, c9, by omega, by go_num, rfl, HOW9.out, HBW9.out⟩
          case measure => (simp [intOf]) <;> omega
        · obtain rfl : k = m - 1 := by omega
          have hst9 := HOW.out
          rw [List.take_of_length_le (by rw [starL_len]; exact Nat.le_refl _)] at hst9
          have HSR : Hid (RC wr wr.heap.size (some ⟨g6, 0, none⟩) (starL m)) := rc_of_own (c1 := c6) (by rw [starL_len]; exact hst9)
          have HST : Hid (∀ W : World, Tab W → RC W W.heap.size (some ⟨g6, 0, none⟩) (starL m) → Calls Tryd.prog 10 #[.int .i64 (m : Int), .slice (some ⟨g6, 0, none⟩) (m - 1) c6] W fun e w' => e = .returned (.bool true) ∧ Below W.heap.size W w') := fun W h1 h2 => by
            have h9 := LinksOk_any (m : Int) (some ⟨g6, 0, none⟩) c6 (starL m) W h1 h2 (by rw [starL_len]; omega)
            rw [star_ok (by omega) (by omega), starL_len] at h9
            exact h9
          have HSE : Hid (∀ (W : World) (Ar : Option Addr) (cr : Nat), Tab W → Calls Tryd.prog 10 #[.int .i64 (m : Int), .slice Ar 0 cr] W fun e w' => e = .returned (.bool false) ∧ Below W.heap.size W w') := fun W Ar cr h1 => by
            have h9 := LinksOk_any (m : Int) Ar cr [] W h1 (RC.nil_ _ _) (by simp)
            rw [linksOk_lenC (by simp; omega)] at h9
            exact h9
          have HPS := Lib.hid (HR2.out.later HBW.out)
          have HBr := Lib.hid (bstep (B := w.heap.size) (W := w) HB2.out HB2.out.size HBW.out)
          have hsr := HBr.out.size
          have hmi : ¬ ((m - 1 : Nat) : Int) + 1 < (m : Int) := by omega
          have hon5 : Hid ((wr.alloc (.cells #[] 28)).ownsRow wr.heap.size 28 2 (.slice (some ⟨wr.heap.size, 0, none⟩) 0 0) 0 []) := ⟨rfl, .inr ⟨wr.heap.size, 0, #[], rfl, Nat.le_refl _, heap_alloc_new _ _, Nat.le_refl _, Nat.zero_le _, rfl, rfl⟩⟩
          have hnw5 := Lib.hid (RC.news (RC.later HPS.out ((Below.refl wr.heap.size wr).alloc (Nat.le_refl _) (.cells #[] 28))))
          clear hst9 hbq
          by_cases hps : ps.length = 0
          · have h9 : linksOk (m : Int) ps = false := linksOk_lenC (by omega)
            rw [HZ.out] at h9
            first
            | (exfalso; cases h9; done)
            | (have hpi : ¬ (0 : Int) < (ps.length : Int) := by omega
               clear hps h9
               go_wp2_with (at_builtin; refine wpList_append_copy rfl _ _ _ rfl wr.heap.size 28 i0 _ 2 16 Tryd.underlying23 hi0 hz0 hz1' hz2 rfl (by decide) (.slice (some ⟨wr.heap.size, 0, none⟩) 0 0) rfl hon5.out ⟨bq, oq, none⟩ ps.length cp (ctCells ps) rfl (ctCells_len ps) hnw5.out (ctCells_one _) (by unfold maxLen; omega) (by omega) (by simp) ?_; intro A5 c5 w5 hown5 hg5; have HG5 := Lib.hid (below_grow ((Below.refl wr.heap.size wr).alloc (Nat.le_refl _) _) hg5 (Nat.le_refl _)); have HL5 := Lib.hid (rc_of_own hown5); have hs5 := HG5.out.size; clear hown5 hg5)
               (try go_wp2_with fail)
               have HB5 := Lib.hid (bstep (B := w.heap.size) (W := w) HBr.out HBr.out.size HG5.out)
               refine (HST.out _ (HT.out.later HB5.out) ((HSR.out.later HG5.out))).mono ?_; rintro e7 w7 ⟨rfl, hb7⟩
               have HB7 := Lib.hid (bstep (B := w.heap.size) (W := w) HB5.out HB5.out.size hb7)
               have hs7 := HB7.out.size
               have hz7 := hb7.size
               have HX7 := Lib.hid hb7
               clear hb7
               go_wp2_with fail
               have HB7a := Lib.hid (HB7.out.alloc hs7 (.cells #[] 28))
               refine (HSE.out _ _ _ (HT.out.later HB7a.out)).mono ?_; rintro e8 w8 ⟨rfl, hb8⟩
               have HB8 := Lib.hid (bstep (B := w.heap.size) (W := w) HB7a.out (by simp; omega) hb8)
               have HX8 := Lib.hid hb8
               clear hb8
               go_wp2_with fail
               go_ret
               exact ⟨rfl, HB8.out⟩)
          · have hpi : (0 : Int) < (ps.length : Int) := by omega
            have HWQ : Hid (IntKind.i64.wrap ((ps.length : Int) - 1) = ((ps.length - 1 : Nat) : Int)) := by show _ = _; rw [IntWalk.i64_in _ ⟨by omega, by omega⟩]; omega
            have HWQ2 : Hid (wrap64 ((ps.length : Int) - 1) = ((ps.length - 1 : Nat) : Int)) := by show _ = _; rw [IntWalk.wrap64_in _ ⟨by omega, by omega⟩]; omega
            obtain ⟨Q, hQ⟩ : ∃ Q, ps.length - 1 = Q := ⟨_, rfl⟩
            have hQl : Q < ps.length := by omega
            rw [hQ] at HWQ HWQ2
            have HLS : Hid (∀ (W : World) (Ar : Option Addr) (cr : Nat), Tab W → RC W W.heap.size Ar (ps.take Q) → linksOk (m : Int) ps = true → Calls Tryd.prog 10 #[.int .i64 (m : Int), .slice Ar Q cr] W fun e w' => e = .returned (.bool false) ∧ Below W.heap.size W w') := fun W Ar cr h1 h2 h3 => by
              have hl : (ps.take Q).length = Q := by rw [List.length_take]; omega
              have h9 := LinksOk_any (m : Int) Ar cr (ps.take Q) W h1 h2 (by omega)
              have h8 : ((ps.take Q).length : Int) + 1 ≠ (m : Int) := by
                rw [hl]
                intro e
                have := linksOk_lenC (n := (m : Int)) (L := ps) (by omega)
                rw [this] at h3; cases h3
              rw [linksOk_lenC h8, hl] at h9
              exact h9
            have HTK : Hid ((ps.take Q).length = Q) := by show _ = _; rw [List.length_take]; omega
            have hQi : (Q : Int) ≤ (ps.length : Int) := by omega
            have hQc : (Q : Int) ≤ (cp : Int) := by omega
            have hQ0 : (0 : Int) ≤ (Q : Int) := by omega
            clear hps hQ
            have hwq := HWQ.out
            have hwq2 := HWQ2.out
            go_wp2_with (first | (at_builtin; refine wpList_append_copy rfl _ _ _ rfl wr.heap.size 28 i0 _ 2 16 Tryd.underlying23 hi0 hz0 hz1' hz2 rfl (by decide) (.slice (some ⟨wr.heap.size, 0, none⟩) 0 0) rfl hon5.out ⟨bq, oq, none⟩ ps.length cp (ctCells ps) rfl (ctCells_len ps) hnw5.out (ctCells_one _) (by clear hwq hwq2; unfold maxLen; omega) (by clear hwq hwq2; omega) (by simp) ?_; intro A5 c5 w5 hown5 hg5; have HG5 := Lib.hid (below_grow ((Below.refl wr.heap.size wr).alloc (Nat.le_refl _) _) hg5 (Nat.le_refl _)); have HL5 := Lib.hid (rc_of_own hown5); have hs5 := HG5.out.size; have HP5 := Lib.hid (HPS.out.later HG5.out); have hon6 : Hid ((w5.alloc (.cells #[] 28)).ownsRow w5.heap.size 28 2 (.slice (some ⟨w5.heap.size, 0, none⟩) 0 0) 0 []) := ⟨rfl, .inr ⟨w5.heap.size, 0, #[], rfl, Nat.le_refl _, heap_alloc_new _ _, Nat.le_refl _, Nat.zero_le _, rfl, rfl⟩⟩; have hnw6 := Lib.hid (RC.news (RC.later (HP5.out.take Q) ((Below.refl w5.heap.size w5).alloc (Nat.le_refl _) (.cells #[] 28)))); clear hown5 hg5) | (at_builtin; refine wpList_append_copy rfl _ _ _ rfl w5.heap.size 28 i0 _ 2 16 Tryd.underlying23 hi0 hz0 hz1' hz2 rfl (by decide) (.slice (some ⟨w5.heap.size, 0, none⟩) 0 0) rfl hon6.out ⟨bq, oq, none⟩ Q cp (ctCells (ps.take Q)) rfl (by rw [ctCells_len, HTK.out]) hnw6.out (ctCells_one _) (by clear hwq hwq2; unfold maxLen; omega) (by clear hwq hwq2; omega) (by simp) ?_; intro A6 c6 w6 hown6 hg6; have HG6 := Lib.hid (below_grow ((Below.refl w5.heap.size w5).alloc (Nat.le_refl _) _) hg6 (Nat.le_refl _)); have HL6 := Lib.hid (rc_of_own (cs := ps.take Q) (by rw [HTK.out]; exact hown6)); have hs6 := HG6.out.size; clear hown6 hg6))
            (try go_wp2_with fail)
            clear hwq hwq2
            have HB5 := Lib.hid (bstep (B := w.heap.size) (W := w) (bstep (B := w.heap.size) (W := w) HBr.out HBr.out.size HG5.out) (by have := HBr.out.size; omega) HG6.out)
            refine (HST.out _ (HT.out.later HB5.out) (((HSR.out.later HG5.out).later HG6.out))).mono ?_; rintro e7 w7 ⟨rfl, hb7⟩
            have HB7 := Lib.hid (bstep (B := w.heap.size) (W := w) HB5.out HB5.out.size hb7)
            have hs7 := HB7.out.size
            have hz7 := hb7.size
            have HX7 := Lib.hid hb7
            clear hb7
            go_wp2_with fail
            have HB7a := Lib.hid (HB7.out.alloc hs7 (.cells #[] 28))
            refine (HSE.out _ _ _ (HT.out.later HB7a.out)).mono ?_; rintro e8 w8 ⟨rfl, hb8⟩
            have HB8 := Lib.hid (bstep (B := w.heap.size) (W := w) HB7a.out (by simp; omega) hb8)
            have HX8 := Lib.hid hb8
            clear hb8
            go_wp2_with fail
            first
            | (go_ret; exact ⟨rfl, HB8.out⟩)
            | (have HTK9 : Hid (RC w6 w6.heap.size A6 (ps.take Q)) := HL6.out
               refine (HLS.out _ _ _ (HT.out.later HB8.out) ((((HTK9.out.later HX7.out).later ((Below.refl _ _).alloc (Nat.le_refl _) (.cells #[] 28)))).later HX8.out) HZ.out).mono ?_; rintro e9 w9 ⟨rfl, hb9⟩
               have HB9 := Lib.hid (bstep (B := w.heap.size) (W := w) HB8.out HB8.out.size hb9)
               clear hb9
               go_wp2_with fail
               go_ret
               exact ⟨rfl, HB9.out⟩)
end Go.Proofs.YtimccjmphdkbjaaDoor
