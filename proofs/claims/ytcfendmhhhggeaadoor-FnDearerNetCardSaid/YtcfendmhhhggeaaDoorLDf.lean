/- Walk of the law FnDearerNet. -/
import Derived.Test.YtcfendmhhhggeaaDoorDwI
import Derived.Test.YtcfendmhhhggeaaDoorDwL
import Derived.Test.YtcfendmhhhggeaaDoorDwD
import Derived.Test.YtcfendmhhhggeaaDoorDwE
import Derived.Test.YtcfendmhhhggeaaDoorRH
import Derived.Test.YtcfendmhhhggeaaDoorWC
import Derived.Test.YtcfendmhhhggeaaDoorMC
import Derived.Test.YtcfendmhhhggeaaDoorME
import Derived.Test.YtcfendmhhhggeaaDoorWBb
import Derived.Test.YtcfendmhhhggeaaDoorGnA
set_option linter.unusedSimpArgs false
set_option linter.unusedVariables false
attribute [local go_sem ↓] Go.wp_at_zero Go.wp_at_succ
namespace Go.Proofs.YtcfendmhhhggeaaDoor
open Go.ChangeShapes Go.WideShapes Go.ChangeAt Go.RowKit

set_option maxHeartbeats 2000000 in
theorem sameNet_any (N : Int) (T1 T2 : Option Addr) (c1 c2 : Nat) (L : List Wy) (w : World) (h1 : RW w w.heap.size T1 L) (h2 : RW w w.heap.size T2 L) (hl : L.length ≤ 1048576) :
    Calls Tryd.prog 34 #[.agg #[.int .i64 N, .slice T1 L.length c1], .agg #[.int .i64 N, .slice T2 L.length c2]] w fun e w' => e = .returned (.bool true) ∧ Below w.heap.size w w' := by
  have HQ1 := Lib.hid h1
  have HQ2 := Lib.hid h2
  clear h1 h2
  go_enter Tryd.func34, Tryd.ntmps34
  go_wp2_with fail
  go_loopw [5] (fun i wr => ∃ k : Nat, k ≤ L.length ∧ i = .int .i64 k ∧ wr.cell? ⟨w.heap.size, 0, none⟩ = some (.int .i64 N) ∧ wr.cell? ⟨w.heap.size, 1, none⟩ = some (.slice T1 L.length c1) ∧ wr.cell? ⟨w.heap.size + 1, 1, none⟩ = some (.slice T2 L.length c2) ∧ Below w.heap.size w wr ∧ w.heap.size + 1 < wr.heap.size) (fun i _ => L.length - (intOf i).toNat)
  case atStart => exact ⟨0, Nat.zero_le _, rfl, by go_simp, by go_simp, by go_simp, by go_grown, by simp⟩
  case round =>
    obtain ⟨k, hk, rfl, b50, b51, b71, hb, hz⟩ := hrel
    have HB0 := Lib.hid hb
    have hk0 : (0 : Int) ≤ (k : Int) := by omega
    by_cases hlk : k < L.length
    · have hk1 : (k : Int) < (L.length : Int) := by omega
      obtain ⟨x, hx⟩ : ∃ x, L[k]? = some x := ⟨_, List.getElem?_eq_getElem hlk⟩
      obtain ⟨p1, o1, hp1, hq1, e10, e11, e12⟩ := (HQ1.out.later hb) k x hx
      obtain ⟨p2, o2, hp2, hq2, e20, e21, e22⟩ := (HQ2.out.later hb) k x hx
      subst hp1
      subst hp2
      have y0 := b51
      have y1 := b71
      clear hx hb
      go_wp2_with fail
      refine wp_region_held_drew (S := (fun w' => w'.cell? ⟨w.heap.size, 1, none⟩ = some (.slice (some ⟨p1, o1, none⟩) L.length c1) ∧ w'.cell? ⟨w.heap.size + 1, 1, none⟩ = some (.slice (some ⟨p2, o2, none⟩) L.length c2) ∧ w'.cell? ⟨p1, o1 + k * 3, none⟩ = some (.int .i64 x.a) ∧ w'.cell? ⟨p1, o1 + k * 3 + 1, none⟩ = some (.int .i64 x.b) ∧ w'.cell? ⟨p1, o1 + k * 3 + 2, none⟩ = some (.int .i64 x.c) ∧ w'.cell? ⟨p2, o2 + k * 3, none⟩ = some (.int .i64 x.a) ∧ w'.cell? ⟨p2, o2 + k * 3 + 1, none⟩ = some (.int .i64 x.b) ∧ w'.cell? ⟨p2, o2 + k * 3 + 2, none⟩ = some (.int .i64 x.c))) (by kernel_rfl) ?_ (fun hHeld => ?_)
      · exact ⟨b51, b71, e10, e11, e12, e20, e21, e22⟩
      refine wpAnyH_take (i := 0) (v := ?_) rfl (by kernel_rfl) (by kernel_rfl) (by kernel_rfl) (fun _ _ _ h => h) (Or.inl ⟨by rfl, ?_⟩) (by assumption) ?_
      rotate_left
      · (intro w hSw; (try dsimp only at hSw); (try simp only [List.getElem_toArray, List.getElem_cons_succ, List.getElem_cons_zero]); first | (go_simp; done) | (go_simp; with_reducible rfl))
      try simp only [Act.put, List.getElem_toArray, List.getElem_cons_succ, List.getElem_cons_zero, List.setIfInBounds_toArray, List.set_cons_zero, List.set_cons_succ]
      refine wpAnyH_take (i := 1) (v := ?_) rfl (by kernel_rfl) (by kernel_rfl) (by kernel_rfl) (fun _ _ _ h => h) (Or.inl ⟨by rfl, ?_⟩) (by assumption) ?_
      rotate_left
      · (intro w hSw; (try dsimp only at hSw); (try simp only [List.getElem_toArray, List.getElem_cons_succ, List.getElem_cons_zero]); first | (go_simp; done) | (go_simp; with_reducible rfl))
      try simp only [Act.put, List.getElem_toArray, List.getElem_cons_succ, List.getElem_cons_zero, List.setIfInBounds_toArray, List.set_cons_zero, List.set_cons_succ]
      refine wpAnyH_take (i := 2) (v := ?_) rfl (by kernel_rfl) (by kernel_rfl) (by kernel_rfl) (fun _ _ _ h => h) (Or.inl ⟨by rfl, ?_⟩) (by assumption) ?_
      rotate_left
      · (intro w hSw; (try dsimp only at hSw); (try simp only [List.getElem_toArray, List.getElem_cons_succ, List.getElem_cons_zero]); first | (go_simp; done) | (go_simp; with_reducible rfl))
      try simp only [Act.put, List.getElem_toArray, List.getElem_cons_succ, List.getElem_cons_zero, List.setIfInBounds_toArray, List.set_cons_zero, List.set_cons_succ]
      refine wpAnyH_take (i := 3) (v := ?_) rfl (by kernel_rfl) (by kernel_rfl) (by kernel_rfl) (fun _ _ _ h => h) (Or.inl ⟨by rfl, ?_⟩) (by assumption) ?_
      rotate_left
      · (intro w hSw; (try dsimp only at hSw); (try simp only [List.getElem_toArray, List.getElem_cons_succ, List.getElem_cons_zero]); first | (go_simp; done) | (go_simp; with_reducible rfl))
      try simp only [Act.put, List.getElem_toArray, List.getElem_cons_succ, List.getElem_cons_zero, List.setIfInBounds_toArray, List.set_cons_zero, List.set_cons_succ]
      refine wpAnyH_take (i := 4) (v := ?_) rfl (by kernel_rfl) (by kernel_rfl) (by kernel_rfl) (fun _ _ _ h => h) (Or.inl ⟨by rfl, ?_⟩) (by assumption) ?_
      rotate_left
      · (intro w hSw; (try dsimp only at hSw); (try simp only [List.getElem_toArray, List.getElem_cons_succ, List.getElem_cons_zero]); first | (go_simp; done) | (go_simp; with_reducible rfl))
      try simp only [Act.put, List.getElem_toArray, List.getElem_cons_succ, List.getElem_cons_zero, List.setIfInBounds_toArray, List.set_cons_zero, List.set_cons_succ]
      refine wpAnyH_take (i := 5) (v := ?_) rfl (by kernel_rfl) (by kernel_rfl) (by kernel_rfl) (fun _ _ _ h => h) (Or.inl ⟨by rfl, ?_⟩) (by assumption) ?_
      rotate_left
      · (intro w hSw; (try dsimp only at hSw); (try simp only [List.getElem_toArray, List.getElem_cons_succ, List.getElem_cons_zero]); first | (go_simp; done) | (go_simp; with_reducible rfl))
      try simp only [Act.put, List.getElem_toArray, List.getElem_cons_succ, List.getElem_cons_zero, List.setIfInBounds_toArray, List.set_cons_zero, List.set_cons_succ]
      refine wpAnyH_take (i := 6) (v := ?_) rfl (by kernel_rfl) (by kernel_rfl) (by kernel_rfl) (fun _ _ _ h => h) (Or.inl ⟨by rfl, ?_⟩) (by assumption) ?_
      rotate_left
      · (intro w hSw; (try dsimp only at hSw); (try simp only [List.getElem_toArray, List.getElem_cons_succ, List.getElem_cons_zero]); first | (go_simp; done) | (go_simp; with_reducible rfl))
      try simp only [Act.put, List.getElem_toArray, List.getElem_cons_succ, List.getElem_cons_zero, List.setIfInBounds_toArray, List.set_cons_zero, List.set_cons_succ]
      refine wpAnyH_take (i := 7) (v := ?_) rfl (by kernel_rfl) (by kernel_rfl) (by kernel_rfl) (fun _ _ _ h => h) (Or.inl ⟨by rfl, ?_⟩) (by assumption) ?_
      rotate_left
      · (intro w hSw; (try dsimp only at hSw); (try simp only [List.getElem_toArray, List.getElem_cons_succ, List.getElem_cons_zero]); first | (go_simp; done) | (go_simp; with_reducible rfl))
      try simp only [Act.put, List.getElem_toArray, List.getElem_cons_succ, List.getElem_cons_zero, List.setIfInBounds_toArray, List.set_cons_zero, List.set_cons_succ]
      refine wpAnyH_take (i := 8) (v := ?_) rfl (by kernel_rfl) (by kernel_rfl) (by kernel_rfl) (fun _ _ _ h => h) (Or.inl ⟨by rfl, ?_⟩) (by assumption) ?_
      rotate_left
      · (intro w hSw; (try dsimp only at hSw); (try simp only [List.getElem_toArray, List.getElem_cons_succ, List.getElem_cons_zero]); first | (go_simp; done) | (go_simp; with_reducible rfl))
      try simp only [Act.put, List.getElem_toArray, List.getElem_cons_succ, List.getElem_cons_zero, List.setIfInBounds_toArray, List.set_cons_zero, List.set_cons_succ]
      refine wpAnyH_take (i := 9) (v := ?_) rfl (by kernel_rfl) (by kernel_rfl) (by kernel_rfl) (fun _ _ _ h => h) (Or.inl ⟨by rfl, ?_⟩) (by assumption) ?_
      rotate_left
      · (intro w hSw; (try dsimp only at hSw); (try simp only [List.getElem_toArray, List.getElem_cons_succ, List.getElem_cons_zero]); first | (go_simp; done) | (go_simp; with_reducible rfl))
      try simp only [Act.put, List.getElem_toArray, List.getElem_cons_succ, List.getElem_cons_zero, List.setIfInBounds_toArray, List.set_cons_zero, List.set_cons_succ]
      refine wpAnyH_take (i := 10) (v := ?_) rfl (by kernel_rfl) (by kernel_rfl) (by kernel_rfl) (fun _ _ _ h => h) (Or.inl ⟨by rfl, ?_⟩) (by assumption) ?_
      rotate_left
      · (intro w hSw; (try dsimp only at hSw); (try simp only [List.getElem_toArray, List.getElem_cons_succ, List.getElem_cons_zero]); first | (go_simp; done) | (go_simp; with_reducible rfl))
      try simp only [Act.put, List.getElem_toArray, List.getElem_cons_succ, List.getElem_cons_zero, List.setIfInBounds_toArray, List.set_cons_zero, List.set_cons_succ]
      refine wpAnyH_done (by kernel_rfl) ?_ _
      go_wp2_with fail
      go_roundw
      case rel => exact ⟨k + 1, by omega, by go_num, b50, y0, y1, by have := HB0.out; go_grown, by simpa using hz⟩
      case measure => (simp [intOf]) <;> omega
    · obtain rfl : k = L.length := by omega
      clear hb
      go_wp2_with fail
      go_ret
      exact ⟨rfl, HB0.out⟩
theorem dearer_told {n : Int} {ws : List Wy} {k b N : Int} {L : List Wy} (h : dearerNet n ws k b = some (N, L)) : N = n ∧ ∃ kk : Nat, k = kk ∧ netOk n ws = true ∧ 1 ≤ b ∧ b ≤ 9 ∧ ∃ x, ws[kk]? = some x ∧ x.c + b ≤ 9 ∧ L = ws.set kk (dearW x b) := by
  unfold dearerNet at h
  split at h
  · rename_i hd
    unfold dearerOk at hd
    simp only [Bool.and_eq_true, decide_eq_true_eq] at hd
    obtain ⟨h1, h2, h3, h4, h5⟩ := hd
    obtain ⟨k0, k9⟩ := inB_t h2
    obtain ⟨kk, rfl⟩ := Int.eq_ofNat_of_zero_le k0
    have hlt : kk < ws.length := by omega
    have hx : ws[kk]? = some ws[kk] := List.getElem?_eq_getElem hlt
    have hg : ws.getD kk ⟨0, 0, 0⟩ = ws[kk] := by rw [List.getD_eq_getElem?_getD, hx]; rfl
    rw [Int.toNat_natCast, hg] at h h5
    injection h with h
    injection h with e1 e2
    exact ⟨e1.symm, kk, rfl, h1, h3, h4, ws[kk], hx, h5, e2.symm⟩
  · cases h
/-- what the law says of the dearer net -/
theorem dearer_words {n : Int} {ws : List Wy} {kk : Nat} {x : Wy} {b : Int} (hno : netOk n ws = true) (hx : ws[kk]? = some x) (b1 : 1 ≤ b) (b9 : x.c + b ≤ 9) {e : Int} (he : plOk n e = true) :
    (rootCost n ws e < 0 ∧ rootCost n (ws.set kk (dearW x b)) e < 0 ∧ mustWays n ws e < 0) ∨ (0 ≤ rootCost n ws e ∧ rootCost n ws e ≤ rootCost n (ws.set kk (dearW x b)) e ∧ (rootCost n (ws.set kk (dearW x b)) e ≤ rootCost n ws e + b ∧ rootCost n ws e ≤ 81) ∧ 0 ≤ mustWays n ws e ∧ (bit (mustWays n ws e) kk = true ∨ (bit (mustWays n ws e) kk = false ∧ rootCost n ws e = rootCost n (ws.set kk (dearW x b)) e))) := by
  have hn := netOk_t hno
  have hd := netOk_mk (da_net hn hx (by omega) b9)
  have h := da_rc hn hx (by omega : 0 ≤ b) b9 e
  rw [rootCost_rc hno he, rootCost_rc hd he]
  by_cases hr : rc ws e < 0
  · exact .inl ⟨hr, h.1 hr, by rw [(cost_neg (by rw [rootCost_rc hno he]; exact hr)).2.1]; decide⟩
  · have hr0 : 0 ≤ rc ws e := by omega
    have h2 := h.2 hr0
    have ht := told_cost (n := n) (ws := ws) (e := e) (by rw [rootCost_rc hno he]; exact hr)
    refine .inr ⟨hr0, h2.1, ⟨h2.2, (rc_ge hn e).2⟩, ht.words.1.1, ?_⟩
    cases hb : bit (mustWays n ws e) kk
    · exact .inr ⟨rfl, (da_same hno he hr0 hx (by omega) b9 hb).symm⟩
    · exact .inl rfl
set_option maxRecDepth 100000 in
set_option maxHeartbeats 4000000 in
theorem FnDearerNet_walk (A : Option Addr) (len cap : Nat) (A2 : Option Addr) (len2 cap2 : Nat) (w : World) (hr : RB w w.heap.size A len) (hc : len ≤ cap) (hlen : len ≤ 9223372036854775807)
    (hr2 : RB w w.heap.size A2 len2) (hc2 : len2 ≤ cap2) (hlen2 : len2 ≤ 9223372036854775807) (hT : Tab w) :
    Calls Tryd.prog 7 #[.slice A len cap, .slice A2 len2 cap2] w fun e w' => e = .returned (.bool true) ∧ Below w.heap.size w w' := by
  have HR := Lib.hid hr
  have HR2 := Lib.hid hr2
  have HT := Lib.hid hT
  clear hr hr2 hT
  by_cases hm : 1048576 < len
  · go_enter Tryd.func7, Tryd.ntmps7
    go_wp2_with fail
    go_ret
    exact ⟨rfl, Below.refl _ _⟩
  · by_cases hm2 : 1048576 < len2
    · go_enter Tryd.func7, Tryd.ntmps7
      go_wp2_with fail
      go_ret
      exact ⟨rfl, Below.refl _ _⟩
    · go_enter Tryd.func7, Tryd.ntmps7
      go_wp2_with fail
      refine (DrawDearerNet_any A len cap _ HR.out hc (by omega)).mono ?_
      rintro e wd ⟨nn, kq, bb, A', c', ws, rfl, hrw, hl10, hcc, hn0, hn7, -, -, -, -, hbd⟩
      have HRW := Lib.hid hrw
      have HR2D := Lib.hid (HR2.out.below hbd)
      have HBD := Lib.hid hbd
      have HTD := Lib.hid (HT.out.later hbd)
      have hzd : w.heap.size ≤ wd.heap.size := hbd.size
      clear hrw hbd
      have key : ∃ (N : Int) (L : List Wy) (tb : Bool), ((dearerNet nn ws kq bb = none ∧ N = 0 ∧ L = [] ∧ tb = false) ∨ (dearerNet nn ws kq bb = some (N, L) ∧ tb = true)) := by
        cases h : dearerNet nn ws kq bb with
        | none => exact ⟨0, [], false, .inl ⟨rfl, rfl, rfl, rfl⟩⟩
        | some p => exact ⟨p.1, p.2, true, .inr ⟨rfl, rfl⟩⟩
      obtain ⟨N, L, tb, ho⟩ := key
      have HO := Lib.hid ho
      have hl6 : L.length ≤ 10 := by
        rcases ho with ⟨_, _, rfl, _⟩ | ⟨h, _⟩
        · simp
        · obtain ⟨_, kk, _, hno, _, _, x, hx, _, rfl⟩ := dearer_told h
          rw [da_len]; omega
      have IOK : Hid (∀ (W : World), RW W W.heap.size A' ws → Calls Tryd.prog 32 #[.agg #[.int .i64 nn, .slice A' ws.length c'], .int .i64 kq, .int .i64 bb] W fun en w' => ∃ A1 c1 lo hi, en = .returned (.tuple #[.agg #[.int .i64 N, .slice A1 L.length c1], .bool tb]) ∧ RowF w' lo hi A1 (L.length * 3) (wyF L) ∧ W.heap.size ≤ lo ∧ Below W.heap.size W w') := fun W h => (DearerNet_any nn kq bb A' c' ws W h).mono fun e w' h => newNet_any ho h
      have SOK : Hid (∀ (W : World), RW W W.heap.size A' ws → Calls Tryd.prog 33 #[.agg #[.int .i64 nn, .slice A' ws.length c'], .int .i64 kq, .int .i64 bb] W fun en w' => ∃ A1 c1 lo hi, en = .returned (.tuple #[.agg #[.int .i64 N, .slice A1 L.length c1], .bool tb]) ∧ RowF w' lo hi A1 (L.length * 3) (wyF L) ∧ W.heap.size ≤ lo ∧ Below W.heap.size W w') := fun W h => (sDearerNet_any nn kq bb A' c' ws W h (by omega)).mono fun e w' h => newNet_any ho h
      clear ho
      go_wp2_with fail
      refine (IOK.out _ (HRW.out.later (by go_grown))).mono ?_; rintro e w1 ⟨T1, c1, lo1, hi1, rfl, ht1, hl1, hb1⟩
      obtain ⟨hc1, hf1⟩ := bcell hb1
      have hz1_0 : wd.heap.size < w1.heap.size := by have hq := hb1.size; (try simp at hq); omega
      have HK1 := Lib.hid hb1
      have HB1 := Lib.hid (bstep (B := wd.heap.size) (W := wd) (by (try have hp := HB0.out); go_grown) (by go_size) hb1); clear hb1
      go_wp2_with fail
      refine (SOK.out _ (HRW.out.later (by have := HB1.out; go_grown))).mono ?_; rintro e w2 ⟨T2, c2, lo2, hi2, rfl, ht2, hl2, hb2⟩
      obtain ⟨hc2, hf2⟩ := bcell hb2
      have hz2_0 : wd.heap.size < w2.heap.size := by have hq := hb2.size; (try simp at hq); omega
      have hz2_1 : w1.heap.size < w2.heap.size := by have hq := hb2.size; (try simp at hq); omega
      have HK2 := Lib.hid hb2
      have HB2 := Lib.hid (bstep (B := wd.heap.size) (W := wd) (by have hp := HB1.out; go_grown) (by go_size) hb2); clear hb2
      have a0 : w2.cell? ⟨wd.heap.size, 0, none⟩ = some (.int .i64 nn) := by go_simp
      have a1 : w2.cell? ⟨wd.heap.size, 1, none⟩ = some (.slice A' ws.length c') := by go_simp
      have b0 : w2.cell? ⟨w1.heap.size, 0, none⟩ = some (.int .i64 N) := by go_simp
      have b1 : w2.cell? ⟨w1.heap.size, 1, none⟩ = some (.slice T1 L.length c1) := by go_simp
      have BG := Lib.hid ((Below.refl w2.heap.size w2).alloc (Nat.le_refl _) (.cells #[.int .i64 N, .slice T2 L.length c2] 25))
      have R1 := Lib.hid (((ht1.below ((Below.refl _ _).alloc (Nat.le_refl _) _)).below HK2.out).below BG.out)
      have R2 := Lib.hid (ht2.below BG.out)
      have HBG := Lib.hid (bstep (B := wd.heap.size) (W := wd) HB2.out HB2.out.size BG.out)
      have u0 := (BG.out.cell (p := ⟨wd.heap.size, 0, none⟩) hz2_0).trans a0
      have u1 := (BG.out.cell (p := ⟨wd.heap.size, 1, none⟩) hz2_0).trans a1
      have u2 := (BG.out.cell (p := ⟨w1.heap.size, 0, none⟩) hz2_1).trans b0
      have u3 := (BG.out.cell (p := ⟨w1.heap.size, 1, none⟩) hz2_1).trans b1
      have u4 : (w2.alloc (.cells #[.int .i64 N, .slice T2 L.length c2] 25)).cell? ⟨w2.heap.size, 0, none⟩ = some (.int .i64 N) := cell_of_row _ _ 0 _ _ (0, 0) (heap_alloc_new w2 _)
      have u5 : (w2.alloc (.cells #[.int .i64 N, .slice T2 L.length c2] 25)).cell? ⟨w2.heap.size, 1, none⟩ = some (.slice T2 L.length c2) := cell_of_row _ _ 1 _ _ (0, 0) (heap_alloc_new w2 _)
      clear a0 a1 b0 b1 hc1 hf1 hc2 hf2 ht1 ht2 HK1
      go_wp2_with fail
      refine (sameNet_any N _ _ _ _ L _ R1.out.rw3 R2.out.rw3 (by omega)).mono ?_; rintro e3 w3 ⟨rfl, hb3⟩
      have zg : (w2.alloc (.cells #[.int .i64 N, .slice T2 L.length c2] 25)).heap.size = w2.heap.size + 1 := by simp
      have a0 := (hb3.cell (p := ⟨wd.heap.size, 0, none⟩) (by show wd.heap.size < _; rw [zg]; omega)).trans u0
      have a1 := (hb3.cell (p := ⟨wd.heap.size, 1, none⟩) (by show wd.heap.size < _; rw [zg]; omega)).trans u1
      have b0 := (hb3.cell (p := ⟨w1.heap.size, 0, none⟩) (by show w1.heap.size < _; rw [zg]; omega)).trans u2
      have b1 := (hb3.cell (p := ⟨w1.heap.size, 1, none⟩) (by show w1.heap.size < _; rw [zg]; omega)).trans u3
      have zv0 : wd.heap.size < w3.heap.size := by have := hb3.size; rw [zg] at this; omega
      have zv1 : w1.heap.size < w3.heap.size := by have := hb3.size; rw [zg] at this; omega
      have HB3 := Lib.hid (bstep (B := wd.heap.size) (W := wd) HBG.out HBG.out.size hb3)
      have RXV := Lib.hid (R1.out.below hb3)
      clear hb3 u0 u1 u2 u3 u4 u5 zg R1 R2 BG HK2 HB1 HB2 HBG
      obtain ⟨B1, hB1⟩ : ∃ s, w1.heap.size = s := ⟨_, rfl⟩
      rw [hB1] at b0 b1 zv1
      cases tb
      · obtain ⟨hN, hLL⟩ : N = 0 ∧ L = [] := by
          rcases HO.out with ⟨_, h1, h2, _⟩ | ⟨_, h⟩
          · exact ⟨h1, h2⟩
          · cases h
        subst hN
        subst hLL
        go_wp2_with (rw [hB1])
        refine (alive_any _).mono ?_; rintro e4 w4 ⟨rfl, hb4⟩
        have HB4 := Lib.hid (bstep (B := wd.heap.size) (W := wd) HB3.out (Nat.le_of_lt zv0) hb4)
        clear hb4
        go_wp2_with fail
        go_ret
        exact ⟨rfl, bstep HBD.out hzd HB4.out⟩
      · have hsome : dearerNet nn ws kq bb = some (N, L) := by
          rcases HO.out with ⟨_, _, _, h⟩ | ⟨h, _⟩
          · cases h
          · exact h
        obtain ⟨hNN, kk, hkk, hno, bb1, bb9, x, hx, hxb, hL⟩ := dearer_told hsome
        subst hNN
        subst hkk
        have hni := netOk_t hno
        obtain ⟨m, rfl⟩ : ∃ m : Nat, N = m := ⟨N.toNat, by omega⟩
        have hm6 : m ≤ 6 := by have := hni.hi; omega
        have hm2 : 2 ≤ m := by have := hni.lo; omega
        have hkk0 : (0 : Int) ≤ (kk : Int) := by omega
        have hkkl := (List.getElem?_eq_some_iff.1 hx).1
        have hkk60 : (kk : Int) ≤ 60 := by have := hni.len; omega
        have HNL : Hid (netOk (m : Int) L = true) := by rw [hL]; exact netOk_mk (da_net hni hx (by omega) hxb)
        have HWORD : Hid (∀ e, plOk (m : Int) e = true → (rootCost (m : Int) ws e < 0 ∧ rootCost (m : Int) L e < 0 ∧ mustWays (m : Int) ws e < 0) ∨ (0 ≤ rootCost (m : Int) ws e ∧ rootCost (m : Int) ws e ≤ rootCost (m : Int) L e ∧ (rootCost (m : Int) L e ≤ rootCost (m : Int) ws e + bb ∧ rootCost (m : Int) ws e ≤ 81) ∧ 0 ≤ mustWays (m : Int) ws e ∧ (bit (mustWays (m : Int) ws e) kk = true ∨ (bit (mustWays (m : Int) ws e) kk = false ∧ rootCost (m : Int) ws e = rootCost (m : Int) L e)))) := fun e he => by
          rw [hL]; exact dearer_words hno hx bb1 hxb he
        have hpm := pow_bd (m : Int) 6 (by omega)
        rw [Int.toNat_natCast] at hpm
        have hpl2 : (4 : Int) ≤ 2 ^ m := by
          have h9 := Nat.pow_le_pow_right (n := 2) (by omega) hm2
          have e9 : ((2 : Int) ^ m) = ((2 ^ m : Nat) : Int) := by simp
          omega
        obtain ⟨M, hM⟩ : ∃ M, (2 : Int) ^ m = M := ⟨_, rfl⟩
        rw [hM] at hpm hpl2
        have HPL : Hid (∀ e : Int, 0 ≤ e → e < M → plOk (m : Int) e = true) := fun e h0 h1 => plOk_mk h0 (by rw [Int.toNat_natCast, hM]; exact h1)
        have HV1 : Hid (IntKind.i64.wrap ((2 : Int) ^ m) = M) := by show _ = _; rw [hM]; exact IntWalk.i64_in _ ⟨by omega, by omega⟩
        have HV2 : Hid (wrap64 ((2 : Int) ^ m) = M) := by show _ = _; rw [hM]; exact IntWalk.wrap64_in _ ⟨by omega, by omega⟩
        have HV3 : Hid (IntKind.i64.wrap (M - 1) = M - 1) := IntWalk.i64_in _ ⟨by omega, by omega⟩
        have HV4 : Hid (wrap64 (M - 1) = M - 1) := IntWalk.wrap64_in _ ⟨by omega, by omega⟩
        have hm60 : (m : Int) ≤ 60 := by omega
        have hm0 : (0 : Int) ≤ (m : Int) := by omega
        clear hsome hni hno hx hL hM hxb
        by_cases hl2 : len2 = 0
        · subst hl2
          have HPE := Lib.hid (HPL.out 3 (by decide) (by omega))
          obtain ⟨E, hE⟩ : ∃ E : Int, 3 = E := ⟨_, rfl⟩
          rw [hE] at HPE
          obtain ⟨RA, hRA⟩ : ∃ x, rootCost (m : Int) ws E = x := ⟨_, rfl⟩
          obtain ⟨RB_, hRB⟩ : ∃ x, rootCost (m : Int) L E = x := ⟨_, rfl⟩
          obtain ⟨MU, hMU⟩ : ∃ x, mustWays (m : Int) ws E = x := ⟨_, rfl⟩
          have HRA := Lib.hid hRA
          have HRB := Lib.hid hRB
          have HMU := Lib.hid hMU
          have HCASE := Lib.hid (HWORD.out E HPE.out)
          rw [hRA, hRB, hMU] at HCASE
          clear hRA hRB hMU

          go_wp2_with (rw [hB1])
          rw [hE]
          go_wp2_with fail
          refine (RootCost_any _ _ _ _ _ _ (HRW.out.later HB3.out) (HTD.out.later HB3.out)).mono ?_; rintro e4 w4 ⟨rfl, hb4⟩; rw [HRA.out]
          have q40 := (hb4.cell (p := ⟨wd.heap.size, 0, none⟩) zv0).trans a0
          have q41 := (hb4.cell (p := ⟨wd.heap.size, 1, none⟩) zv0).trans a1
          have q42 := (hb4.cell (p := ⟨B1, 0, none⟩) zv1).trans b0
          have q43 := (hb4.cell (p := ⟨B1, 1, none⟩) zv1).trans b1
          have z40 := Nat.lt_of_lt_of_le zv0 hb4.size
          have z41 := Nat.lt_of_lt_of_le zv1 hb4.size
          have HB4 := Lib.hid (bstep (B := wd.heap.size) (W := wd) HB3.out (Nat.le_of_lt zv0) hb4)
          have RX4 := Lib.hid (RXV.out.below hb4)
          clear hb4 a0 a1 b0 b1
          go_wp2_with fail
          refine (RootCost_any _ _ _ _ _ _ RX4.out.rw3 (HTD.out.later HB4.out)).mono ?_; rintro e5 w5 ⟨rfl, hb5⟩; rw [HRB.out]
          have q50 := (hb5.cell (p := ⟨wd.heap.size, 0, none⟩) z40).trans q40
          have q51 := (hb5.cell (p := ⟨wd.heap.size, 1, none⟩) z40).trans q41
          have q52 := (hb5.cell (p := ⟨B1, 0, none⟩) z41).trans q42
          have q53 := (hb5.cell (p := ⟨B1, 1, none⟩) z41).trans q43
          have z50 := Nat.lt_of_lt_of_le z40 hb5.size
          have z51 := Nat.lt_of_lt_of_le z41 hb5.size
          have HB5 := Lib.hid (bstep (B := wd.heap.size) (W := wd) HB4.out (Nat.le_of_lt z40) hb5)
          have RX5 := Lib.hid (RX4.out.below hb5)
          clear hb5 q40 q41 q42 q43
          go_wp2_with fail
          refine (MustWays_any _ _ _ _ _ _ (HRW.out.later HB5.out) (HTD.out.later HB5.out)).mono ?_; rintro e6 w6 ⟨rfl, hb6⟩; rw [HMU.out]
          have q62 := (hb6.cell (p := ⟨B1, 0, none⟩) z51).trans q52
          have q63 := (hb6.cell (p := ⟨B1, 1, none⟩) z51).trans q53
          have z60 := Nat.lt_of_lt_of_le z50 hb6.size
          have HB6 := Lib.hid (bstep (B := wd.heap.size) (W := wd) HB5.out (Nat.le_of_lt z50) hb6)
          have RX6 := Lib.hid (RX5.out.below hb6)
          clear hb6 q50 q51 q52 q53
          go_wp2_with fail
          refine (NetOk_any _ _ _ _ _ RX6.out.rw3).mono ?_; rintro e7 w7 ⟨rfl, hb7⟩; rw [HNL.out]
          have HB7 := Lib.hid (bstep (B := wd.heap.size) (W := wd) HB6.out (Nat.le_of_lt z60) hb7)
          clear hb7 RX4 RX5 RX6
          rcases HCASE.out with ⟨ha, hb, hmu⟩ | ⟨ha0, hab, habb, hmu0, hbt⟩
          · go_wp2_with fail
            go_ret
            exact ⟨rfl, bstep HBD.out hzd HB7.out⟩
          · have ha1 : ¬ RA < 0 := by omega
            have hmu1 : ¬ MU < 0 := by omega
            have HWS : Hid (IntKind.i64.wrap (RA + bb) = RA + bb) := IntWalk.i64_in _ ⟨by omega, by omega⟩
            have HWS2 : Hid (wrap64 (RA + bb) = RA + bb) := IntWalk.wrap64_in _ ⟨by omega, by omega⟩
            have hqb := (div_pow_bd MU kk hmu0).1
            have hws := HWS.out
            have hws2 := HWS2.out
            rcases hbt with hbt | ⟨hbt, hae⟩
            · have ea := bit_one (i := (kk : Int)) hkk0 hmu0 hbt
              rw [Int.toNat_natCast] at ea
              obtain ⟨ea1, ea2⟩ := ea
              have e1 : (MU / 2 ^ kk % 2 == 1) = true := by rw [ea1]; rfl
              have e2 : ((MU / 2 ^ kk).tmod 2 == 1) = true := by rw [ea2]; rfl
              clear hbt ea1 ea2
              go_wp2_with fail
              go_ret
              exact ⟨rfl, bstep HBD.out hzd HB7.out⟩
            · have ea := bit_zero (i := (kk : Int)) hkk0 hmu0 hbt
              rw [Int.toNat_natCast] at ea
              obtain ⟨ea1, ea2⟩ := ea
              have e1 : (MU / 2 ^ kk % 2 == 1) = false := by rw [ea1]; rfl
              have e2 : ((MU / 2 ^ kk).tmod 2 == 1) = false := by rw [ea2]; rfl
              have e3 : (RA == RB_) = true := by rw [hae]; simp
              clear hbt ea1 ea2 hae
              go_wp2_with fail
              go_ret
              exact ⟨rfl, bstep HBD.out hzd HB7.out⟩
        · obtain ⟨b2, o2, v, ha2, hB2, v0, v1, hv0⟩ := HR2D.out 0 (by omega)
          subst ha2
          rw [Nat.add_zero] at hv0
          have hv := (HB3.out.cell (p := ⟨b2, o2, none⟩) (by show b2 < wd.heap.size; omega)).trans hv0
          have HWV : Hid (IntKind.i64.wrap v = v) := IntWalk.i64_in _ ⟨by omega, by omega⟩
          have HWV2 : Hid (wrap64 v = v) := IntWalk.wrap64_in _ ⟨by omega, by omega⟩
          have HAND : Hid (bits .and .i64 v (M - 1) = iand v (M - 1)) := bits_and _ _ v0 (by omega) (by omega) (by omega)
          have hib := iand_bd2 v (M - 1) (by omega)
          have HPE := Lib.hid (HPL.out (iand v (M - 1)) hib.1 (by omega))
          have hl2p : (0 : Int) < (len2 : Int) := by omega
          have hl2d : decide ((0 : Int) < (len2 : Int)) = true := by simpa using hl2p
          have hl2n : 0 < len2 := Nat.pos_of_ne_zero hl2
          have hl2e : decide (0 < len2) = true := by simpa using hl2n
          obtain ⟨E, hE⟩ : ∃ E : Int, iand v (M - 1) = E := ⟨_, rfl⟩
          rw [hE] at HPE HAND
          clear hib hv0
          obtain ⟨RA, hRA⟩ : ∃ x, rootCost (m : Int) ws E = x := ⟨_, rfl⟩
          obtain ⟨RB_, hRB⟩ : ∃ x, rootCost (m : Int) L E = x := ⟨_, rfl⟩
          obtain ⟨MU, hMU⟩ : ∃ x, mustWays (m : Int) ws E = x := ⟨_, rfl⟩
          have HRA := Lib.hid hRA
          have HRB := Lib.hid hRB
          have HMU := Lib.hid hMU
          have HCASE := Lib.hid (HWORD.out E HPE.out)
          rw [hRA, hRB, hMU] at HCASE
          clear hRA hRB hMU

          have hv1 := HV1.out
          have hv2 := HV2.out
          have hv3 := HV3.out
          have hv4 := HV4.out
          have hwv := HWV.out
          have hwv2 := HWV2.out
          have hand := HAND.out
          go_wp2_with (rw [hB1])
          refine wp_region_held_drew (S := (fun w' => w'.cell? ⟨b2, o2, none⟩ = some (.int .u8 v) ∧ w'.cell? ⟨wd.heap.size, 0, none⟩ = some (.int .i64 m))) (by kernel_rfl) ?_ (fun hHeld => ?_)
          · exact ⟨hv, a0⟩
          refine wpAnyH_take (i := 0) (v := ?_) rfl (by kernel_rfl) (by kernel_rfl) (by kernel_rfl) (fun _ _ _ h => h) (Or.inl ⟨by rfl, ?_⟩) (by assumption) ?_
          rotate_left
          · (intro w hSw; (try dsimp only at hSw); (try simp only [List.getElem_toArray, List.getElem_cons_succ, List.getElem_cons_zero]); first | (go_simp; done) | (go_simp; with_reducible rfl))
          try simp only [Act.put, List.getElem_toArray, List.getElem_cons_succ, List.getElem_cons_zero, List.setIfInBounds_toArray, List.set_cons_zero, List.set_cons_succ]
          refine wpAnyH_take (i := 1) (v := ?_) rfl (by kernel_rfl) (by kernel_rfl) (by kernel_rfl) (fun _ _ _ h => h) (Or.inl ⟨by rfl, ?_⟩) (by assumption) ?_
          rotate_left
          · (intro w hSw; (try dsimp only at hSw); (try simp only [List.getElem_toArray, List.getElem_cons_succ, List.getElem_cons_zero]); first | (go_simp; done) | (go_simp; with_reducible rfl))
          try simp only [Act.put, List.getElem_toArray, List.getElem_cons_succ, List.getElem_cons_zero, List.setIfInBounds_toArray, List.set_cons_zero, List.set_cons_succ]
          refine wpAnyH_take (i := 2) (v := ?_) rfl (by kernel_rfl) (by kernel_rfl) (by kernel_rfl) (fun _ _ _ h => h) (Or.inl ⟨by rfl, ?_⟩) (by assumption) ?_
          rotate_left
          · (intro w hSw; (try dsimp only at hSw); (try simp only [List.getElem_toArray, List.getElem_cons_succ, List.getElem_cons_zero]); first | (go_simp; done) | (go_simp; with_reducible rfl))
          try simp only [Act.put, List.getElem_toArray, List.getElem_cons_succ, List.getElem_cons_zero, List.setIfInBounds_toArray, List.set_cons_zero, List.set_cons_succ]
          refine wpAnyH_take (i := 3) (v := ?_) rfl (by kernel_rfl) (by kernel_rfl) (by kernel_rfl) (fun _ _ _ h => h) (Or.inl ⟨by rfl, ?_⟩) (by assumption) ?_
          rotate_left
          · (intro w hSw; (try dsimp only at hSw); (try simp only [List.getElem_toArray, List.getElem_cons_succ, List.getElem_cons_zero]); first | (go_simp; done) | (go_simp; with_reducible rfl))
          try simp only [Act.put, List.getElem_toArray, List.getElem_cons_succ, List.getElem_cons_zero, List.setIfInBounds_toArray, List.set_cons_zero, List.set_cons_succ]
          refine wpAnyH_take (i := 4) (v := ?_) rfl (by kernel_rfl) (by kernel_rfl) (by kernel_rfl) (fun _ _ _ h => h) (Or.inl ⟨by rfl, ?_⟩) (by assumption) ?_
          rotate_left
          · (intro w hSw; (try dsimp only at hSw); (try simp only [List.getElem_toArray, List.getElem_cons_succ, List.getElem_cons_zero]); first | (go_simp; done) | (go_simp; with_reducible rfl))
          try simp only [Act.put, List.getElem_toArray, List.getElem_cons_succ, List.getElem_cons_zero, List.setIfInBounds_toArray, List.set_cons_zero, List.set_cons_succ]
          refine wpAnyH_take (i := 5) (v := ?_) rfl (by kernel_rfl) (by kernel_rfl) (by kernel_rfl) (fun _ _ _ h => h) (Or.inl ⟨by rfl, ?_⟩) (by assumption) ?_
          rotate_left
          · (intro w hSw; (try dsimp only at hSw); (try simp only [List.getElem_toArray, List.getElem_cons_succ, List.getElem_cons_zero]); first | (go_simp; done) | (go_simp; with_reducible rfl))
          try simp only [Act.put, List.getElem_toArray, List.getElem_cons_succ, List.getElem_cons_zero, List.setIfInBounds_toArray, List.set_cons_zero, List.set_cons_succ]
          refine wpAnyH_take (i := 6) (v := ?_) rfl (by kernel_rfl) (by kernel_rfl) (by kernel_rfl) (fun _ _ _ h => h) (Or.inl ⟨by rfl, ?_⟩) (by assumption) ?_
          rotate_left
          · (intro w hSw; (try dsimp only at hSw); (try simp only [List.getElem_toArray, List.getElem_cons_succ, List.getElem_cons_zero]); first | (go_simp; done) | (go_simp; with_reducible rfl))
          try simp only [Act.put, List.getElem_toArray, List.getElem_cons_succ, List.getElem_cons_zero, List.setIfInBounds_toArray, List.set_cons_zero, List.set_cons_succ]
          refine wpAnyH_take (i := 7) (v := ?_) rfl (by kernel_rfl) (by kernel_rfl) (by kernel_rfl) (fun _ _ _ h => h) (Or.inl ⟨by rfl, ?_⟩) (by assumption) ?_
          rotate_left
          · (intro w hSw; (try dsimp only at hSw); (try simp only [List.getElem_toArray, List.getElem_cons_succ, List.getElem_cons_zero]); first | (go_simp; done) | (go_simp; with_reducible rfl))
          try simp only [Act.put, List.getElem_toArray, List.getElem_cons_succ, List.getElem_cons_zero, List.setIfInBounds_toArray, List.set_cons_zero, List.set_cons_succ]
          refine wpAnyH_take (i := 8) (v := ?_) rfl (by kernel_rfl) (by kernel_rfl) (by kernel_rfl) (fun _ _ _ h => h) (Or.inl ⟨by rfl, ?_⟩) (by assumption) ?_
          rotate_left
          · (intro w hSw; (try dsimp only at hSw); (try simp only [List.getElem_toArray, List.getElem_cons_succ, List.getElem_cons_zero]); first | (go_simp; done) | (go_simp; with_reducible rfl))
          try simp only [Act.put, List.getElem_toArray, List.getElem_cons_succ, List.getElem_cons_zero, List.setIfInBounds_toArray, List.set_cons_zero, List.set_cons_succ]
          refine wpAnyH_take (i := 9) (v := ?_) rfl (by kernel_rfl) (by kernel_rfl) (by kernel_rfl) (fun _ _ _ h => h) (Or.inl ⟨by rfl, ?_⟩) (by assumption) ?_
          rotate_left
          · (intro w hSw; (try dsimp only at hSw); (try simp only [List.getElem_toArray, List.getElem_cons_succ, List.getElem_cons_zero]); first | (go_simp; done) | (go_simp; with_reducible rfl))
          try simp only [Act.put, List.getElem_toArray, List.getElem_cons_succ, List.getElem_cons_zero, List.setIfInBounds_toArray, List.set_cons_zero, List.set_cons_succ]
          refine wpAnyH_done (by kernel_rfl) ?_ _
          clear hv1 hv2 hv3 hv4 hwv hwv2 hand hE
          have HBX : Hid (Below wd.heap.size wd w3.drew) := HB3.out.drew
          have RXW : Hid (RowF w3.drew lo1 hi1 T1 (L.length * 3) (wyF L)) := ⟨fun j hj => RXV.out.at_ j hj, RXV.out.top⟩
          obtain ⟨V, hV⟩ : ∃ V, w3.drew = V := ⟨_, rfl⟩
          have a0' : V.cell? ⟨wd.heap.size, 0, none⟩ = some (.int .i64 m) := by rw [← hV]; exact a0
          have a1' : V.cell? ⟨wd.heap.size, 1, none⟩ = some (.slice A' ws.length c') := by rw [← hV]; exact a1
          have b0' : V.cell? ⟨B1, 0, none⟩ = some (.int .i64 m) := by rw [← hV]; exact b0
          have b1' : V.cell? ⟨B1, 1, none⟩ = some (.slice T1 L.length c1) := by rw [← hV]; exact b1
          have zv0' : wd.heap.size < V.heap.size := by rw [← hV]; exact zv0
          have zv1' : B1 < V.heap.size := by rw [← hV]; exact zv1
          rw [hV] at HBX RXW ⊢
          clear a0 a1 b0 b1 zv0 zv1 hv HB3 RXV hV hHeld
          go_wp2_with fail
          refine (RootCost_any _ _ _ _ _ _ (HRW.out.later HBX.out) (HTD.out.later HBX.out)).mono ?_; rintro e4 w4 ⟨rfl, hb4⟩; rw [HRA.out]
          have q40 := (hb4.cell (p := ⟨wd.heap.size, 0, none⟩) zv0').trans a0'
          have q41 := (hb4.cell (p := ⟨wd.heap.size, 1, none⟩) zv0').trans a1'
          have q42 := (hb4.cell (p := ⟨B1, 0, none⟩) zv1').trans b0'
          have q43 := (hb4.cell (p := ⟨B1, 1, none⟩) zv1').trans b1'
          have z40 := Nat.lt_of_lt_of_le zv0' hb4.size
          have z41 := Nat.lt_of_lt_of_le zv1' hb4.size
          have HB4 := Lib.hid (bstep (B := wd.heap.size) (W := wd) HBX.out (Nat.le_of_lt zv0') hb4)
          have RX4 := Lib.hid (RXW.out.below hb4)
          clear hb4 a0' a1' b0' b1'
          go_wp2_with fail
          refine (RootCost_any _ _ _ _ _ _ RX4.out.rw3 (HTD.out.later HB4.out)).mono ?_; rintro e5 w5 ⟨rfl, hb5⟩; rw [HRB.out]
          have q50 := (hb5.cell (p := ⟨wd.heap.size, 0, none⟩) z40).trans q40
          have q51 := (hb5.cell (p := ⟨wd.heap.size, 1, none⟩) z40).trans q41
          have q52 := (hb5.cell (p := ⟨B1, 0, none⟩) z41).trans q42
          have q53 := (hb5.cell (p := ⟨B1, 1, none⟩) z41).trans q43
          have z50 := Nat.lt_of_lt_of_le z40 hb5.size
          have z51 := Nat.lt_of_lt_of_le z41 hb5.size
          have HB5 := Lib.hid (bstep (B := wd.heap.size) (W := wd) HB4.out (Nat.le_of_lt z40) hb5)
          have RX5 := Lib.hid (RX4.out.below hb5)
          clear hb5 q40 q41 q42 q43
          go_wp2_with fail
          refine (MustWays_any _ _ _ _ _ _ (HRW.out.later HB5.out) (HTD.out.later HB5.out)).mono ?_; rintro e6 w6 ⟨rfl, hb6⟩; rw [HMU.out]
          have q62 := (hb6.cell (p := ⟨B1, 0, none⟩) z51).trans q52
          have q63 := (hb6.cell (p := ⟨B1, 1, none⟩) z51).trans q53
          have z60 := Nat.lt_of_lt_of_le z50 hb6.size
          have HB6 := Lib.hid (bstep (B := wd.heap.size) (W := wd) HB5.out (Nat.le_of_lt z50) hb6)
          have RX6 := Lib.hid (RX5.out.below hb6)
          clear hb6 q50 q51 q52 q53
          go_wp2_with fail
          refine (NetOk_any _ _ _ _ _ RX6.out.rw3).mono ?_; rintro e7 w7 ⟨rfl, hb7⟩; rw [HNL.out]
          have HB7 := Lib.hid (bstep (B := wd.heap.size) (W := wd) HB6.out (Nat.le_of_lt z60) hb7)
          clear hb7 RX4 RX5 RX6
          rcases HCASE.out with ⟨ha, hb, hmu⟩ | ⟨ha0, hab, habb, hmu0, hbt⟩
          · go_wp2_with fail
            go_ret
            exact ⟨rfl, bstep HBD.out hzd HB7.out⟩
          · have ha1 : ¬ RA < 0 := by omega
            have hmu1 : ¬ MU < 0 := by omega
            have HWS : Hid (IntKind.i64.wrap (RA + bb) = RA + bb) := IntWalk.i64_in _ ⟨by omega, by omega⟩
            have HWS2 : Hid (wrap64 (RA + bb) = RA + bb) := IntWalk.wrap64_in _ ⟨by omega, by omega⟩
            have hqb := (div_pow_bd MU kk hmu0).1
            have hws := HWS.out
            have hws2 := HWS2.out
            rcases hbt with hbt | ⟨hbt, hae⟩
            · have ea := bit_one (i := (kk : Int)) hkk0 hmu0 hbt
              rw [Int.toNat_natCast] at ea
              obtain ⟨ea1', ea2⟩ := ea
              have e1 : (MU / 2 ^ kk % 2 == 1) = true := by rw [ea1']; rfl
              have e2 : ((MU / 2 ^ kk).tmod 2 == 1) = true := by rw [ea2]; rfl
              clear hbt ea1' ea2
              go_wp2_with fail
              go_ret
              exact ⟨rfl, bstep HBD.out hzd HB7.out⟩
            · have ea := bit_zero (i := (kk : Int)) hkk0 hmu0 hbt
              rw [Int.toNat_natCast] at ea
              obtain ⟨ea1', ea2⟩ := ea
              have e1 : (MU / 2 ^ kk % 2 == 1) = false := by rw [ea1']; rfl
              have e2 : ((MU / 2 ^ kk).tmod 2 == 1) = false := by rw [ea2]; rfl
              have e3 : (RA == RB_) = true := by rw [hae]; simp
              clear hbt ea1' ea2 hae
              go_wp2_with fail
              go_ret
              exact ⟨rfl, bstep HBD.out hzd HB7.out⟩
end Go.Proofs.YtcfendmhhhggeaaDoor
