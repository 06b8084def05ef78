/- EndLinks, EndTreeCost and EndTreeSet of the model. -/
import Derived.Test.YtcpefijmcajebaaDoorEnD
import Derived.Test.YtcpefijmcajebaaDoorMG
set_option linter.unusedSimpArgs false
set_option linter.unusedVariables false
attribute [local go_sem ↓] Go.wp_at_zero Go.wp_at_succ
namespace Go.Proofs.YtcpefijmcajebaaDoor
open Go.ChangeShapes Go.WideShapes Go.ChangeAt Go.RowKit

noncomputable def endLinks (n : Int) (ws : List Wy) (e : Int) : Option (List (Nat × Nat)) := if (netOk n ws && plOk n e) = true then lnks n.toNat ws e else none
noncomputable def endTreeCost (n : Int) (ws : List Wy) (e : Int) : Int := match endLinks n ws e with
  | none => -1
  | some L => sumL (farF ws n.toNat) L
noncomputable def endTreeSet (n : Int) (ws : List Wy) (e : Int) : Int := match endLinks n ws e with
  | none => -1
  | some L => uni ws L 0
theorem endTreeCost_some {n : Int} {ws : List Wy} {e : Int} {L : List (Nat × Nat)} (h : endLinks n ws e = some L) : endTreeCost n ws e = sumL (farF ws n.toNat) L := by unfold endTreeCost; rw [h]
theorem endTreeCost_none {n : Int} {ws : List Wy} {e : Int} (h : endLinks n ws e = none) : endTreeCost n ws e = -1 := by unfold endTreeCost; rw [h]
theorem endTreeSet_some {n : Int} {ws : List Wy} {e : Int} {L : List (Nat × Nat)} (h : endLinks n ws e = some L) : endTreeSet n ws e = uni ws L 0 := by unfold endTreeSet; rw [h]
theorem endTreeSet_none {n : Int} {ws : List Wy} {e : Int} (h : endLinks n ws e = none) : endTreeSet n ws e = -1 := by unfold endTreeSet; rw [h]
theorem endLinks_told {n : Int} {ws : List Wy} {e : Int} {L : List (Nat × Nat)} (h : endLinks n ws e = some L) : netOk n ws = true ∧ plOk n e = true ∧ lnks n.toNat ws e = some L := by
  unfold endLinks at h
  split at h
  · rename_i hc
    rw [Bool.and_eq_true] at hc
    exact ⟨hc.1, hc.2, h⟩
  · cases h
theorem sumL_append (f : Nat → Nat → Int) : ∀ (A B : List (Nat × Nat)), sumL f (A ++ B) = sumL f A + sumL f B
  | [], B => by simp [sumL]
  | p :: A, B => by rw [List.cons_append, sumL, sumL, sumL_append f A B]; omega
theorem sumL_take (f : Nat → Nat → Int) {L : List (Nat × Nat)} {k : Nat} {p : Nat × Nat} (h : L[k]? = some p) : sumL f (L.take (k + 1)) = sumL f (L.take k) + f p.1 p.2 := by
  rw [List.take_add_one, h, sumL_append]; simp [sumL]
theorem uni_append (ws : List Wy) : ∀ (A B : List (Nat × Nat)) (s : Int), uni ws (A ++ B) s = uni ws B (uni ws A s)
  | [], _, _ => rfl
  | p :: A, B, s => by rw [List.cons_append, uni, uni, uni_append ws A B]
theorem uni_take (ws : List Wy) {L : List (Nat × Nat)} {k : Nat} {p : Nat × Nat} (h : L[k]? = some p) : uni ws (L.take (k + 1)) 0 = ior (uni ws (L.take k) 0) (best ws (both p.1 p.2)) := by
  rw [List.take_add_one, h, uni_append]; rfl
theorem lks_all {f : Nat → Nat → Int} {e : Int} {m : Nat} : ∀ (L : List (Nat × Nat)) (d : Nat) (I : Int), lks f e m d I = some L → ∀ p, p ∈ L → p.1 < m ∧ p.2 < m ∧ 0 ≤ f p.1 p.2
  | L, d, I, h, p, hp => by
    by_cases hIe : I = e
    · subst hIe
      rw [lks_end] at h
      injection h with h
      subst h
      cases hp
    · obtain ⟨d', x, y, L', rfl, _, h2, rfl, hx, hy, h5⟩ := lks_step hIe h
      rcases List.mem_cons.1 hp with rfl | hp
      · exact ⟨hx, hy, (okP_t h5).2.2.2⟩
      · exact lks_all L' d' _ h2 p hp
/-- the links that are told -/
theorem lnks_all {m : Nat} {ws : List Wy} (hn : NetIs (m : Int) ws) {e : Int} (e0 : 0 ≤ e) (e1 : e < 2 ^ m) {L : List (Nat × Nat)} (h : lnks m ws e = some L) : L.length ≤ 6 ∧ (∀ (k : Nat) (p : Nat × Nat), L[k]? = some p → p.1 < m ∧ p.2 < m ∧ 0 ≤ farF ws m p.1 p.2 ∧ farF ws m p.1 p.2 ≤ 1000 ∧ 0 ≤ best ws (both p.1 p.2)) := by
  have h1 := lnks_rc hn e0 e1 h
  have hpa := pop_sub (u := e) (s := allPl m) (fun q hq h => by rw [allPl_bit hq (by omega)]; have := set_sub e0 e1 h; simpa using this)
  rw [pop_allPl (by omega) (by have := hn.hi; omega)] at hpa
  have hps := pop_bd (stE e)
  have h6 := hn.hi
  refine ⟨by omega, fun k p hk => ?_⟩
  obtain ⟨h2, h3, h4⟩ := lks_all L 6 (stE e) h p (List.mem_of_getElem? hk)
  refine ⟨h2, h3, h4, farF_bd hn h2 h3, ?_⟩
  have hr := rc_both hn h2 h3
  unfold rc at hr
  split at hr <;> omega
theorem sumL_bd {m : Nat} {ws : List Wy} {L : List (Nat × Nat)} (h : ∀ (k : Nat) (p : Nat × Nat), L[k]? = some p → p.1 < m ∧ p.2 < m ∧ 0 ≤ farF ws m p.1 p.2 ∧ farF ws m p.1 p.2 ≤ 1000 ∧ 0 ≤ best ws (both p.1 p.2)) : ∀ k : Nat, k ≤ L.length → 0 ≤ sumL (farF ws m) (L.take k) ∧ sumL (farF ws m) (L.take k) ≤ 1000 * k
  | 0, _ => by simp [sumL]
  | k + 1, hk => by
    have ih := sumL_bd h k (by omega)
    obtain ⟨p, hp⟩ : ∃ p, L[k]? = some p := ⟨_, List.getElem?_eq_getElem (by omega)⟩
    have := h k p hp
    rw [sumL_take _ hp]; omega
theorem uni_bd {m : Nat} {ws : List Wy} {L : List (Nat × Nat)} (h : ∀ (k : Nat) (p : Nat × Nat), L[k]? = some p → p.1 < m ∧ p.2 < m ∧ 0 ≤ farF ws m p.1 p.2 ∧ farF ws m p.1 p.2 ≤ 1000 ∧ 0 ≤ best ws (both p.1 p.2)) (h9 : ws.length ≤ 9) : ∀ k : Nat, k ≤ L.length → 0 ≤ uni ws (L.take k) 0 ∧ uni ws (L.take k) 0 ≤ full ws.length
  | 0, _ => by rw [List.take_zero, uni]; exact ⟨Int.le_refl _, (full_bd ws.length h9).1⟩
  | k + 1, hk => by
    have ih := uni_bd h h9 k (by omega)
    obtain ⟨p, hp⟩ : ∃ p, L[k]? = some p := ⟨_, List.getElem?_eq_getElem (by omega)⟩
    have h1 := h k p hp
    have hbb := best_bd ws (both p.1 p.2)
    rw [uni_take _ hp]
    exact ior_full ih.1 ih.2 h1.2.2.2.2 (by unfold full; omega)

set_option maxHeartbeats 2000000 in
theorem sEndLinks_any (n e : Int) (A : Option Addr) (cap : Nat) (ws : List Wy) (w : World) (hr : RW w w.heap.size A ws) (hm : ws.length ≤ 1073741824) :
    Calls Tryd.prog 10 #[.agg #[.int .i64 n, .slice A ws.length cap], .int .i64 e] w (NewLinks (endLinks n ws e) w) := by
  have HR := Lib.hid hr
  clear hr
  unfold endLinks
  cases hn : netOk n ws && plOk n e
  · have HN := Lib.hid hn
    rw [if_neg (by simp)]
    clear hn
    have hbs := noRows
    go_enter Tryd.func10, Tryd.ntmps10
    go_wp2_with fail
    refine (l1EndsOk_any _ _ _ _ _ _ (HR.out.later (by go_grown)) hm).mono ?_; rintro e w1 ⟨rfl, hb1⟩
    rw [HN.out]
    obtain ⟨hc1, hf1⟩ := bcell hb1
    have hz1_0 : w.heap.size < w1.heap.size := by have hq := hb1.size; (try simp at hq); omega
    have HK1 := Lib.hid hb1
    have HB1 := Lib.hid (bstep (B := w.heap.size) (W := w) (by (try have hp := HB0.out); go_grown) (by go_size) hb1); clear hb1
    go_wp2_with fail
    refine bodyPost_ret (v := .tuple #[.slice (some ⟨w1.heap.size, 0, none⟩) 0 0, .bool false]) (by simp [results, Tryd.results10, go_sem]) rfl ?_
    exact ⟨_, _, rfl, by have := HB1.out; go_grown⟩
  · have HN := Lib.hid hn
    obtain ⟨hn1, hn2⟩ : netOk n ws = true ∧ plOk n e = true := by simpa using hn
    have hni := netOk_t hn1
    have HNI := Lib.hid hni
    obtain ⟨he0, he1⟩ := plOk_t hn2
    obtain ⟨m, rfl⟩ := Int.eq_ofNat_of_zero_le (show 0 ≤ n by have := hni.lo; omega)
    rw [if_pos rfl, Int.toNat_natCast]
    rw [Int.toNat_natCast] at he1
    have HE := Lib.hid he1
    obtain ⟨O, hO⟩ : ∃ O, lnks m ws e = O := ⟨_, rfl⟩
    rw [hO]
    have HO := Lib.hid hO
    clear hn hn1 hn2 he1 hni hO
    go_enter Tryd.func10, Tryd.ntmps10
    go_wp2_with fail
    refine (l1EndsOk_any _ _ _ _ _ _ (HR.out.later (by go_grown)) hm).mono ?_; rintro e w1 ⟨rfl, hb1⟩
    rw [HN.out]
    obtain ⟨hc1, hf1⟩ := bcell hb1
    have hz1_0 : w.heap.size < w1.heap.size := by have hq := hb1.size; (try simp at hq); omega
    have HK1 := Lib.hid hb1
    have HB1 := Lib.hid (bstep (B := w.heap.size) (W := w) (by (try have hp := HB0.out); go_grown) (by go_size) hb1); clear hb1
    go_wp2_with fail
    refine (l5Links_any m e A cap ws _ (HR.out.later (by have := HB1.out; go_grown)) HNI.out he0 HE.out).mono ?_
    rw [HO.out]
    intro en w2 hres
    cases O with
    | none =>
      obtain ⟨A1, c1, rfl, hb2⟩ := hres
      go_wp2_with fail
      refine bodyPost_ret (v := .tuple #[.slice A1 0 c1, .bool false]) (by simp [results, Tryd.results10, go_sem]) rfl ?_
      exact ⟨A1, c1, rfl, bstep HB1.out (Nat.le_of_lt hz1_0) hb2⟩
    | some L =>
      obtain ⟨A1, c1, rfl, hl, hb2⟩ := hres
      have hs := HB1.out.size
      go_wp2_with fail
      refine bodyPost_ret (v := .tuple #[.slice A1 L.length c1, .bool true]) (by simp [results, Tryd.results10, go_sem]) rfl ?_
      refine ⟨A1, c1, rfl, hl.imp id ?_, bstep HB1.out (Nat.le_of_lt hz1_0) hb2⟩
      rintro ⟨T, R, C, lo, hi, h1, h2, h3⟩
      exact ⟨T, R, C, lo, hi, h1, h2, by omega⟩
set_option maxRecDepth 100000 in
set_option maxHeartbeats 4000000 in
theorem sEndTreeCost_any (n e : Int) (A : Option Addr) (cap : Nat) (ws : List Wy) (w : World) (hr : RW w w.heap.size A ws) (hm : ws.length ≤ 1073741824) :
    Calls Tryd.prog 17 #[.agg #[.int .i64 n, .slice A ws.length cap], .int .i64 e] w fun en w' => en = .returned (.int .i64 (endTreeCost n ws e)) ∧ Below w.heap.size w w' := by
  have HR := Lib.hid hr
  clear hr
  cases hO : endLinks n ws e with
  | none =>
    rw [endTreeCost_none hO]
    have HO := Lib.hid hO
    clear hO
    go_enter Tryd.func17, Tryd.ntmps17
    go_wp2_with fail
    refine (sEndLinks_any n e A cap ws _ (HR.out.later (by go_grown)) hm).mono ?_
    rw [HO.out]
    rintro en w1 ⟨A1, c1, rfl, hb1⟩
    have HB1 := Lib.hid (bstep (B := w.heap.size) (W := w) (by go_grown) (by go_size) hb1)
    clear hb1
    go_wp2_with fail
    go_ret
    exact ⟨rfl, HB1.out⟩
  | some L =>
    rw [endTreeCost_some hO]
    have HO := Lib.hid hO
    obtain ⟨hn1, hn2, hln⟩ := endLinks_told hO
    have hni := netOk_t hn1
    have HNI := Lib.hid hni
    obtain ⟨he0, he1⟩ := plOk_t hn2
    obtain ⟨m, rfl⟩ := Int.eq_ofNat_of_zero_le (show 0 ≤ n by have := hni.lo; omega)
    rw [Int.toNat_natCast] at he1 hln ⊢
    obtain ⟨hL6, hall⟩ := lnks_all hni he0 he1 hln
    have hsb := sumL_bd hall
    have HALL := Lib.hid hall
    have HSB := Lib.hid hsb
    clear hO hn1 hn2 hln hni he0 he1 hall hsb
    go_enter Tryd.func17, Tryd.ntmps17
    go_wp2_with fail
    refine (sEndLinks_any m e A cap ws _ (HR.out.later (by go_grown)) hm).mono ?_
    rw [HO.out]
    rintro en w1 ⟨A1, c1, rfl, hl, hb1⟩
    have k1 : w1.cell? ⟨w.heap.size, 0, none⟩ = some (.int .i64 m) ∧ w1.cell? ⟨w.heap.size, 1, none⟩ = some (.slice A ws.length cap) := by
      obtain ⟨hc1, hf1⟩ := bcell hb1
      exact ⟨by go_simp, by go_simp⟩
    have hz1 : w.heap.size < w1.heap.size := by have hq := hb1.size; (try simp at hq); omega
    have HB1 := Lib.hid (bstep (B := w.heap.size) (W := w) (by go_grown) (by go_size) hb1)
    clear hb1
    obtain ⟨k10, k11⟩ := k1
    go_wp2_with fail
    refine (l1Far_any m A cap ws _ (HR.out.later HB1.out) HNI.out).mono ?_; rintro en w2 ⟨T, cT, lo, hi, R, C, rfl, htab, hlo, hb2⟩
    have HB2 := Lib.hid (bstep (B := w.heap.size) (W := w) HB1.out (Nat.le_of_lt hz1) hb2)
    rcases hl with rfl | ⟨TL, RL, CL, lo', hi', rfl, htl, hlo'⟩
    · clear hb2 htab
      go_wp2_with fail
      refine wp_loop_rounds 1 ?_
      rw [rounds_succ]
      go_wp2_with fail
      go_ret
      exact ⟨rfl, HB2.out⟩
    · have HTL := Lib.hid (htl.below hb2)
      have HT := Lib.hid htab
      have hs12 := hb2.size
      clear hb2 htab htl
      go_wp2_with fail
      go_loopw [8, 9] (fun c i wr => ∃ (k : Nat) (q : Int), k ≤ L.length ∧ c = .int .i64 q ∧ q = sumL (farF ws m) (L.take k) ∧ i = .int .i64 k ∧ wr.heap = w2.heap ∧ Below w.heap.size w wr) (fun _ i _ => L.length - (intOf i).toNat)
      case atStart => exact ⟨0, 0, Nat.zero_le _, rfl, rfl, rfl, rfl, HB2.out⟩
      case round =>
        obtain ⟨k, q, hk, rfl, hq, rfl, hheap, hb⟩ := hrel
        have HQ := Lib.hid hq
        have HB0 := Lib.hid hb
        have HHP := Lib.hid hheap
        have hqb := HSB.out k hk
        rw [← hq] at hqb
        clear hb hq
        have k0 : (0 : Int) ≤ (k : Int) := by omega
        by_cases hlk : k < L.length
        · have k1 : (k : Int) < (L.length : Int) := by omega
          obtain ⟨p, hp⟩ : ∃ p, L[k]? = some p := ⟨_, List.getElem?_eq_getElem hlk⟩
          obtain ⟨x, y⟩ := p
          obtain ⟨hx, hy, hf0, hf1, -⟩ := HALL.out k (x, y) hp
          have h9 := lkF_at hp
          have cl : ∀ ad, wr.cell? ad = w2.cell? ad := fun ad => by unfold World.cell?; rw [HHP.out]
          have tk : wr.cell? ⟨TL, k, none⟩ = some (.slice (some ⟨RL k, 0, none⟩) 2 (CL k)) := (cl _).trans (HTL.out.top k hlk)
          have g0 : wr.cell? ⟨RL k, 0, none⟩ = some (.int .i64 x) := by rw [cl, (HTL.out.row k 0 hlk (by omega)).1, h9.1]
          have g1 : wr.cell? ⟨RL k, 1, none⟩ = some (.int .i64 y) := by rw [cl, (HTL.out.row k 1 hlk (by omega)).1, h9.2]
          have tx : wr.cell? ⟨T, x, none⟩ = some (.slice (some ⟨R x, 0, none⟩) m (C x)) := (cl _).trans (HT.out.top x hx)
          have rx : wr.cell? ⟨R x, y, none⟩ = some (.int .i64 (farF ws m x y)) := (cl _).trans (HT.out.row x y hx hy).1
          have HSN : Hid (q + farF ws m x y = sumL (farF ws m) (L.take (k + 1))) := by show _ = _; rw [sumL_take _ hp, ← HQ.out]
          obtain ⟨D, hD⟩ : ∃ D, farF ws m x y = D := ⟨_, rfl⟩
          simp only at hf0 hf1
          rw [hD] at rx hf0 hf1 HSN
          have x0 : (0 : Int) ≤ (x : Int) := by omega
          have y0 : (0 : Int) ≤ (y : Int) := by omega
          have xm : (x : Int) < (m : Int) := by omega
          have ym : (y : Int) < (m : Int) := by omega
          clear cl h9 hp hD
          have wq : IntKind.i64.wrap (q + D) = q + D := IntWalk.i64_in _ ⟨by omega, by omega⟩
          have wq2 : wrap64 (q + D) = q + D := IntWalk.wrap64_in _ ⟨by clear wq; omega, by clear wq; omega⟩
          clear hheap
          go_wp2_with fail
          refine wp_region_held_drew (S := (fun w' => w'.cell? ⟨TL, k, none⟩ = some (.slice (some ⟨RL k, 0, none⟩) 2 (CL k)) ∧ w'.cell? ⟨RL k, 0, none⟩ = some (.int .i64 x) ∧ w'.cell? ⟨RL k, 1, none⟩ = some (.int .i64 y) ∧ w'.cell? ⟨T, x, none⟩ = some (.slice (some ⟨R x, 0, none⟩) m (C x)) ∧ w'.cell? ⟨R x, y, none⟩ = some (.int .i64 D))) (by kernel_rfl) ?_ (fun hHeld => ?_)
          · exact ⟨tk, g0, g1, tx, rx⟩
          refine wpAnyH_take (i := 0) (v := ?_) rfl (by kernel_rfl) (by kernel_rfl) (by kernel_rfl) (fun _ _ _ h => h) (Or.inl ⟨by rfl, ?_⟩) (by assumption) ?_
          rotate_left
          · (intro w hSw; (try dsimp only at hSw); (try simp only [List.getElem_toArray, List.getElem_cons_succ, List.getElem_cons_zero]); first | (go_simp; done) | (go_simp; with_reducible rfl))
          try simp only [Act.put, List.getElem_toArray, List.getElem_cons_succ, List.getElem_cons_zero, List.setIfInBounds_toArray, List.set_cons_zero, List.set_cons_succ]
          refine wpAnyH_take (i := 1) (v := ?_) rfl (by kernel_rfl) (by kernel_rfl) (by kernel_rfl) (fun _ _ _ h => h) (Or.inl ⟨by rfl, ?_⟩) (by assumption) ?_
          rotate_left
          · (intro w hSw; (try dsimp only at hSw); (try simp only [List.getElem_toArray, List.getElem_cons_succ, List.getElem_cons_zero]); first | (go_simp; done) | (go_simp; with_reducible rfl))
          try simp only [Act.put, List.getElem_toArray, List.getElem_cons_succ, List.getElem_cons_zero, List.setIfInBounds_toArray, List.set_cons_zero, List.set_cons_succ]
          refine wpAnyH_take (i := 2) (v := ?_) rfl (by kernel_rfl) (by kernel_rfl) (by kernel_rfl) (fun _ _ _ h => h) (Or.inl ⟨by rfl, ?_⟩) (by assumption) ?_
          rotate_left
          · (intro w hSw; (try dsimp only at hSw); (try simp only [List.getElem_toArray, List.getElem_cons_succ, List.getElem_cons_zero]); first | (go_simp; done) | (go_simp; with_reducible rfl))
          try simp only [Act.put, List.getElem_toArray, List.getElem_cons_succ, List.getElem_cons_zero, List.setIfInBounds_toArray, List.set_cons_zero, List.set_cons_succ]
          refine wpAnyH_take (i := 3) (v := ?_) rfl (by kernel_rfl) (by kernel_rfl) (by kernel_rfl) (fun _ _ _ h => h) (Or.inl ⟨by rfl, ?_⟩) (by assumption) ?_
          rotate_left
          · (intro w hSw; (try dsimp only at hSw); (try simp only [List.getElem_toArray, List.getElem_cons_succ, List.getElem_cons_zero]); first | (go_simp; done) | (go_simp; with_reducible rfl))
          try simp only [Act.put, List.getElem_toArray, List.getElem_cons_succ, List.getElem_cons_zero, List.setIfInBounds_toArray, List.set_cons_zero, List.set_cons_succ]
          refine wpAnyH_take (i := 4) (v := ?_) rfl (by kernel_rfl) (by kernel_rfl) (by kernel_rfl) (fun _ _ _ h => h) (Or.inl ⟨by rfl, ?_⟩) (by assumption) ?_
          rotate_left
          · (intro w hSw; (try dsimp only at hSw); (try simp only [List.getElem_toArray, List.getElem_cons_succ, List.getElem_cons_zero]); first | (go_simp; done) | (go_simp; with_reducible rfl))
          try simp only [Act.put, List.getElem_toArray, List.getElem_cons_succ, List.getElem_cons_zero, List.setIfInBounds_toArray, List.set_cons_zero, List.set_cons_succ]
          refine wpAnyH_take (i := 5) (v := ?_) rfl (by kernel_rfl) (by kernel_rfl) (by kernel_rfl) (fun _ _ _ h => h) (Or.inl ⟨by rfl, ?_⟩) (by assumption) ?_
          rotate_left
          · (intro w hSw; (try dsimp only at hSw); (try simp only [List.getElem_toArray, List.getElem_cons_succ, List.getElem_cons_zero]); first | (go_simp; done) | (go_simp; with_reducible rfl))
          try simp only [Act.put, List.getElem_toArray, List.getElem_cons_succ, List.getElem_cons_zero, List.setIfInBounds_toArray, List.set_cons_zero, List.set_cons_succ]
          refine wpAnyH_take (i := 6) (v := ?_) rfl (by kernel_rfl) (by kernel_rfl) (by kernel_rfl) (fun _ _ _ h => h) (Or.inl ⟨by rfl, ?_⟩) (by assumption) ?_
          rotate_left
          · (intro w hSw; (try dsimp only at hSw); (try simp only [List.getElem_toArray, List.getElem_cons_succ, List.getElem_cons_zero]); first | (go_simp; done) | (go_simp; with_reducible rfl))
          try simp only [Act.put, List.getElem_toArray, List.getElem_cons_succ, List.getElem_cons_zero, List.setIfInBounds_toArray, List.set_cons_zero, List.set_cons_succ]
          refine wpAnyH_take (i := 7) (v := ?_) rfl (by kernel_rfl) (by kernel_rfl) (by kernel_rfl) (fun _ _ _ h => h) (Or.inl ⟨by rfl, ?_⟩) (by assumption) ?_
          rotate_left
          · (intro w hSw; (try dsimp only at hSw); (try simp only [List.getElem_toArray, List.getElem_cons_succ, List.getElem_cons_zero]); first | (go_simp; done) | (go_simp; with_reducible rfl))
          try simp only [Act.put, List.getElem_toArray, List.getElem_cons_succ, List.getElem_cons_zero, List.setIfInBounds_toArray, List.set_cons_zero, List.set_cons_succ]
          refine wpAnyH_take (i := 8) (v := ?_) rfl (by kernel_rfl) (by kernel_rfl) (by kernel_rfl) (fun _ _ _ h => h) (Or.inl ⟨by rfl, ?_⟩) (by assumption) ?_
          rotate_left
          · (intro w hSw; (try dsimp only at hSw); (try simp only [List.getElem_toArray, List.getElem_cons_succ, List.getElem_cons_zero]); first | (go_simp; done) | (go_simp; with_reducible rfl))
          try simp only [Act.put, List.getElem_toArray, List.getElem_cons_succ, List.getElem_cons_zero, List.setIfInBounds_toArray, List.set_cons_zero, List.set_cons_succ]
          refine wpAnyH_take (i := 9) (v := ?_) rfl (by kernel_rfl) (by kernel_rfl) (by kernel_rfl) (fun _ _ _ h => h) (Or.inl ⟨by rfl, ?_⟩) (by assumption) ?_
          rotate_left
          · (intro w hSw; (try dsimp only at hSw); (try simp only [List.getElem_toArray, List.getElem_cons_succ, List.getElem_cons_zero]); first | (go_simp; done) | (go_simp; with_reducible rfl))
          try simp only [Act.put, List.getElem_toArray, List.getElem_cons_succ, List.getElem_cons_zero, List.setIfInBounds_toArray, List.set_cons_zero, List.set_cons_succ]
          refine wpAnyH_take (i := 10) (v := ?_) rfl (by kernel_rfl) (by kernel_rfl) (by kernel_rfl) (fun _ _ _ h => h) (Or.inl ⟨by rfl, ?_⟩) (by assumption) ?_
          rotate_left
          · (intro w hSw; (try dsimp only at hSw); (try simp only [List.getElem_toArray, List.getElem_cons_succ, List.getElem_cons_zero]); first | (go_simp; done) | (go_simp; with_reducible rfl))
          try simp only [Act.put, List.getElem_toArray, List.getElem_cons_succ, List.getElem_cons_zero, List.setIfInBounds_toArray, List.set_cons_zero, List.set_cons_succ]
          refine wpAnyH_take (i := 11) (v := ?_) rfl (by kernel_rfl) (by kernel_rfl) (by kernel_rfl) (fun _ _ _ h => h) (Or.inl ⟨by rfl, ?_⟩) (by assumption) ?_
          rotate_left
          · (intro w hSw; (try dsimp only at hSw); (try simp only [List.getElem_toArray, List.getElem_cons_succ, List.getElem_cons_zero]); first | (go_simp; done) | (go_simp; with_reducible rfl))
          try simp only [Act.put, List.getElem_toArray, List.getElem_cons_succ, List.getElem_cons_zero, List.setIfInBounds_toArray, List.set_cons_zero, List.set_cons_succ]
          refine wpAnyH_take (i := 12) (v := ?_) rfl (by kernel_rfl) (by kernel_rfl) (by kernel_rfl) (fun _ _ _ h => h) (Or.inl ⟨by rfl, ?_⟩) (by assumption) ?_
          rotate_left
          · (intro w hSw; (try dsimp only at hSw); (try simp only [List.getElem_toArray, List.getElem_cons_succ, List.getElem_cons_zero]); first | (go_simp; done) | (go_simp; with_reducible rfl))
          try simp only [Act.put, List.getElem_toArray, List.getElem_cons_succ, List.getElem_cons_zero, List.setIfInBounds_toArray, List.set_cons_zero, List.set_cons_succ]
          refine wpAnyH_take (i := 13) (v := ?_) rfl (by kernel_rfl) (by kernel_rfl) (by kernel_rfl) (fun _ _ _ h => h) (Or.inl ⟨by rfl, ?_⟩) (by assumption) ?_
          rotate_left
          · (intro w hSw; (try dsimp only at hSw); (try simp only [List.getElem_toArray, List.getElem_cons_succ, List.getElem_cons_zero]); first | (go_simp; done) | (go_simp; with_reducible rfl))
          try simp only [Act.put, List.getElem_toArray, List.getElem_cons_succ, List.getElem_cons_zero, List.setIfInBounds_toArray, List.set_cons_zero, List.set_cons_succ]
          refine wpAnyH_take (i := 14) (v := ?_) rfl (by kernel_rfl) (by kernel_rfl) (by kernel_rfl) (fun _ _ _ h => h) (Or.inl ⟨by rfl, ?_⟩) (by assumption) ?_
          rotate_left
          · (intro w hSw; (try dsimp only at hSw); (try simp only [List.getElem_toArray, List.getElem_cons_succ, List.getElem_cons_zero]); first | (go_simp; done) | (go_simp; with_reducible rfl))
          try simp only [Act.put, List.getElem_toArray, List.getElem_cons_succ, List.getElem_cons_zero, List.setIfInBounds_toArray, List.set_cons_zero, List.set_cons_succ]
          refine wpAnyH_take (i := 15) (v := ?_) rfl (by kernel_rfl) (by kernel_rfl) (by kernel_rfl) (fun _ _ _ h => h) (Or.inl ⟨by rfl, ?_⟩) (by assumption) ?_
          rotate_left
          · (intro w hSw; (try dsimp only at hSw); (try simp only [List.getElem_toArray, List.getElem_cons_succ, List.getElem_cons_zero]); first | (go_simp; done) | (go_simp; with_reducible rfl))
          try simp only [Act.put, List.getElem_toArray, List.getElem_cons_succ, List.getElem_cons_zero, List.setIfInBounds_toArray, List.set_cons_zero, List.set_cons_succ]
          refine wpAnyH_take (i := 16) (v := ?_) rfl (by kernel_rfl) (by kernel_rfl) (by kernel_rfl) (fun _ _ _ h => h) (Or.inl ⟨by rfl, ?_⟩) (by assumption) ?_
          rotate_left
          · (intro w hSw; (try dsimp only at hSw); (try simp only [List.getElem_toArray, List.getElem_cons_succ, List.getElem_cons_zero]); first | (go_simp; done) | (go_simp; with_reducible rfl))
          try simp only [Act.put, List.getElem_toArray, List.getElem_cons_succ, List.getElem_cons_zero, List.setIfInBounds_toArray, List.set_cons_zero, List.set_cons_succ]
          refine wpAnyH_take (i := 17) (v := ?_) rfl (by kernel_rfl) (by kernel_rfl) (by kernel_rfl) (fun _ _ _ h => h) (Or.inl ⟨by rfl, ?_⟩) (by assumption) ?_
          rotate_left
          · (intro w hSw; (try dsimp only at hSw); (try simp only [List.getElem_toArray, List.getElem_cons_succ, List.getElem_cons_zero]); first | (go_simp; done) | (go_simp; with_reducible rfl))
          try simp only [Act.put, List.getElem_toArray, List.getElem_cons_succ, List.getElem_cons_zero, List.setIfInBounds_toArray, List.set_cons_zero, List.set_cons_succ]
          refine wpAnyH_take (i := 18) (v := ?_) rfl (by kernel_rfl) (by kernel_rfl) (by kernel_rfl) (fun _ _ _ h => h) (Or.inl ⟨by rfl, ?_⟩) (by assumption) ?_
          rotate_left
          · (intro w hSw; (try dsimp only at hSw); (try simp only [List.getElem_toArray, List.getElem_cons_succ, List.getElem_cons_zero]); first | (go_simp; done) | (go_simp; with_reducible rfl))
          try simp only [Act.put, List.getElem_toArray, List.getElem_cons_succ, List.getElem_cons_zero, List.setIfInBounds_toArray, List.set_cons_zero, List.set_cons_succ]
          refine wpAnyH_take (i := 19) (v := ?_) rfl (by kernel_rfl) (by kernel_rfl) (by kernel_rfl) (fun _ _ _ h => h) (Or.inl ⟨by rfl, ?_⟩) (by assumption) ?_
          rotate_left
          · (intro w hSw; (try dsimp only at hSw); (try simp only [List.getElem_toArray, List.getElem_cons_succ, List.getElem_cons_zero]); first | (go_simp; done) | (go_simp; with_reducible rfl))
          try simp only [Act.put, List.getElem_toArray, List.getElem_cons_succ, List.getElem_cons_zero, List.setIfInBounds_toArray, List.set_cons_zero, List.set_cons_succ]
          refine wpAnyH_done (by kernel_rfl) ?_ _
          clear wq wq2 tk g0 g1 tx rx
          go_wp2_with fail
          go_roundw
          case rel => exact ⟨k + 1, q + D, by omega, by go_num, HSN.out, by go_num, HHP.out, ⟨HB0.out.os, HB0.out.tape, HB0.out.output, HB0.out.size, HB0.out.block⟩⟩
          case measure => (simp [intOf]) <;> omega
        · obtain rfl : k = L.length := by omega
          have hfin : q = sumL (farF ws m) L := by rw [HQ.out, List.take_length]
          have HFIN := Lib.hid hfin
          clear hheap hfin
          go_wp2_with fail
          go_ret
          exact ⟨ret_int HFIN.out, HB0.out⟩
set_option maxRecDepth 100000 in
set_option maxHeartbeats 4000000 in
theorem sEndTreeSet_any (n e : Int) (A : Option Addr) (cap : Nat) (ws : List Wy) (w : World) (hr : RW w w.heap.size A ws) (hm : ws.length ≤ 1073741824) :
    Calls Tryd.prog 20 #[.agg #[.int .i64 n, .slice A ws.length cap], .int .i64 e] w fun en w' => en = .returned (.int .i64 (endTreeSet n ws e)) ∧ Below w.heap.size w w' := by
  have HR := Lib.hid hr
  clear hr
  cases hO : endLinks n ws e with
  | none =>
    rw [endTreeSet_none hO]
    have HO := Lib.hid hO
    clear hO
    go_enter Tryd.func20, Tryd.ntmps20
    go_wp2_with fail
    refine (sEndLinks_any n e A cap ws _ (HR.out.later (by go_grown)) hm).mono ?_
    rw [HO.out]
    rintro en w1 ⟨A1, c1, rfl, hb1⟩
    have HB1 := Lib.hid (bstep (B := w.heap.size) (W := w) (by go_grown) (by go_size) hb1)
    clear hb1
    go_wp2_with fail
    go_ret
    exact ⟨rfl, HB1.out⟩
  | some L =>
    rw [endTreeSet_some hO]
    have HO := Lib.hid hO
    obtain ⟨hn1, hn2, hln⟩ := endLinks_told hO
    have hni := netOk_t hn1
    have HNI := Lib.hid hni
    have hl9 := hni.len
    obtain ⟨he0, he1⟩ := plOk_t hn2
    obtain ⟨m, rfl⟩ := Int.eq_ofNat_of_zero_le (show 0 ≤ n by have := hni.lo; omega)
    have hm6 : m ≤ 6 := by have := hni.hi; omega
    rw [Int.toNat_natCast] at he1 hln
    obtain ⟨hL6, hall⟩ := lnks_all hni he0 he1 hln
    have hub := uni_bd hall hni.len
    have hfb := full_bd ws.length hl9
    have HALL := Lib.hid hall
    have HUB : Hid (∀ k : Nat, k ≤ L.length → 0 ≤ uni ws (L.take k) 0 ∧ uni ws (L.take k) 0 ≤ 511) := fun k hk => by
      have := hub k hk
      omega
    clear hO hn1 hn2 hln hni he0 he1 hall hub hfb
    go_enter Tryd.func20, Tryd.ntmps20
    go_wp2_with fail
    refine (sEndLinks_any m e A cap ws _ (HR.out.later (by go_grown)) hm).mono ?_
    rw [HO.out]
    rintro en w1 ⟨A1, c1, rfl, hl, hb1⟩
    have k1 : w1.cell? ⟨w.heap.size, 0, none⟩ = some (.int .i64 m) ∧ w1.cell? ⟨w.heap.size, 1, none⟩ = some (.slice A ws.length cap) := by
      obtain ⟨hc1, hf1⟩ := bcell hb1
      exact ⟨by go_simp, by go_simp⟩
    have hz1 : w.heap.size < w1.heap.size := by have hq := hb1.size; (try simp at hq); omega
    have HB1 := Lib.hid (bstep (B := w.heap.size) (W := w) (by go_grown) (by go_size) hb1)
    clear hb1
    obtain ⟨k10, k11⟩ := k1
    rcases hl with rfl | ⟨TL, RL, CL, lo', hi', rfl, htl, hlo'⟩
    · go_wp2_with fail
      refine wp_loop_rounds 1 ?_
      rw [rounds_succ]
      go_wp2_with fail
      go_ret
      exact ⟨rfl, HB1.out⟩
    · have HTL := Lib.hid htl
      clear htl
      go_wp2_with fail
      go_loopw [7, 8] (fun c i wr => ∃ (k : Nat) (q : Int), k ≤ L.length ∧ c = .int .i64 q ∧ q = uni ws (L.take k) 0 ∧ i = .int .i64 k ∧ wr.cell? ⟨w.heap.size, 0, none⟩ = some (.int .i64 m) ∧ wr.cell? ⟨w.heap.size, 1, none⟩ = some (.slice A ws.length cap) ∧ Below w.heap.size w wr ∧ w.heap.size < wr.heap.size ∧ TabR wr lo' hi' TL L.length 2 RL CL (lkF L)) (fun _ i _ => L.length - (intOf i).toNat)
      case atStart => exact ⟨0, 0, Nat.zero_le _, rfl, rfl, rfl, k10, k11, HB1.out, hz1, HTL.out⟩
      case round =>
        clear k10 k11 HTL
        obtain ⟨k, q, hk, rfl, hq, rfl, b0, b1, hb, hz, htl⟩ := hrel
        have HQ := Lib.hid hq
        have HB0 := Lib.hid hb
        have HTL := Lib.hid htl
        have HRR := Lib.hid (HR.out.later hb)
        have hqb := HUB.out k hk
        rw [← hq] at hqb
        clear hb hq htl
        have k0 : (0 : Int) ≤ (k : Int) := by omega
        by_cases hlk : k < L.length
        · have k1 : (k : Int) < (L.length : Int) := by omega
          obtain ⟨p, hp⟩ : ∃ p, L[k]? = some p := ⟨_, List.getElem?_eq_getElem hlk⟩
          obtain ⟨x, y⟩ := p
          obtain ⟨hx, hy, -, -, hbe⟩ := HALL.out k (x, y) hp
          simp only at hx hy hbe
          have h9 := lkF_at hp
          have tk : wr.cell? ⟨TL, k, none⟩ = some (.slice (some ⟨RL k, 0, none⟩) 2 (CL k)) := HTL.out.top k hlk
          have g0 : wr.cell? ⟨RL k, 0, none⟩ = some (.int .i64 x) := by rw [(HTL.out.row k 0 hlk (by omega)).1, h9.1]
          have g1 : wr.cell? ⟨RL k, 1, none⟩ = some (.int .i64 y) := by rw [(HTL.out.row k 1 hlk (by omega)).1, h9.2]
          have hzT : TL < wr.heap.size := Nat.lt_of_lt_of_le HTL.out.los.2 HTL.out.his
          have hzR : RL k < wr.heap.size := Nat.lt_of_lt_of_le (HTL.out.rlo k hlk).2 HTL.out.his
          have x5 : x ≤ 5 := by omega
          have y5 : y ≤ 5 := by omega
          have x0 : (0 : Int) ≤ (x : Int) := by omega
          have y0 : (0 : Int) ≤ (y : Int) := by omega
          have px := pow_bd (x : Int) 5 (by omega)
          have py := pow_bd (y : Int) 5 (by omega)
          rw [Int.toNat_natCast] at px py
          have HWX : Hid (IntKind.i64.wrap (2 ^ x) = 2 ^ x) := IntWalk.i64_in _ ⟨by omega, by omega⟩
          have HWX2 : Hid (wrap64 (2 ^ x) = 2 ^ x) := IntWalk.wrap64_in _ ⟨by omega, by omega⟩
          have HWY : Hid (IntKind.i64.wrap (2 ^ y) = 2 ^ y) := IntWalk.i64_in _ ⟨by omega, by omega⟩
          have HWY2 : Hid (wrap64 (2 ^ y) = 2 ^ y) := IntWalk.wrap64_in _ ⟨by omega, by omega⟩
          have hbo := both_bd (n := (m : Int)) (a := (x : Int)) (b := (y : Int)) (by omega) (by omega) (by omega) (by omega)
          have hor : bits .or .i64 (2 ^ x) (2 ^ y) = both x y := by
            rw [bits_or _ _ (by omega) (by omega) (by omega) (by omega)]
            unfold both
            rw [Int.toNat_natCast, Int.toNat_natCast]
          have hbb := best_bd ws (both (x : Int) y)
          have hpl := pow_bd (ws.length : Int) 9 (by omega)
          rw [Int.toNat_natCast] at hpl
          have hor2 : bits .or .i64 q (best ws (both (x : Int) y)) = ior q (best ws (both (x : Int) y)) := bits_or _ _ hqb.1 (by omega) hbe (by omega)
          have HSN : Hid (ior q (best ws (both (x : Int) y)) = uni ws (L.take (k + 1)) 0) := by show _ = _; rw [uni_take _ hp, ← HQ.out]
          have hbo0 := hbo.1
          have HBO := Lib.hid hbo.2
          obtain ⟨E, hE⟩ : ∃ E, both (x : Int) y = E := ⟨_, rfl⟩
          rw [hE] at hor hor2 HSN HBO hbo0
          obtain ⟨Z, hZ⟩ : ∃ Z, best ws E = Z := ⟨_, rfl⟩
          rw [hZ] at hor2 HSN
          have HZ := Lib.hid hZ
          obtain ⟨U, hU⟩ : ∃ U, ior q Z = U := ⟨_, rfl⟩
          rw [hU] at hor2 HSN
          clear h9 hp px py hbo hbb hpl hE hZ hU hbe hx hy
          have wx := HWX.out
          have wx2 := HWX2.out
          have wy := HWY.out
          have wy2 := HWY2.out
          go_wp2_with fail
          refine wp_region_held_drew (S := (fun w' => w'.cell? ⟨w.heap.size, 0, none⟩ = some (.int .i64 m) ∧ w'.cell? ⟨w.heap.size, 1, none⟩ = some (.slice A ws.length cap) ∧ w'.cell? ⟨TL, k, none⟩ = some (.slice (some ⟨RL k, 0, none⟩) 2 (CL k)) ∧ w'.cell? ⟨RL k, 0, none⟩ = some (.int .i64 x) ∧ w'.cell? ⟨RL k, 1, none⟩ = some (.int .i64 y))) (by kernel_rfl) ?_ (fun hHeld => ?_)
          · exact ⟨b0, b1, tk, g0, g1⟩
          refine wpAnyH_take (i := 0) (v := ?_) rfl (by kernel_rfl) (by kernel_rfl) (by kernel_rfl) (fun _ _ _ h => h) (Or.inl ⟨by rfl, ?_⟩) (by assumption) ?_
          rotate_left
          · (intro w hSw; (try dsimp only at hSw); (try simp only [List.getElem_toArray, List.getElem_cons_succ, List.getElem_cons_zero]); first | (go_simp; done) | (go_simp; with_reducible rfl))
          try simp only [Act.put, List.getElem_toArray, List.getElem_cons_succ, List.getElem_cons_zero, List.setIfInBounds_toArray, List.set_cons_zero, List.set_cons_succ]
          refine wpAnyH_take (i := 1) (v := ?_) rfl (by kernel_rfl) (by kernel_rfl) (by kernel_rfl) (fun _ _ _ h => h) (Or.inl ⟨by rfl, ?_⟩) (by assumption) ?_
          rotate_left
          · (intro w hSw; (try dsimp only at hSw); (try simp only [List.getElem_toArray, List.getElem_cons_succ, List.getElem_cons_zero]); first | (go_simp; done) | (go_simp; with_reducible rfl))
          try simp only [Act.put, List.getElem_toArray, List.getElem_cons_succ, List.getElem_cons_zero, List.setIfInBounds_toArray, List.set_cons_zero, List.set_cons_succ]
          refine wpAnyH_take (i := 2) (v := ?_) rfl (by kernel_rfl) (by kernel_rfl) (by kernel_rfl) (fun _ _ _ h => h) (Or.inl ⟨by rfl, ?_⟩) (by assumption) ?_
          rotate_left
          · (intro w hSw; (try dsimp only at hSw); (try simp only [List.getElem_toArray, List.getElem_cons_succ, List.getElem_cons_zero]); first | (go_simp; done) | (go_simp; with_reducible rfl))
          try simp only [Act.put, List.getElem_toArray, List.getElem_cons_succ, List.getElem_cons_zero, List.setIfInBounds_toArray, List.set_cons_zero, List.set_cons_succ]
          refine wpAnyH_take (i := 3) (v := ?_) rfl (by kernel_rfl) (by kernel_rfl) (by kernel_rfl) (fun _ _ _ h => h) (Or.inl ⟨by rfl, ?_⟩) (by assumption) ?_
          rotate_left
          · (intro w hSw; (try dsimp only at hSw); (try simp only [List.getElem_toArray, List.getElem_cons_succ, List.getElem_cons_zero]); first | (go_simp; done) | (go_simp; with_reducible rfl))
          try simp only [Act.put, List.getElem_toArray, List.getElem_cons_succ, List.getElem_cons_zero, List.setIfInBounds_toArray, List.set_cons_zero, List.set_cons_succ]
          refine wpAnyH_take (i := 4) (v := ?_) rfl (by kernel_rfl) (by kernel_rfl) (by kernel_rfl) (fun _ _ _ h => h) (Or.inl ⟨by rfl, ?_⟩) (by assumption) ?_
          rotate_left
          · (intro w hSw; (try dsimp only at hSw); (try simp only [List.getElem_toArray, List.getElem_cons_succ, List.getElem_cons_zero]); first | (go_simp; done) | (go_simp; with_reducible rfl))
          try simp only [Act.put, List.getElem_toArray, List.getElem_cons_succ, List.getElem_cons_zero, List.setIfInBounds_toArray, List.set_cons_zero, List.set_cons_succ]
          refine wpAnyH_take (i := 5) (v := ?_) rfl (by kernel_rfl) (by kernel_rfl) (by kernel_rfl) (fun _ _ _ h => h) (Or.inl ⟨by rfl, ?_⟩) (by assumption) ?_
          rotate_left
          · (intro w hSw; (try dsimp only at hSw); (try simp only [List.getElem_toArray, List.getElem_cons_succ, List.getElem_cons_zero]); first | (go_simp; done) | (go_simp; with_reducible rfl))
          try simp only [Act.put, List.getElem_toArray, List.getElem_cons_succ, List.getElem_cons_zero, List.setIfInBounds_toArray, List.set_cons_zero, List.set_cons_succ]
          refine wpAnyH_take (i := 6) (v := ?_) rfl (by kernel_rfl) (by kernel_rfl) (by kernel_rfl) (fun _ _ _ h => h) (Or.inl ⟨by rfl, ?_⟩) (by assumption) ?_
          rotate_left
          · (intro w hSw; (try dsimp only at hSw); (try simp only [List.getElem_toArray, List.getElem_cons_succ, List.getElem_cons_zero]); first | (go_simp; done) | (go_simp; with_reducible rfl))
          try simp only [Act.put, List.getElem_toArray, List.getElem_cons_succ, List.getElem_cons_zero, List.setIfInBounds_toArray, List.set_cons_zero, List.set_cons_succ]
          refine wpAnyH_take (i := 7) (v := ?_) rfl (by kernel_rfl) (by kernel_rfl) (by kernel_rfl) (fun _ _ _ h => h) (Or.inl ⟨by rfl, ?_⟩) (by assumption) ?_
          rotate_left
          · (intro w hSw; (try dsimp only at hSw); (try simp only [List.getElem_toArray, List.getElem_cons_succ, List.getElem_cons_zero]); first | (go_simp; done) | (go_simp; with_reducible rfl))
          try simp only [Act.put, List.getElem_toArray, List.getElem_cons_succ, List.getElem_cons_zero, List.setIfInBounds_toArray, List.set_cons_zero, List.set_cons_succ]
          refine wpAnyH_take (i := 8) (v := ?_) rfl (by kernel_rfl) (by kernel_rfl) (by kernel_rfl) (fun _ _ _ h => h) (Or.inl ⟨by rfl, ?_⟩) (by assumption) ?_
          rotate_left
          · (intro w hSw; (try dsimp only at hSw); (try simp only [List.getElem_toArray, List.getElem_cons_succ, List.getElem_cons_zero]); first | (go_simp; done) | (go_simp; with_reducible rfl))
          try simp only [Act.put, List.getElem_toArray, List.getElem_cons_succ, List.getElem_cons_zero, List.setIfInBounds_toArray, List.set_cons_zero, List.set_cons_succ]
          refine wpAnyH_take (i := 9) (v := ?_) rfl (by kernel_rfl) (by kernel_rfl) (by kernel_rfl) (fun _ _ _ h => h) (Or.inl ⟨by rfl, ?_⟩) (by assumption) ?_
          rotate_left
          · (intro w hSw; (try dsimp only at hSw); (try simp only [List.getElem_toArray, List.getElem_cons_succ, List.getElem_cons_zero]); first | (go_simp; done) | (go_simp; with_reducible rfl))
          try simp only [Act.put, List.getElem_toArray, List.getElem_cons_succ, List.getElem_cons_zero, List.setIfInBounds_toArray, List.set_cons_zero, List.set_cons_succ]
          refine wpAnyH_take (i := 10) (v := ?_) rfl (by kernel_rfl) (by kernel_rfl) (by kernel_rfl) (fun _ _ _ h => h) (Or.inl ⟨by rfl, ?_⟩) (by assumption) ?_
          rotate_left
          · (intro w hSw; (try dsimp only at hSw); (try simp only [List.getElem_toArray, List.getElem_cons_succ, List.getElem_cons_zero]); first | (go_simp; done) | (go_simp; with_reducible rfl))
          try simp only [Act.put, List.getElem_toArray, List.getElem_cons_succ, List.getElem_cons_zero, List.setIfInBounds_toArray, List.set_cons_zero, List.set_cons_succ]
          refine wpAnyH_take (i := 11) (v := ?_) rfl (by kernel_rfl) (by kernel_rfl) (by kernel_rfl) (fun _ _ _ h => h) (Or.inl ⟨by rfl, ?_⟩) (by assumption) ?_
          rotate_left
          · (intro w hSw; (try dsimp only at hSw); (try simp only [List.getElem_toArray, List.getElem_cons_succ, List.getElem_cons_zero]); first | (go_simp; done) | (go_simp; with_reducible rfl))
          try simp only [Act.put, List.getElem_toArray, List.getElem_cons_succ, List.getElem_cons_zero, List.setIfInBounds_toArray, List.set_cons_zero, List.set_cons_succ]
          refine wpAnyH_take (i := 12) (v := ?_) rfl (by kernel_rfl) (by kernel_rfl) (by kernel_rfl) (fun _ _ _ h => h) (Or.inl ⟨by rfl, ?_⟩) (by assumption) ?_
          rotate_left
          · (intro w hSw; (try dsimp only at hSw); (try simp only [List.getElem_toArray, List.getElem_cons_succ, List.getElem_cons_zero]); first | (go_simp; done) | (go_simp; with_reducible rfl))
          try simp only [Act.put, List.getElem_toArray, List.getElem_cons_succ, List.getElem_cons_zero, List.setIfInBounds_toArray, List.set_cons_zero, List.set_cons_succ]
          refine wpAnyH_take (i := 13) (v := ?_) rfl (by kernel_rfl) (by kernel_rfl) (by kernel_rfl) (fun _ _ _ h => h) (Or.inl ⟨by rfl, ?_⟩) (by assumption) ?_
          rotate_left
          · (intro w hSw; (try dsimp only at hSw); (try simp only [List.getElem_toArray, List.getElem_cons_succ, List.getElem_cons_zero]); first | (go_simp; done) | (go_simp; with_reducible rfl))
          try simp only [Act.put, List.getElem_toArray, List.getElem_cons_succ, List.getElem_cons_zero, List.setIfInBounds_toArray, List.set_cons_zero, List.set_cons_succ]
          refine wpAnyH_take (i := 14) (v := ?_) rfl (by kernel_rfl) (by kernel_rfl) (by kernel_rfl) (fun _ _ _ h => h) (Or.inl ⟨by rfl, ?_⟩) (by assumption) ?_
          rotate_left
          · (intro w hSw; (try dsimp only at hSw); (try simp only [List.getElem_toArray, List.getElem_cons_succ, List.getElem_cons_zero]); first | (go_simp; done) | (go_simp; with_reducible rfl))
          try simp only [Act.put, List.getElem_toArray, List.getElem_cons_succ, List.getElem_cons_zero, List.setIfInBounds_toArray, List.set_cons_zero, List.set_cons_succ]
          refine wpAnyH_take (i := 15) (v := ?_) rfl (by kernel_rfl) (by kernel_rfl) (by kernel_rfl) (fun _ _ _ h => h) (Or.inl ⟨by rfl, ?_⟩) (by assumption) ?_
          rotate_left
          · (intro w hSw; (try dsimp only at hSw); (try simp only [List.getElem_toArray, List.getElem_cons_succ, List.getElem_cons_zero]); first | (go_simp; done) | (go_simp; with_reducible rfl))
          try simp only [Act.put, List.getElem_toArray, List.getElem_cons_succ, List.getElem_cons_zero, List.setIfInBounds_toArray, List.set_cons_zero, List.set_cons_succ]
          refine wpAnyH_take (i := 16) (v := ?_) rfl (by kernel_rfl) (by kernel_rfl) (by kernel_rfl) (fun _ _ _ h => h) (Or.inl ⟨by rfl, ?_⟩) (by assumption) ?_
          rotate_left
          · (intro w hSw; (try dsimp only at hSw); (try simp only [List.getElem_toArray, List.getElem_cons_succ, List.getElem_cons_zero]); first | (go_simp; done) | (go_simp; with_reducible rfl))
          try simp only [Act.put, List.getElem_toArray, List.getElem_cons_succ, List.getElem_cons_zero, List.setIfInBounds_toArray, List.set_cons_zero, List.set_cons_succ]
          refine wpAnyH_ready (rs := [17]) (by kernel_rfl) (by simp) ?_
          refine AllReadyH.cons rfl (fun K hK => ?_) AllReadyH.nil
          try simp only [List.getElem_toArray, List.getElem_cons_succ, List.getElem_cons_zero]
          go_simp
          go_at_call 42; refine (l1Best_any m E A cap ws _ (HRR.out.drewNR _) HNI.out hbo0 HBO.out).mono ?_; rintro e4 w4 ⟨rfl, hb4⟩; rw [HZ.out]; have g4 : Below wr.heap.size wr w4 := und hb4; have k4 : _ ∧ _ ∧ _ ∧ _ ∧ _ := ⟨(g4.cell (p := ⟨w.heap.size, 0, none⟩) hz).trans b0, (g4.cell (p := ⟨w.heap.size, 1, none⟩) hz).trans b1, (g4.cell (p := ⟨TL, k, none⟩) hzT).trans tk, (g4.cell (p := ⟨RL k, 0, none⟩) hzR).trans g0, (g4.cell (p := ⟨RL k, 1, none⟩) hzR).trans g1⟩
          refine hK.out _ _ ?_ (fun hHeld => ?_)
          · exact k4
          clear hK K
          try simp only [Act.put, List.getElem_toArray, List.getElem_cons_succ, List.getElem_cons_zero, List.setIfInBounds_toArray, List.set_cons_zero, List.set_cons_succ]
          refine wpAnyH_take (i := 18) (v := ?_) rfl (by kernel_rfl) (by kernel_rfl) (by kernel_rfl) (fun _ _ _ h => h) (Or.inl ⟨by rfl, ?_⟩) (by assumption) ?_
          rotate_left
          · (intro w hSw; (try dsimp only at hSw); (try simp only [List.getElem_toArray, List.getElem_cons_succ, List.getElem_cons_zero]); first | (go_simp; done) | (go_simp; with_reducible rfl))
          try simp only [Act.put, List.getElem_toArray, List.getElem_cons_succ, List.getElem_cons_zero, List.setIfInBounds_toArray, List.set_cons_zero, List.set_cons_succ]
          refine wpAnyH_take (i := 19) (v := ?_) rfl (by kernel_rfl) (by kernel_rfl) (by kernel_rfl) (fun _ _ _ h => h) (Or.inl ⟨by rfl, ?_⟩) (by assumption) ?_
          rotate_left
          · (intro w hSw; (try dsimp only at hSw); (try simp only [List.getElem_toArray, List.getElem_cons_succ, List.getElem_cons_zero]); first | (go_simp; done) | (go_simp; with_reducible rfl))
          try simp only [Act.put, List.getElem_toArray, List.getElem_cons_succ, List.getElem_cons_zero, List.setIfInBounds_toArray, List.set_cons_zero, List.set_cons_succ]
          refine wpAnyH_done (by kernel_rfl) ?_ _
          clear wx wx2 wy wy2 hor hor2 tk g0 g1
          have HB4 := Lib.hid (bstep (B := w.heap.size) (W := w) HB0.out (Nat.le_of_lt hz) g4)
          have HT4 := Lib.hid (HTL.out.below g4)
          have z4 := Nat.lt_of_lt_of_le hz g4.size
          obtain ⟨k40, k41, -⟩ := k4
          clear g4 hb4
          go_wp2_with fail
          go_roundw
          case rel => exact ⟨k + 1, U, by omega, by go_num, HSN.out, by go_num, k40, k41, ⟨HB4.out.os, HB4.out.tape, HB4.out.output, HB4.out.size, HB4.out.block⟩, z4, HT4.out⟩
          case measure => (simp [intOf]) <;> omega
        · obtain rfl : k = L.length := by omega
          have hfin : q = uni ws L 0 := by rw [HQ.out, List.take_length]
          have HFIN := Lib.hid hfin
          clear hfin
          go_wp2_with fail
          go_ret
          exact ⟨ret_int HFIN.out, HB0.out⟩
end Go.Proofs.YtcpefijmcajebaaDoor
