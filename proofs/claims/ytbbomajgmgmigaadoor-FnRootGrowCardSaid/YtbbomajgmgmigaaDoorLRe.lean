/- The law of RootCost: a further end costs no more than its nearest one. -/
import Derived.Test.YtbbomajgmgmigaaDoorRcM
import Derived.Test.YtbbomajgmgmigaaDoorRG
import Derived.Test.YtbbomajgmgmigaaDoorTc
import Derived.Test.YtbbomajgmgmigaaDoorWX
import Derived.Test.YtbbomajgmgmigaaDoorLO
set_option linter.unusedSimpArgs false
set_option linter.unusedVariables false
attribute [local go_sem ↓] Go.wp_at_zero Go.wp_at_succ
namespace Go.Proofs.YtbbomajgmgmigaaDoor
open Go.ChangeShapes Go.WideShapes Go.ChangeAt Go.RowKit

/-- r is how far some end among the first k is, if any can be come to -/
def NearI (f : Nat → Int) (e : Int) (k : Nat) (r : Int) : Prop := (r = -1 ∧ ∀ j : Nat, j < k → bit e j = true → f j < 0) ∨ (0 ≤ r ∧ ∃ j : Nat, j < k ∧ bit e j = true ∧ f j = r)
theorem NearI.first (f : Nat → Int) (e : Int) : NearI f e 0 (-1) := .inl ⟨rfl, fun j h => absurd h (by omega)⟩
theorem NearI.skip {f : Nat → Int} {e : Int} {k : Nat} {r : Int} (h : NearI f e k r) (hk : bit e k = true → f k < 0 ∨ 0 ≤ r) : NearI f e (k + 1) r := by
  rcases h with ⟨h1, h2⟩ | ⟨h1, j, h2, h3⟩
  · refine .inl ⟨h1, fun j hj hb => ?_⟩
    by_cases e : j = k
    · subst e
      have := hk hb
      omega
    · exact h2 j (by omega) hb
  · exact .inr ⟨h1, j, by omega, h3⟩
theorem NearI.take {f : Nat → Int} {e : Int} {k : Nat} (h : 0 ≤ f k) (hb : bit e k = true) : NearI f e (k + 1) (f k) := .inr ⟨h, k, by omega, hb, rfl⟩
theorem near_root {m : Nat} {ws : List Wy} (hn : NetIs (m : Int) ws) {e : Int} {C : Int} (e0 : 0 ≤ e) (e1 : e < 2 ^ ((m : Int)).toNat) (he : e ≠ 0) (hC : rc ws e = C) (hC0 : 0 ≤ C) {p : Nat} (hp : p < m) {r : Int} (h : NearI (fun j => farF ws m p j) e m r) :
    (r < 0 ∧ rc ws (withp e p) < 0) ∨ (0 ≤ r ∧ r ≤ 1000 ∧ 0 ≤ rc ws (withp e p) ∧ rc ws (withp e p) ≤ C + r) := by
  rcases h with ⟨h1, h2⟩ | ⟨h1, j, h2, h3, h4⟩
  · refine .inl ⟨by omega, ?_⟩
    apply Classical.byContradiction
    intro hno
    obtain ⟨j, hj, hb⟩ := set_some (m := m) e0 (by rw [Int.toNat_natCast] at e1; exact e1) he
    have hw := withp_bd e0 e1 hp
    have ht := (rc_told hn hw.1 hw.2).1 (by omega)
    have hr := (joins_from hn e0 e1 hp).1 ht j (by omega) hb
    have := (farF_join hn hp hj).2 hr
    have : farF ws m p j < 0 := h2 j hj hb
    omega
  · have hs := farF_sym hn hp h2
    have h4' : farF ws m p j = r := h4
    have hg := rc_grow hn e0 e1 h2 hp (by rw [withp_has e0 h3]; omega) (by rw [← hs]; show 0 ≤ farF ws m p j; omega)
    rw [withp_has e0 h3, ← hs] at hg
    have hb := farF_bd hn hp h2
    exact .inr ⟨h1, by omega, hg.1, by omega⟩

set_option maxRecDepth 100000 in
set_option maxHeartbeats 8000000 in
theorem FnRootGrow_walk (A : Option Addr) (len cap : Nat) (w : World) (hr : RB w w.heap.size A len) (hc : len ≤ cap) (hlen : len ≤ 9223372036854775807) (hT : Tab w) :
    Calls Tryd.prog 6 #[.slice A len cap] w fun e w' => e = .returned (.bool true) ∧ Below w.heap.size w w' := by
  have HR := Lib.hid hr
  have HT := Lib.hid hT
  clear hr hT
  by_cases hm : 1048576 < len
  · go_enter Tryd.func6, Tryd.ntmps6
    go_wp2_with fail
    go_ret
    exact ⟨rfl, Below.refl _ _⟩
  · go_enter Tryd.func6, Tryd.ntmps6
    go_wp2_with fail
    refine (DrawRootOf_any A len cap _ HR.out hc (by omega)).mono ?_
    rintro e wd ⟨nn, ee, A', c', ws, rfl, hrw, hl10, hcc, hn0, hn7, hs0, hs1, hbd⟩
    have HRW := Lib.hid hrw
    have HBD := Lib.hid hbd
    have HTD := Lib.hid (HT.out.later hbd)
    have hzd : w.heap.size ≤ wd.heap.size := hbd.size
    clear hrw hbd
    obtain ⟨C, hC⟩ : ∃ C, rootCost nn ws ee = C := ⟨_, rfl⟩
    by_cases hneg : C < 0
    · have HC := Lib.hid hC
      clear hC
      go_wp2_with fail
      refine (RootCost_any _ _ _ _ _ _ (HRW.out.later (by go_grown)) (HTD.out.later (by go_grown))).mono ?_; rintro e w1 ⟨rfl, hb1⟩
      rw [HC.out]
      obtain ⟨hc1, hf1⟩ := bcell hb1
      have hz1_0 : wd.heap.size < w1.heap.size := by have hq := hb1.size; (try simp at hq); omega
      have HK1 := Lib.hid hb1
      have HB1 := Lib.hid (bstep (B := wd.heap.size) (W := wd) (by (try have hp := HB0.out); go_grown) (by go_size) hb1); clear hb1
      go_wp2_with fail
      refine (sRootCost_any _ _ _ _ _ _ (HRW.out.later (by have := HB1.out; go_grown)) (by omega)).mono ?_; rintro e w2 ⟨rfl, hb2⟩
      rw [HC.out]
      obtain ⟨hc2, hf2⟩ := bcell hb2
      have hz2_0 : wd.heap.size < w2.heap.size := by have hq := hb2.size; (try simp at hq); omega
      have HK2 := Lib.hid hb2
      have HB2 := Lib.hid (bstep (B := wd.heap.size) (W := wd) (by have hp := HB1.out; go_grown) (by go_size) hb2); clear hb2
      go_wp2_with fail
      refine (alive_any _).mono ?_; rintro e w3 ⟨rfl, hb3⟩
      obtain ⟨hc3, hf3⟩ := bcell hb3
      have hz3_0 : wd.heap.size < w3.heap.size := by have hq := hb3.size; (try simp at hq); omega
      have HK3 := Lib.hid hb3
      have HB3 := Lib.hid (bstep (B := wd.heap.size) (W := wd) (by have hp := HB2.out; go_grown) (by go_size) hb3); clear hb3
      go_wp2_with fail
      go_ret
      exact ⟨rfl, bstep HBD.out hzd HB3.out⟩
    · by_cases hee : ee = 0
      · subst hee
        have HC := Lib.hid hC
        clear hC
        go_wp2_with fail
        refine (RootCost_any _ _ _ _ _ _ (HRW.out.later (by go_grown)) (HTD.out.later (by go_grown))).mono ?_; rintro e w1 ⟨rfl, hb1⟩
        rw [HC.out]
        obtain ⟨hc1, hf1⟩ := bcell hb1
        have hz1_0 : wd.heap.size < w1.heap.size := by have hq := hb1.size; (try simp at hq); omega
        have HK1 := Lib.hid hb1
        have HB1 := Lib.hid (bstep (B := wd.heap.size) (W := wd) (by (try have hp := HB0.out); go_grown) (by go_size) hb1); clear hb1
        go_wp2_with fail
        refine (sRootCost_any _ _ _ _ _ _ (HRW.out.later (by have := HB1.out; go_grown)) (by omega)).mono ?_; rintro e w2 ⟨rfl, hb2⟩
        rw [HC.out]
        obtain ⟨hc2, hf2⟩ := bcell hb2
        have hz2_0 : wd.heap.size < w2.heap.size := by have hq := hb2.size; (try simp at hq); omega
        have HK2 := Lib.hid hb2
        have HB2 := Lib.hid (bstep (B := wd.heap.size) (W := wd) (by have hp := HB1.out; go_grown) (by go_size) hb2); clear hb2
        go_wp2_with fail
        refine (alive_any _).mono ?_; rintro e w3 ⟨rfl, hb3⟩
        obtain ⟨hc3, hf3⟩ := bcell hb3
        have hz3_0 : wd.heap.size < w3.heap.size := by have hq := hb3.size; (try simp at hq); omega
        have HK3 := Lib.hid hb3
        have HB3 := Lib.hid (bstep (B := wd.heap.size) (W := wd) (by have hp := HB2.out; go_grown) (by go_size) hb3); clear hb3
        go_wp2_with fail
        go_ret
        exact ⟨rfl, bstep HBD.out hzd HB3.out⟩
      · obtain ⟨hno, hpo, hb0, hrc, -⟩ := rootCost_told (n := nn) (ws := ws) (e := ee) (by rw [hC]; exact hneg)
        obtain ⟨m, rfl⟩ : ∃ m : Nat, nn = m := ⟨nn.toNat, by omega⟩
        have hni := netOk_t hno
        have HNI := Lib.hid hni
        have hee0 : (ee == 0) = false := by simpa using hee
        have HNO := Lib.hid hno
        have hn2 := hni.lo
        have hn6 := hni.hi
        obtain ⟨e0, e1⟩ := plOk_t hpo
        have hp6 := pow_bd (m : Int) 6 (by omega)
        have HE := Lib.hid e1
        have hee6 : ee < 64 := by omega
        have hcl := rc_ge hni ee
        have hrcC : rc ws ee = C := by rw [← rootCost_rc hno hpo]; exact hC
        rw [hrcC] at hcl
        have HRC := Lib.hid hrcC
        have HC := Lib.hid hC
        clear hC hno hpo hni hb0 hrc hrcC e1 hp6
        go_wp2_with fail
        refine (RootCost_any _ _ _ _ _ _ (HRW.out.later (by go_grown)) (HTD.out.later (by go_grown))).mono ?_; rintro e w1 ⟨rfl, hb1⟩
        rw [HC.out]
        obtain ⟨hc1, hf1⟩ := bcell hb1
        have hz1_0 : wd.heap.size < w1.heap.size := by have hq := hb1.size; (try simp at hq); omega
        have HK1 := Lib.hid hb1
        have HB1 := Lib.hid (bstep (B := wd.heap.size) (W := wd) (by (try have hp := HB0.out); go_grown) (by go_size) hb1); clear hb1
        have k1 : w1.cell? ⟨wd.heap.size, 0, none⟩ = some (.int .i64 m) ∧ w1.cell? ⟨wd.heap.size, 1, none⟩ = some (.slice A' ws.length c') := ⟨by go_simp, by go_simp⟩
        clear hc1 hf1
        obtain ⟨k10, k11⟩ := k1
        go_wp2_with fail
        refine (FarTable_any m A' c' ws _ (HRW.out.later HB1.out) HNO.out).mono ?_; rintro e w2 ⟨T, hT, rfl, htab, hb2⟩
        obtain ⟨k20, k21⟩ := keep2 hb2 ⟨k10, k11⟩ hz1_0
        have hz2 : wd.heap.size < w2.heap.size := Nat.lt_of_lt_of_le hz1_0 hb2.size
        have hTT : wd.heap.size < T := by omega
        have HB2 := Lib.hid (bstep (B := wd.heap.size) (W := wd) HB1.out (Nat.le_of_lt hz1_0) hb2)
        have HT2 := Lib.hid htab
        clear hb2 htab hT
        go_wp2_with fail
        go_loopw [7] (fun c wr => ∃ p : Nat, p ≤ m ∧ c = .int .i64 p ∧ wr.cell? ⟨wd.heap.size, 0, none⟩ = some (.int .i64 m) ∧ wr.cell? ⟨wd.heap.size, 1, none⟩ = some (.slice A' ws.length c') ∧ Below wd.heap.size wd wr ∧ wd.heap.size < wr.heap.size ∧ TabM wr T (T + 1 + m) T m (fun i => T + 1 + i) (fun _ => m) (farF ws m)) (fun c _ => m - (intOf c).toNat)
        case atStart => exact ⟨0, Nat.zero_le _, rfl, k20, k21, HB2.out, hz2, HT2.out⟩
        case round =>
          clear k10 k11 k20 k21 HT2 hz2 HB2 HB1
          obtain ⟨p, hp, rfl, b0, b1, hb, hz, htab⟩ := hrel
          have HB0 := Lib.hid hb
          have HTB := Lib.hid htab
          clear hb htab
          by_cases hlp : p < m
          · have hlp1 : (p : Int) < (m : Int) := by omega
            have p0 : (0 : Int) ≤ (p : Int) := by omega
            go_wp2_with fail
            go_loopw [8, 9] (fun u c wr => ∃ (k : Nat) (r : Int), k ≤ m ∧ u = .int .i64 r ∧ c = .int .i64 k ∧ -1 ≤ r ∧ r ≤ 1000 ∧ NearI (fun j => farF ws m p j) ee k r ∧ wr.cell? ⟨wd.heap.size, 0, none⟩ = some (.int .i64 m) ∧ wr.cell? ⟨wd.heap.size, 1, none⟩ = some (.slice A' ws.length c') ∧ Below wd.heap.size wd wr ∧ wd.heap.size < wr.heap.size ∧ TabM wr T (T + 1 + m) T m (fun i => T + 1 + i) (fun _ => m) (farF ws m)) (fun _ c _ => m - (intOf c).toNat)
            case atStart => exact ⟨0, -1, Nat.zero_le _, rfl, rfl, by omega, by omega, NearI.first _ _, b0, b1, HB0.out, hz, HTB.out⟩
            case round =>
              clear b0 b1 HB0 HTB hz
              obtain ⟨k, r, hk, rfl, rfl, hr0, hr1, hnr, b0, b1, hb, hz, htab⟩ := hrel
              have HB0 := Lib.hid hb
              have HTB := Lib.hid htab
              clear hb htab
              have HNR := Lib.hid hnr
              clear hnr
              by_cases hlk : k < m
              · have hk1 : (k : Int) < (m : Int) := by omega
                have k0 : (0 : Int) ≤ (k : Int) := by omega
                have hq0 : 0 ≤ ee / 2 ^ k := (div_pow_bd ee k e0).1
                have tp := HTB.out.top p hlp
                have rpk := (HTB.out.row p k hlp hlk).1
                have hdb := farF_bd HNI.out hlp hlk
                obtain ⟨D, hD⟩ : ∃ D, farF ws m p k = D := ⟨_, rfl⟩
                rw [hD] at rpk hdb
                have HD := Lib.hid hD
                clear hD
                cases hbit : bit ee k
                · have hz1 := bit_zero (by omega) e0 hbit
                  rw [Int.toNat_natCast] at hz1
                  have hd1 : (ee / 2 ^ k % 2 == 1) = false := by rw [hz1.1]; rfl
                  have hd2 : ((ee / 2 ^ k).tmod 2 == 1) = false := by rw [hz1.2]; rfl
                  have HN2 := Lib.hid (HNR.out.skip (fun hb => by rw [hbit] at hb; cases hb))
                  clear hz1 hbit
                  go_wp2_with fail
                  go_roundw
                  case rel => exact ⟨k + 1, r, by omega, rfl, by go_num, hr0, hr1, HN2.out, b0, b1, HB0.out, hz, HTB.out⟩
                  case measure => (simp [intOf]) <;> omega
                · have hz1 := bit_one (by omega) e0 hbit
                  rw [Int.toNat_natCast] at hz1
                  have hd1 : (ee / 2 ^ k % 2 == 1) = true := by rw [hz1.1]; rfl
                  have hd2 : ((ee / 2 ^ k).tmod 2 == 1) = true := by rw [hz1.2]; rfl
                  by_cases hd0 : D < 0
                  · have hdn : ¬ 0 ≤ D := by omega
                    have HN2 := Lib.hid (HNR.out.skip (fun _ => .inl (by show farF ws m p k < 0; rw [HD.out]; exact hd0)))
                    clear hz1 hbit
                    go_wp2_with fail
                    go_roundw
                    case rel => exact ⟨k + 1, r, by omega, rfl, by go_num, hr0, hr1, HN2.out, b0, b1, HB0.out, hz, HTB.out⟩
                    case measure => (simp [intOf]) <;> omega
                  · have hdn : 0 ≤ D := by omega
                    have HNT : Hid (NearI (fun j => farF ws m p j) ee (k + 1) D) := by
                      have h : NearI (fun j => farF ws m p j) ee (k + 1) (farF ws m p k) := NearI.take (by show 0 ≤ farF ws m p k; rw [HD.out]; exact hdn) hbit
                      rw [HD.out] at h
                      exact h
                    clear hz1 hbit
                    by_cases hrn : r < 0
                    · go_wp2_with fail
                      go_roundw
                      case rel => exact ⟨k + 1, D, by omega, rfl, by go_num, by omega, hdb, HNT.out, b0, b1, HB0.out, hz, HTB.out⟩
                      case measure => (simp [intOf]) <;> omega
                    · by_cases hlt : D < r
                      · go_wp2_with fail
                        go_roundw
                        case rel => exact ⟨k + 1, D, by omega, rfl, by go_num, by omega, hdb, HNT.out, b0, b1, HB0.out, hz, HTB.out⟩
                        case measure => (simp [intOf]) <;> omega
                      · have HN2 := Lib.hid (HNR.out.skip (fun _ => .inr (by omega)))
                        go_wp2_with fail
                        go_roundw
                        case rel => exact ⟨k + 1, r, by omega, rfl, by go_num, hr0, hr1, HN2.out, b0, b1, HB0.out, hz, HTB.out⟩
                        case measure => (simp [intOf]) <;> omega
              · have hk1 : ¬ (k : Int) < (m : Int) := by omega
                have hkm : k = m := by omega
                subst hkm
                have hor := near_root HNI.out e0 HE.out hee HRC.out (by omega) hlp HNR.out
                have hwb := withp_bd e0 HE.out hlp
                have pb := pow_bd (p : Int) 5 (by omega)
                rw [Int.toNat_natCast] at pb
                have hpo : bits .or .i64 ee (2 ^ p) = withp ee p := bits_or _ _ e0 (by omega) (by omega) (by omega)
                have hwr : rootCost (k : Int) ws (withp ee p) = rc ws (withp ee p) := rootCost_rc HNO.out (plOk_mk hwb.1 hwb.2)
                have hcg := rc_ge HNI.out (withp ee p)
                obtain ⟨E, hE⟩ : ∃ E, withp ee p = E := ⟨_, rfl⟩
                rw [hE] at hor hpo hwr hcg
                obtain ⟨X, hX⟩ : ∃ X, rc ws E = X := ⟨_, rfl⟩
                rw [hX] at hor hwr hcg
                have HX := Lib.hid hwr
                have hwp : IntKind.i64.wrap (2 ^ p) = 2 ^ p := IntWalk.i64_in _ ⟨by omega, by omega⟩
                have hwp' : wrap64 (2 ^ p) = 2 ^ p := IntWalk.wrap64_in _ ⟨by omega, by omega⟩
                clear hwb hE hX hwr pb
                have HRR := Lib.hid (HRW.out.later HB0.out)
                have HTR := Lib.hid (HTD.out.later HB0.out)
                go_wp2_with fail
                refine wp_region_held_drew (S := (fun w' => w'.cell? ⟨wd.heap.size, 0, none⟩ = some (.int .i64 k) ∧ w'.cell? ⟨wd.heap.size, 1, none⟩ = some (.slice A' ws.length c'))) (by kernel_rfl) ?_ (fun hHeld => ?_)
                · exact ⟨b0, b1⟩
                refine wpAnyH_take (i := 0) (v := ?_) rfl (by kernel_rfl) (by kernel_rfl) (by kernel_rfl) (fun _ _ _ h => h) (Or.inl ⟨by rfl, ?_⟩) (by assumption) ?_
                rotate_left
                · (intro w hSw; (try dsimp only at hSw); (try simp only [List.getElem_toArray, List.getElem_cons_succ, List.getElem_cons_zero]); first | (go_simp; done) | (go_simp; with_reducible rfl))
                try simp only [Act.put, List.getElem_toArray, List.getElem_cons_succ, List.getElem_cons_zero, List.setIfInBounds_toArray, List.set_cons_zero, List.set_cons_succ]
                refine wpAnyH_take (i := 1) (v := ?_) rfl (by kernel_rfl) (by kernel_rfl) (by kernel_rfl) (fun _ _ _ h => h) (Or.inl ⟨by rfl, ?_⟩) (by assumption) ?_
                rotate_left
                · (intro w hSw; (try dsimp only at hSw); (try simp only [List.getElem_toArray, List.getElem_cons_succ, List.getElem_cons_zero]); first | (go_simp; done) | (go_simp; with_reducible rfl))
                try simp only [Act.put, List.getElem_toArray, List.getElem_cons_succ, List.getElem_cons_zero, List.setIfInBounds_toArray, List.set_cons_zero, List.set_cons_succ]
                refine wpAnyH_take (i := 2) (v := ?_) rfl (by kernel_rfl) (by kernel_rfl) (by kernel_rfl) (fun _ _ _ h => h) (Or.inl ⟨by rfl, ?_⟩) (by assumption) ?_
                rotate_left
                · (intro w hSw; (try dsimp only at hSw); (try simp only [List.getElem_toArray, List.getElem_cons_succ, List.getElem_cons_zero]); first | (go_simp; done) | (go_simp; with_reducible rfl))
                try simp only [Act.put, List.getElem_toArray, List.getElem_cons_succ, List.getElem_cons_zero, List.setIfInBounds_toArray, List.set_cons_zero, List.set_cons_succ]
                refine wpAnyH_take (i := 3) (v := ?_) rfl (by kernel_rfl) (by kernel_rfl) (by kernel_rfl) (fun _ _ _ h => h) (Or.inl ⟨by rfl, ?_⟩) (by assumption) ?_
                rotate_left
                · (intro w hSw; (try dsimp only at hSw); (try simp only [List.getElem_toArray, List.getElem_cons_succ, List.getElem_cons_zero]); first | (go_simp; done) | (go_simp; with_reducible rfl))
                try simp only [Act.put, List.getElem_toArray, List.getElem_cons_succ, List.getElem_cons_zero, List.setIfInBounds_toArray, List.set_cons_zero, List.set_cons_succ]
                refine wpAnyH_take (i := 4) (v := ?_) rfl (by kernel_rfl) (by kernel_rfl) (by kernel_rfl) (fun _ _ _ h => h) (Or.inl ⟨by rfl, ?_⟩) (by assumption) ?_
                rotate_left
                · (intro w hSw; (try dsimp only at hSw); (try simp only [List.getElem_toArray, List.getElem_cons_succ, List.getElem_cons_zero]); first | (go_simp; done) | (go_simp; with_reducible rfl))
                try simp only [Act.put, List.getElem_toArray, List.getElem_cons_succ, List.getElem_cons_zero, List.setIfInBounds_toArray, List.set_cons_zero, List.set_cons_succ]
                refine wpAnyH_ready (rs := [5]) (by kernel_rfl) (by simp) ?_
                refine AllReadyH.cons rfl (fun K hK => ?_) AllReadyH.nil
                try simp only [List.getElem_toArray, List.getElem_cons_succ, List.getElem_cons_zero]
                go_simp
                go_at_call 10; refine (RootCost_any _ _ _ _ _ _ (HRR.out.drewNR _) (HTR.out.drewNR _)).mono ?_; rintro e5 w5 ⟨rfl, hb5⟩; rw [HX.out]; have g5 : Below wr.heap.size wr w5 := und hb5; have k5 := keep2 g5 ⟨b0, b1⟩ hz
                refine hK.out _ _ ?_ (fun hHeld => ?_)
                · exact k5
                clear hK K
                try simp only [Act.put, List.getElem_toArray, List.getElem_cons_succ, List.getElem_cons_zero, List.setIfInBounds_toArray, List.set_cons_zero, List.set_cons_succ]
                refine wpAnyH_take (i := 6) (v := ?_) rfl (by kernel_rfl) (by kernel_rfl) (by kernel_rfl) (fun _ _ _ h => h) (Or.inl ⟨by rfl, ?_⟩) (by assumption) ?_
                rotate_left
                · (intro w hSw; (try dsimp only at hSw); (try simp only [List.getElem_toArray, List.getElem_cons_succ, List.getElem_cons_zero]); first | (go_simp; done) | (go_simp; with_reducible rfl))
                try simp only [Act.put, List.getElem_toArray, List.getElem_cons_succ, List.getElem_cons_zero, List.setIfInBounds_toArray, List.set_cons_zero, List.set_cons_succ]
                refine wpAnyH_done (by kernel_rfl) ?_ _
                obtain ⟨k50, k51⟩ := k5
                have hz5 : wd.heap.size < w5.heap.size := Nat.lt_of_lt_of_le hz g5.size
                have HB5 := Lib.hid (bstep (B := wd.heap.size) (W := wd) HB0.out (Nat.le_of_lt hz) g5)
                have HT5 := Lib.hid (HTB.out.below g5)
                clear hb5 g5 hwp hwp' hpo
                rcases hor with ⟨ho1, ho2⟩ | ⟨ho1, ho2, ho3, ho4⟩
                · go_wp2_with fail
                  go_roundw
                  case rel => exact ⟨p + 1, by omega, by go_num, k50, k51, HB5.out, hz5, HT5.out⟩
                  case measure => (simp [intOf]) <;> omega
                · have ho5 : ¬ X < 0 := by omega
                  have ho6 : ¬ r < 0 := by omega
                  have hsum : IntKind.i64.wrap (C + r) = C + r := IntWalk.i64_in _ ⟨by omega, by omega⟩
                  have ho7 : ¬ C + r < X := by clear hsum; omega
                  go_wp2_with fail
                  clear hsum
                  go_roundw
                  case rel => exact ⟨p + 1, by omega, by go_num, k50, k51, HB5.out, hz5, HT5.out⟩
                  case measure => (simp [intOf]) <;> omega
          · have hlp1 : ¬ (p : Int) < (m : Int) := by omega
            go_wp2_with fail
            refine (alive_any _).mono ?_; rintro e w9 ⟨rfl, hb9⟩
            obtain ⟨k90, k91⟩ := keep2 hb9 ⟨b0, b1⟩ hz
            have HB9 := Lib.hid (bstep (B := wd.heap.size) (W := wd) HB0.out (Nat.le_of_lt hz) hb9)
            clear hb9
            go_wp2_with fail
            go_ret
            exact ⟨rfl, bstep HBD.out hzd HB9.out⟩
end Go.Proofs.YtbbomajgmgmigaaDoor
