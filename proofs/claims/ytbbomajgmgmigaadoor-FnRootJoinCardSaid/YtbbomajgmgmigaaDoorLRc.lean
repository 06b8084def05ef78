/- The law of RootCost: roots that share an end are a root for all. -/
import Derived.Test.YtbbomajgmgmigaaDoorRM
import Derived.Test.YtbbomajgmgmigaaDoorRG
import Derived.Test.YtbbomajgmgmigaaDoorWX
import Derived.Test.YtbbomajgmgmigaaDoorLO
set_option linter.unusedSimpArgs false
set_option linter.unusedVariables false
attribute [local go_sem ↓] Go.wp_at_zero Go.wp_at_succ
namespace Go.Proofs.YtbbomajgmgmigaaDoor
open Go.ChangeShapes Go.WideShapes Go.ChangeAt Go.RowKit

set_option maxRecDepth 100000 in
set_option maxHeartbeats 4000000 in
theorem FnRootJoin_walk (A : Option Addr) (len cap : Nat) (A2 : Option Addr) (len2 cap2 : Nat) (w : World) (hr : RB w w.heap.size A len) (hc : len ≤ cap) (hlen : len ≤ 9223372036854775807)
    (hr2 : RB w w.heap.size A2 len2) (hc2 : len2 ≤ cap2) (hlen2 : len2 ≤ 9223372036854775807) (hT : Tab w) :
    Calls Tryd.prog 5 #[.slice A len cap, .slice A2 len2 cap2] w fun e w' => e = .returned (.bool true) ∧ Below w.heap.size w w' := by
  have HR := Lib.hid hr
  have HR2 := Lib.hid hr2
  have HT := Lib.hid hT
  clear hr hr2 hT
  by_cases hm : 1048576 < len
  · go_enter Tryd.func5, Tryd.ntmps5
    go_wp2_with fail
    go_ret
    exact ⟨rfl, Below.refl _ _⟩
  · by_cases hm2 : 1048576 < len2
    · go_enter Tryd.func5, Tryd.ntmps5
      go_wp2_with fail
      go_ret
      exact ⟨rfl, Below.refl _ _⟩
    · go_enter Tryd.func5, Tryd.ntmps5
      go_wp2_with fail
      refine (DrawRootCost_any A len cap _ HR.out hc (by omega)).mono ?_
      rintro e wd ⟨nn, ee, A', c', ws, rfl, hrw, hl10, hcc, hn0, hn7, hs0, hs1, hbd⟩
      have HRW := Lib.hid hrw
      have HBD := Lib.hid hbd
      have HTD := Lib.hid (HT.out.later hbd)
      have hzd : w.heap.size ≤ wd.heap.size := hbd.size
      clear hrw hbd
      obtain ⟨C, hC⟩ : ∃ C, rootCost nn ws ee = C := ⟨_, rfl⟩
      by_cases hneg : C < 0
      · have HC := Lib.hid hC
        clear hC
        go_wp2_with fail
        refine (RootCost_any _ _ _ _ _ _ (HRW.out.later (by go_grown)) (HTD.out.later (by go_grown))).mono ?_; rintro e w1 ⟨rfl, hb1⟩
        rw [HC.out]
        obtain ⟨hc1, hf1⟩ := bcell hb1
        have hz1_0 : wd.heap.size < w1.heap.size := by have hq := hb1.size; (try simp at hq); omega
        have HK1 := Lib.hid hb1
        have HB1 := Lib.hid (bstep (B := wd.heap.size) (W := wd) (by (try have hp := HB0.out); go_grown) (by go_size) hb1); clear hb1
        go_wp2_with fail
        refine (sRootCost_any _ _ _ _ _ _ (HRW.out.later (by have := HB1.out; go_grown)) (by omega)).mono ?_; rintro e w2 ⟨rfl, hb2⟩
        rw [HC.out]
        obtain ⟨hc2, hf2⟩ := bcell hb2
        have hz2_0 : wd.heap.size < w2.heap.size := by have hq := hb2.size; (try simp at hq); omega
        have HK2 := Lib.hid hb2
        have HB2 := Lib.hid (bstep (B := wd.heap.size) (W := wd) (by have hp := HB1.out; go_grown) (by go_size) hb2); clear hb2
        go_wp2_with fail
        refine (alive_any _).mono ?_; rintro e w3 ⟨rfl, hb3⟩
        obtain ⟨hc3, hf3⟩ := bcell hb3
        have hz3_0 : wd.heap.size < w3.heap.size := by have hq := hb3.size; (try simp at hq); omega
        have HK3 := Lib.hid hb3
        have HB3 := Lib.hid (bstep (B := wd.heap.size) (W := wd) (by have hp := HB2.out; go_grown) (by go_size) hb3); clear hb3
        go_wp2_with fail
        go_ret
        exact ⟨rfl, bstep HBD.out hzd HB3.out⟩
      · by_cases hee : ee = 0
        · subst hee
          have HC := Lib.hid hC
          clear hC
          go_wp2_with fail
          refine (RootCost_any _ _ _ _ _ _ (HRW.out.later (by go_grown)) (HTD.out.later (by go_grown))).mono ?_; rintro e w1 ⟨rfl, hb1⟩
          rw [HC.out]
          obtain ⟨hc1, hf1⟩ := bcell hb1
          have hz1_0 : wd.heap.size < w1.heap.size := by have hq := hb1.size; (try simp at hq); omega
          have HK1 := Lib.hid hb1
          have HB1 := Lib.hid (bstep (B := wd.heap.size) (W := wd) (by (try have hp := HB0.out); go_grown) (by go_size) hb1); clear hb1
          go_wp2_with fail
          refine (sRootCost_any _ _ _ _ _ _ (HRW.out.later (by have := HB1.out; go_grown)) (by omega)).mono ?_; rintro e w2 ⟨rfl, hb2⟩
          rw [HC.out]
          obtain ⟨hc2, hf2⟩ := bcell hb2
          have hz2_0 : wd.heap.size < w2.heap.size := by have hq := hb2.size; (try simp at hq); omega
          have HK2 := Lib.hid hb2
          have HB2 := Lib.hid (bstep (B := wd.heap.size) (W := wd) (by have hp := HB1.out; go_grown) (by go_size) hb2); clear hb2
          go_wp2_with fail
          refine (alive_any _).mono ?_; rintro e w3 ⟨rfl, hb3⟩
          obtain ⟨hc3, hf3⟩ := bcell hb3
          have hz3_0 : wd.heap.size < w3.heap.size := by have hq := hb3.size; (try simp at hq); omega
          have HK3 := Lib.hid hb3
          have HB3 := Lib.hid (bstep (B := wd.heap.size) (W := wd) (by have hp := HB2.out; go_grown) (by go_size) hb3); clear hb3
          go_wp2_with fail
          go_ret
          exact ⟨rfl, bstep HBD.out hzd HB3.out⟩
        · obtain ⟨hno, hpo, hb0, hrc, -⟩ := rootCost_told (n := nn) (ws := ws) (e := ee) (by rw [hC]; exact hneg)
          have hni := netOk_t hno
          have HNI := Lib.hid hni
          have hee0 : (ee == 0) = false := by simpa using hee
          have HNO := Lib.hid hno
          have hn2 := hni.lo
          have hn6 := hni.hi
          obtain ⟨e0, e1⟩ := plOk_t hpo
          have hp6 := pow_bd nn 6 (by omega)
          obtain ⟨j, hj6, hlow, hbj⟩ := low_bit (show 0 < ee by omega) (by omega)
          have HBJ := Lib.hid hbj
          have hpj := pow_bd (j : Int) 6 (by omega)
          rw [Int.toNat_natCast] at hpj
          have hjn : (j : Int) < nn := by have := set_sub e0 e1 hbj; omega
          have hbits : ∀ q, 0 ≤ q → bit ((2 : Int) ^ j) q = decide (q = (j : Int)) := fun q hq => by
            have := bit_shl (j : Int) q (by omega) hq
            rwa [Int.toNat_natCast] at this
          have hvlt : (2 : Int) ^ j < 2 ^ nn.toNat := by
            have := shl_lt (a := (j : Int)) (n := nn) (by omega) hjn
            rwa [Int.toNat_natCast] at this
          rw [hC] at hrc
          have HCC := Lib.hid hrc
          have HC := Lib.hid hC
          have hCb := cost_bds hni (best ws ee)
          rw [← hrc] at hCb
          -- the rest, for any other ends with the place j in it
          have HALL : Hid (∀ f : Int, 0 ≤ f → f < 2 ^ nn.toNat → bit f j = true → (rootCost nn ws f = -1 ∧ rootCost nn ws (ior ee f) = -1) ∨ (0 ≤ rootCost nn ws f ∧ rootCost nn ws f ≤ 81 ∧ 0 ≤ rootCost nn ws (ior ee f) ∧ rootCost nn ws (ior ee f) ≤ C + rootCost nn ws f)) := fun f f0 f1 hbf => by
            have hi := ior_bd ee f nn.toNat e1 f1
            have h := root_join hni e0 e1 f0 f1 (p := (j : Int)) (by omega) hbj hbf hb0
            have h1 := rootCost_val (e := f) hno (plOk_mk f0 f1)
            have h2 := rootCost_val (e := ior ee f) hno (plOk_mk hi.1 hi.2)
            rcases h with ⟨ha, hb⟩ | ⟨ha, hb, hc⟩
            · rw [if_pos ha] at h1; rw [if_pos hb] at h2; exact .inl ⟨h1, h2⟩
            · rw [if_neg (by omega)] at h1 h2
              have hx := cost_bds hni (best ws f)
              have hy := cost_bds hni (best ws (ior ee f))
              rw [h1, h2, hrc]
              exact .inr ⟨by omega, by omega, by omega, hc⟩
          clear hC hno hpo hni hbj hb0 hrc
          by_cases hl0 : len2 = 0
          · subst hl0
            have hbo : bits .or .i64 ee (2 ^ j) = ior ee (2 ^ j) := bits_or _ _ e0 (by omega) (by omega) (by omega)
            have hall := HALL.out (2 ^ j) (by omega) hvlt (by rw [hbits _ (by omega)]; simp)
            obtain ⟨F, hF⟩ : ∃ F, ior ee (2 ^ j) = F := ⟨_, rfl⟩
            rw [hF] at hbo hall
            obtain ⟨V, hV⟩ : ∃ V : Int, (2 : Int) ^ j = V := ⟨_, rfl⟩
            rw [hV] at hlow hbo hall hpj
            clear hF hV hbits hvlt
            obtain ⟨b, hb⟩ : ∃ b, rootCost nn ws V = b := ⟨_, rfl⟩
            obtain ⟨d, hd⟩ : ∃ d, rootCost nn ws F = d := ⟨_, rfl⟩
            rw [hb, hd] at hall
            have HV := Lib.hid hb
            have HF := Lib.hid hd
            clear hb hd
            rcases hall with ⟨h1, h2⟩ | ⟨h1, h2, h3, h4⟩
            · have hb1 : b < 0 := by omega
              have hd1 : d < 0 := by omega
              go_wp2_with fail
              refine (RootCost_any _ _ _ _ _ _ (HRW.out.later (by go_grown)) (HTD.out.later (by go_grown))).mono ?_; rintro e w1 ⟨rfl, hb1⟩
              rw [HC.out]
              obtain ⟨hc1, hf1⟩ := bcell hb1
              have hz1_0 : wd.heap.size < w1.heap.size := by have hq := hb1.size; (try simp at hq); omega
              have HK1 := Lib.hid hb1
              have HB1 := Lib.hid (bstep (B := wd.heap.size) (W := wd) (by (try have hp := HB0.out); go_grown) (by go_size) hb1); clear hb1
              go_wp2_with fail
              refine (RootCost_any _ _ _ _ _ _ (HRW.out.later (by have := HB1.out; go_grown)) (HTD.out.later (by have := HB1.out; go_grown))).mono ?_; rintro e w2 ⟨rfl, hb2⟩
              rw [HV.out]
              obtain ⟨hc2, hf2⟩ := bcell hb2
              have hz2_0 : wd.heap.size < w2.heap.size := by have hq := hb2.size; (try simp at hq); omega
              have HK2 := Lib.hid hb2
              have HB2 := Lib.hid (bstep (B := wd.heap.size) (W := wd) (by have hp := HB1.out; go_grown) (by go_size) hb2); clear hb2
              go_wp2_with fail
              refine (RootCost_any _ _ _ _ _ _ (HRW.out.later (by have := HB2.out; go_grown)) (HTD.out.later (by have := HB2.out; go_grown))).mono ?_; rintro e w3 ⟨rfl, hb3⟩
              rw [HF.out]
              obtain ⟨hc3, hf3⟩ := bcell hb3
              have hz3_0 : wd.heap.size < w3.heap.size := by have hq := hb3.size; (try simp at hq); omega
              have HK3 := Lib.hid hb3
              have HB3 := Lib.hid (bstep (B := wd.heap.size) (W := wd) (by have hp := HB2.out; go_grown) (by go_size) hb3); clear hb3
              go_wp2_with fail
              refine (alive_any _).mono ?_; rintro e w4 ⟨rfl, hb4⟩
              obtain ⟨hc4, hf4⟩ := bcell hb4
              have hz4_0 : wd.heap.size < w4.heap.size := by have hq := hb4.size; (try simp at hq); omega
              have HK4 := Lib.hid hb4
              have HB4 := Lib.hid (bstep (B := wd.heap.size) (W := wd) (by have hp := HB3.out; go_grown) (by go_size) hb4); clear hb4
              go_wp2_with fail
              go_ret
              exact ⟨rfl, bstep HBD.out hzd HB4.out⟩
            · have hb1 : ¬ b < 0 := by omega
              have hsum : IntKind.i64.wrap (C + b) = C + b := IntWalk.i64_in _ ⟨by omega, by omega⟩
              have hsum' : wrap64 (C + b) = C + b := IntWalk.wrap64_in _ ⟨by omega, by omega⟩
              go_wp2_with fail
              refine (RootCost_any _ _ _ _ _ _ (HRW.out.later (by go_grown)) (HTD.out.later (by go_grown))).mono ?_; rintro e w1 ⟨rfl, hb1⟩
              rw [HC.out]
              obtain ⟨hc1, hf1⟩ := bcell hb1
              have hz1_0 : wd.heap.size < w1.heap.size := by have hq := hb1.size; (try simp at hq); omega
              have HK1 := Lib.hid hb1
              have HB1 := Lib.hid (bstep (B := wd.heap.size) (W := wd) (by (try have hp := HB0.out); go_grown) (by go_size) hb1); clear hb1
              go_wp2_with fail
              refine (RootCost_any _ _ _ _ _ _ (HRW.out.later (by have := HB1.out; go_grown)) (HTD.out.later (by have := HB1.out; go_grown))).mono ?_; rintro e w2 ⟨rfl, hb2⟩
              rw [HV.out]
              obtain ⟨hc2, hf2⟩ := bcell hb2
              have hz2_0 : wd.heap.size < w2.heap.size := by have hq := hb2.size; (try simp at hq); omega
              have HK2 := Lib.hid hb2
              have HB2 := Lib.hid (bstep (B := wd.heap.size) (W := wd) (by have hp := HB1.out; go_grown) (by go_size) hb2); clear hb2
              go_wp2_with fail
              refine (RootCost_any _ _ _ _ _ _ (HRW.out.later (by have := HB2.out; go_grown)) (HTD.out.later (by have := HB2.out; go_grown))).mono ?_; rintro e w3 ⟨rfl, hb3⟩
              rw [HF.out]
              obtain ⟨hc3, hf3⟩ := bcell hb3
              have hz3_0 : wd.heap.size < w3.heap.size := by have hq := hb3.size; (try simp at hq); omega
              have HK3 := Lib.hid hb3
              have HB3 := Lib.hid (bstep (B := wd.heap.size) (W := wd) (by have hp := HB2.out; go_grown) (by go_size) hb3); clear hb3
              go_wp2_with fail
              refine (alive_any _).mono ?_; rintro e w4 ⟨rfl, hb4⟩
              obtain ⟨hc4, hf4⟩ := bcell hb4
              have hz4_0 : wd.heap.size < w4.heap.size := by have hq := hb4.size; (try simp at hq); omega
              have HK4 := Lib.hid hb4
              have HB4 := Lib.hid (bstep (B := wd.heap.size) (W := wd) (by have hp := HB3.out; go_grown) (by go_size) hb4); clear hb4
              go_wp2_with fail
              go_ret
              exact ⟨rfl, bstep HBD.out hzd HB4.out⟩
          · obtain ⟨b, of, v, rfl, hbw, hv0, hv1, hcell⟩ := HR2.out 0 (by omega)
            have hl1 : (0 : Int) < (len2 : Int) := by omega
            have HP1 : Hid (IntKind.i64.wrap (2 ^ nn.toNat) = 2 ^ nn.toNat) := IntWalk.i64_in _ ⟨by omega, by omega⟩
            have HP2 : Hid (IntKind.i64.wrap (2 ^ nn.toNat - 1) = 2 ^ nn.toNat - 1) := IntWalk.i64_in _ ⟨by omega, by omega⟩
            have HP3 : Hid (wrap64 (2 ^ nn.toNat) = 2 ^ nn.toNat) := IntWalk.wrap64_in _ ⟨by omega, by omega⟩
            have HP4 : Hid (wrap64 (2 ^ nn.toNat - 1) = 2 ^ nn.toNat - 1) := IntWalk.wrap64_in _ ⟨by omega, by omega⟩
            have hbo1 : bits .or .i64 (2 ^ j) v = ior (2 ^ j) v := bits_or _ _ (by omega) (by omega) hv0 (by omega)
            have hio := ior_bd (2 ^ j) v 8 (by omega) (by omega)
            have hbo2 : bits .and .i64 (ior (2 ^ j) v) (2 ^ nn.toNat - 1) = iand (ior (2 ^ j) v) (2 ^ nn.toNat - 1) := bits_and _ _ hio.1 (by omega) (by omega) (by omega)
            have hia := iand_bd2 (ior (2 ^ j) v) (2 ^ nn.toNat - 1) (by omega)
            have hbv : bit (iand (ior (2 ^ j) v) (2 ^ nn.toNat - 1)) j = true := by
              have ha : bit (2 ^ nn.toNat - 1) (j : Int) = true := by
                have := allPl_bit (n := nn) (q := (j : Int)) (by omega) (by omega)
                unfold allPl at this
                rw [this]; simpa using hjn
              rw [bit_iand, bit_ior, hbits _ (by omega), ha]; simp
            obtain ⟨V, hV⟩ : ∃ V, iand (ior (2 ^ j) v) (2 ^ nn.toNat - 1) = V := ⟨_, rfl⟩
            rw [hV] at hbo2 hia hbv
            have hV0 : 0 ≤ V := hia.1
            have hV1 : V < 2 ^ nn.toNat := by omega
            have hall := HALL.out V hV0 hV1 hbv
            have hbo : bits .or .i64 ee V = ior ee V := bits_or _ _ e0 (by omega) (by omega) (by omega)
            obtain ⟨F, hF⟩ : ∃ F, ior ee V = F := ⟨_, rfl⟩
            rw [hF] at hbo hall
            obtain ⟨V0, hV0'⟩ : ∃ V0 : Int, (2 : Int) ^ j = V0 := ⟨_, rfl⟩
            rw [hV0'] at hlow hbo1 hbo2 hpj hio
            have hba : bits .and .i64 (bits .or .i64 V0 v) (2 ^ nn.toNat - 1) = V := by rw [hbo1, hbo2]
            clear hF hV hbits hvlt hbv hV0' hia
            obtain ⟨b', hb⟩ : ∃ b, rootCost nn ws V = b := ⟨_, rfl⟩
            obtain ⟨d, hd⟩ : ∃ d, rootCost nn ws F = d := ⟨_, rfl⟩
            rw [hb, hd] at hall
            have HV := Lib.hid hb
            have HF := Lib.hid hd
            have hcell2 : ∀ w2, Below wd.heap.size wd w2 → w2.cell? ⟨b, of, none⟩ = some (.int .u8 v) := fun w2 hb2 => by
              have h := (bstep HBD.out hzd hb2).cell (p := ⟨b, of, none⟩) hbw
              rw [h]; simpa using hcell
            have HCELL := Lib.hid hcell2
            clear hb hd hcell hcell2
            rcases hall with ⟨h1, h2⟩ | ⟨h1, h2, h3, h4⟩
            · have hb1 : b' < 0 := by omega
              have hd1 : d < 0 := by omega
              go_wp2_with fail
              refine (RootCost_any _ _ _ _ _ _ (HRW.out.later (by go_grown)) (HTD.out.later (by go_grown))).mono ?_; rintro e w1 ⟨rfl, hb1⟩
              rw [HC.out]
              obtain ⟨hc1, hf1⟩ := bcell hb1
              have hz1_0 : wd.heap.size < w1.heap.size := by have hq := hb1.size; (try simp at hq); omega
              have HK1 := Lib.hid hb1
              have HB1 := Lib.hid (bstep (B := wd.heap.size) (W := wd) (by (try have hp := HB0.out); go_grown) (by go_size) hb1); clear hb1
              have hcw := HCELL.out w1 HB1.out
              have k1 : w1.cell? ⟨wd.heap.size, 0, none⟩ = some (.int .i64 nn) ∧ w1.cell? ⟨wd.heap.size, 1, none⟩ = some (.slice A' ws.length c') := ⟨by go_simp, by go_simp⟩
              have HRW1 := Lib.hid (HRW.out.later HB1.out)
              have HTD1 := Lib.hid (HTD.out.later HB1.out)
              clear hc1 hf1
              obtain ⟨k10, k11⟩ := k1
              have p1 := HP1.out
              have p2 := HP2.out
              have p3 := HP3.out
              have p4 := HP4.out
              go_wp2_with fail
              go_quiet (fail)
              go_wp2_with fail
              clear p1 p2 p3 p4 hcw
              refine (RootCost_any _ _ _ _ _ _ (HRW1.out.drewNR _) (HTD1.out.drewNR _)).mono ?_; rintro e2 w2 ⟨rfl, hb2⟩; rw [HV.out]
              have g2 : Below w1.heap.size w1 w2 := und hb2
              have hz2_0 : wd.heap.size < w2.heap.size := Nat.lt_of_lt_of_le hz1_0 g2.size
              have HB2 := Lib.hid (bstep (B := wd.heap.size) (W := wd) HB1.out (Nat.le_of_lt hz1_0) g2)
              have k2 := keep2 g2 ⟨k10, k11⟩ hz1_0
              obtain ⟨k20, k21⟩ := k2
              clear hb2 g2
              go_wp2_with fail
              refine (RootCost_any _ _ _ _ _ _ (HRW.out.later (by have := HB2.out; go_grown)) (HTD.out.later (by have := HB2.out; go_grown))).mono ?_; rintro e w3 ⟨rfl, hb3⟩
              rw [HF.out]
              obtain ⟨hc3, hf3⟩ := bcell hb3
              have hz3_0 : wd.heap.size < w3.heap.size := by have hq := hb3.size; (try simp at hq); omega
              have HK3 := Lib.hid hb3
              have HB3 := Lib.hid (bstep (B := wd.heap.size) (W := wd) (by have hp := HB2.out; go_grown) (by go_size) hb3); clear hb3
              go_wp2_with fail
              refine (alive_any _).mono ?_; rintro e w4 ⟨rfl, hb4⟩
              obtain ⟨hc4, hf4⟩ := bcell hb4
              have hz4_0 : wd.heap.size < w4.heap.size := by have hq := hb4.size; (try simp at hq); omega
              have HK4 := Lib.hid hb4
              have HB4 := Lib.hid (bstep (B := wd.heap.size) (W := wd) (by have hp := HB3.out; go_grown) (by go_size) hb4); clear hb4
              go_wp2_with fail
              go_ret
              exact ⟨rfl, bstep HBD.out hzd HB4.out⟩
            · have hb1 : ¬ b' < 0 := by omega
              have hsum : IntKind.i64.wrap (C + b') = C + b' := IntWalk.i64_in _ ⟨by omega, by omega⟩
              have hsum' : wrap64 (C + b') = C + b' := IntWalk.wrap64_in _ ⟨by omega, by omega⟩
              go_wp2_with fail
              refine (RootCost_any _ _ _ _ _ _ (HRW.out.later (by go_grown)) (HTD.out.later (by go_grown))).mono ?_; rintro e w1 ⟨rfl, hb1⟩
              rw [HC.out]
              obtain ⟨hc1, hf1⟩ := bcell hb1
              have hz1_0 : wd.heap.size < w1.heap.size := by have hq := hb1.size; (try simp at hq); omega
              have HK1 := Lib.hid hb1
              have HB1 := Lib.hid (bstep (B := wd.heap.size) (W := wd) (by (try have hp := HB0.out); go_grown) (by go_size) hb1); clear hb1
              have hcw := HCELL.out w1 HB1.out
              have k1 : w1.cell? ⟨wd.heap.size, 0, none⟩ = some (.int .i64 nn) ∧ w1.cell? ⟨wd.heap.size, 1, none⟩ = some (.slice A' ws.length c') := ⟨by go_simp, by go_simp⟩
              have HRW1 := Lib.hid (HRW.out.later HB1.out)
              have HTD1 := Lib.hid (HTD.out.later HB1.out)
              clear hc1 hf1
              obtain ⟨k10, k11⟩ := k1
              have p1 := HP1.out
              have p2 := HP2.out
              have p3 := HP3.out
              have p4 := HP4.out
              go_wp2_with fail
              go_quiet (fail)
              go_wp2_with fail
              clear p1 p2 p3 p4 hcw
              refine (RootCost_any _ _ _ _ _ _ (HRW1.out.drewNR _) (HTD1.out.drewNR _)).mono ?_; rintro e2 w2 ⟨rfl, hb2⟩; rw [HV.out]
              have g2 : Below w1.heap.size w1 w2 := und hb2
              have hz2_0 : wd.heap.size < w2.heap.size := Nat.lt_of_lt_of_le hz1_0 g2.size
              have HB2 := Lib.hid (bstep (B := wd.heap.size) (W := wd) HB1.out (Nat.le_of_lt hz1_0) g2)
              have k2 := keep2 g2 ⟨k10, k11⟩ hz1_0
              obtain ⟨k20, k21⟩ := k2
              clear hb2 g2
              go_wp2_with fail
              refine (RootCost_any _ _ _ _ _ _ (HRW.out.later (by have := HB2.out; go_grown)) (HTD.out.later (by have := HB2.out; go_grown))).mono ?_; rintro e w3 ⟨rfl, hb3⟩
              rw [HF.out]
              obtain ⟨hc3, hf3⟩ := bcell hb3
              have hz3_0 : wd.heap.size < w3.heap.size := by have hq := hb3.size; (try simp at hq); omega
              have HK3 := Lib.hid hb3
              have HB3 := Lib.hid (bstep (B := wd.heap.size) (W := wd) (by have hp := HB2.out; go_grown) (by go_size) hb3); clear hb3
              go_wp2_with fail
              refine (alive_any _).mono ?_; rintro e w4 ⟨rfl, hb4⟩
              obtain ⟨hc4, hf4⟩ := bcell hb4
              have hz4_0 : wd.heap.size < w4.heap.size := by have hq := hb4.size; (try simp at hq); omega
              have HK4 := Lib.hid hb4
              have HB4 := Lib.hid (bstep (B := wd.heap.size) (W := wd) (by have hp := HB3.out; go_grown) (by go_size) hb4); clear hb4
              go_wp2_with fail
              go_ret
              exact ⟨rfl, bstep HBD.out hzd HB4.out⟩
end Go.Proofs.YtbbomajgmgmigaaDoor
