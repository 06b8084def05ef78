/- The law of PacksOk: fewer cuts pack as well. -/
import Derived.Test.YtiioojjjpabaeaaCuI
import Derived.Test.YtiioojjjpabaeaaCuL
import Derived.Test.YtiioojjjpabaeaaWC
import Derived.Test.YtiioojjjpabaeaaMC
import Derived.Test.YtiioojjjpabaeaaWCc
set_option linter.unusedSimpArgs false
set_option linter.unusedVariables false
attribute [local go_sem ↓] Go.wp_at_zero Go.wp_at_succ
namespace Go.Proofs.Ytiioojjjpabaeaa
open Go.ChangeShapes Go.WideShapes Go.ChangeAt Go.RowKit

set_option maxRecDepth 100000 in
set_option maxHeartbeats 2000000 in
theorem FnPacksOk_walk (A : Option Addr) (len cap : Nat) (w : World) (hr : RB w w.heap.size A len) (hc : len ≤ cap) (hlen : len ≤ 9223372036854775807) :
    Calls Try.prog 4 #[.slice A len cap] w fun e w' => e = .returned (.bool true) ∧ Below w.heap.size w w' := by
  have HR := Lib.hid hr
  clear hr
  by_cases hm : 1048576 < len
  · go_enter Try.func4, Try.ntmps4
    go_wp2_with fail
    go_ret
    exact ⟨rfl, Below.refl _ _⟩
  · go_enter Try.func4, Try.ntmps4
    go_wp2_with fail
    refine (DrawPacksOk_any A len cap _ HR.out hc (by omega)).mono ?_
    rintro e wd ⟨nn, ee, A', c', ws, bc, cc, cs, rfl, hrw, hrc, hl10, hcc, hcl, hcp, hn0, hn7, hs0, hs1, hbd⟩
    have HRW := Lib.hid hrw
    have HBD := Lib.hid hbd
    have hzd : w.heap.size ≤ wd.heap.size := hbd.size
    clear hrw hbd
    have HRC := Lib.hid hrc
    have hbs := noCuts
    obtain ⟨i0, hi0, hz0, hz1', hz2⟩ := info_parts infoCutC
    clear hrc
    cases hnt : netOk nn ws
    · have HNO := Lib.hid hnt
      have HPK : Hid (packsOk nn ws ee cs = false) := packsOk_net hnt
      clear hnt hbs
      go_wp2_with fail
      refine (PacksOk_any _ _ _ _ _ _ _ _ _ (HRW.out.later (by go_grown)) (HRC.out.later (by go_grown))).mono ?_; rintro e w1 ⟨rfl, hb1⟩
      rw [HPK.out]
      obtain ⟨hc1, hf1⟩ := bcell hb1
      have hz1_0 : wd.heap.size < w1.heap.size := by have hq := hb1.size; (try simp at hq); omega
      have HK1 := Lib.hid hb1
      have HB1 := Lib.hid (bstep (B := wd.heap.size) (W := wd) (by (try have hp := HB0.out); go_grown) (by go_size) hb1); clear hb1
      go_wp2_with fail
      refine (sPacksOk_any _ _ _ _ _ _ _ _ _ (HRW.out.later (by have := HB1.out; go_grown)) (by omega) (HRC.out.later (by have := HB1.out; go_grown)) (by omega)).mono ?_; rintro e w2 ⟨rfl, hb2⟩
      rw [HPK.out]
      obtain ⟨hc2, hf2⟩ := bcell hb2
      have hz2_0 : wd.heap.size < w2.heap.size := by have hq := hb2.size; (try simp at hq); omega
      have HK2 := Lib.hid hb2
      have HB2 := Lib.hid (bstep (B := wd.heap.size) (W := wd) (by have hp := HB1.out; go_grown) (by go_size) hb2); clear hb2
      go_wp2_with fail
      refine (sNetOk_any _ _ _ _ _ (HRW.out.later (by have := HB2.out; go_grown)) (by omega)).mono ?_; rintro e w3 ⟨rfl, hb3⟩
      rw [HNO.out]
      obtain ⟨hc3, hf3⟩ := bcell hb3
      have hz3_0 : wd.heap.size < w3.heap.size := by have hq := hb3.size; (try simp at hq); omega
      have HK3 := Lib.hid hb3
      have HB3 := Lib.hid (bstep (B := wd.heap.size) (W := wd) (by have hp := HB2.out; go_grown) (by go_size) hb3); clear hb3
      go_wp2_with fail
      refine (alive_any _).mono ?_; rintro e w4 ⟨rfl, hb4⟩
      obtain ⟨hc4, hf4⟩ := bcell hb4
      have hz4_0 : wd.heap.size < w4.heap.size := by have hq := hb4.size; (try simp at hq); omega
      have HK4 := Lib.hid hb4
      have HB4 := Lib.hid (bstep (B := wd.heap.size) (W := wd) (by have hp := HB3.out; go_grown) (by go_size) hb4); clear hb4
      go_wp2_with fail
      go_ret
      exact ⟨rfl, bstep HBD.out hzd HB4.out⟩
    · have HNO := Lib.hid hnt
      obtain ⟨m, rfl⟩ : ∃ m : Nat, nn = m := ⟨nn.toNat, by omega⟩
      have hni := netOk_t hnt
      have hm6 : m ≤ 6 := by have := hni.hi; omega
      have hpm := pow_bd (m : Int) 6 (by omega)
      rw [Int.toNat_natCast] at hpm
      obtain ⟨M, hM⟩ : ∃ M, (2 : Int) ^ m = M := ⟨_, rfl⟩
      rw [hM] at hpm
      have hm60 : (m : Int) ≤ 60 := by omega
      have hm0 : (0 : Int) ≤ (m : Int) := by omega
      have HV1 : Hid (IntKind.i64.wrap ((2 : Int) ^ m) = M) := by show _ = _; rw [hM]; exact IntWalk.i64_in _ ⟨by omega, by omega⟩
      have HV2 : Hid (wrap64 ((2 : Int) ^ m) = M) := by show _ = _; rw [hM]; exact IntWalk.wrap64_in _ ⟨by omega, by omega⟩
      by_cases he : ee < M
      · have hpe : plOk (m : Int) ee = true := plOk_mk hs0 (by rw [Int.toNat_natCast, hM]; exact he)
        have HNON := Lib.hid (packsOk_none hnt hpe)
        have hgE : decide (M ≤ ee) = false := by simpa using he
        cases hpk : packsOk (m : Int) ws ee cs
        · have HPK := Lib.hid hpk
          have HLTP : Hid (packsOk (m : Int) ws ee (cs.map fun c => (c.1, (0 : Int))) = packsOk (m : Int) ws ee (cs.map fun c => (c.1, (0 : Int)))) := rfl
          clear hnt hni hM hpe hpk
          go_wp2_with fail
          refine (PacksOk_any _ _ _ _ _ _ _ _ _ (HRW.out.later (by go_grown)) (HRC.out.later (by go_grown))).mono ?_; rintro e w1 ⟨rfl, hb1⟩
          rw [HPK.out]
          obtain ⟨hc1, hf1⟩ := bcell hb1
          have hz1_0 : wd.heap.size < w1.heap.size := by have hq := hb1.size; (try simp at hq); omega
          have HK1 := Lib.hid hb1
          have HB1 := Lib.hid (bstep (B := wd.heap.size) (W := wd) (by (try have hp := HB0.out); go_grown) (by go_size) hb1); clear hb1
          go_wp2_with fail
          refine (sPacksOk_any _ _ _ _ _ _ _ _ _ (HRW.out.later (by have := HB1.out; go_grown)) (by omega) (HRC.out.later (by have := HB1.out; go_grown)) (by omega)).mono ?_; rintro e w2 ⟨rfl, hb2⟩
          rw [HPK.out]
          obtain ⟨hc2, hf2⟩ := bcell hb2
          have hz2_0 : wd.heap.size < w2.heap.size := by have hq := hb2.size; (try simp at hq); omega
          have HK2 := Lib.hid hb2
          have HB2 := Lib.hid (bstep (B := wd.heap.size) (W := wd) (by have hp := HB1.out; go_grown) (by go_size) hb2); clear hb2
          go_wp2_with fail
          refine (sNetOk_any _ _ _ _ _ (HRW.out.later (by have := HB2.out; go_grown)) (by omega)).mono ?_; rintro e w3 ⟨rfl, hb3⟩
          rw [HNO.out]
          obtain ⟨hc3, hf3⟩ := bcell hb3
          have hz3_0 : wd.heap.size < w3.heap.size := by have hq := hb3.size; (try simp at hq); omega
          have HK3 := Lib.hid hb3
          have HB3 := Lib.hid (bstep (B := wd.heap.size) (W := wd) (by have hp := HB2.out; go_grown) (by go_size) hb3); clear hb3
          have k3 : w3.cell? ⟨wd.heap.size, 0, none⟩ = some (.int .i64 m) ∧ w3.cell? ⟨wd.heap.size, 1, none⟩ = some (.slice A' ws.length c') := ⟨by go_simp, by go_simp⟩
          clear hc1 hf1 hc2 hf2 hc3 hf3
          obtain ⟨b0, b1⟩ := k3
          have HRC3 := Lib.hid (HRC.out.later HB3.out)
          have hon3 : Hid ((w3.alloc (.cells #[] 38)).ownsRow w3.heap.size 38 2 (.slice (some ⟨w3.heap.size, 0, none⟩) 0 0) 0 []) := ⟨rfl, .inr ⟨w3.heap.size, 0, #[], rfl, Nat.le_refl _, heap_alloc_new _ _, Nat.le_refl _, Nat.zero_le _, rfl, rfl⟩⟩
          have hnw3 := Lib.hid (RC.news (RC.later (HRC3.out) ((Below.refl w3.heap.size w3).alloc (Nat.le_refl _) (.cells #[] 38))))
          have hmx3 : cs.length ≤ maxLen := (by unfold maxLen; omega)
          have hby3 : cs.length * 16 ≤ 140737488355328 := (by omega)
          have v1 := HV1.out
          have v2 := HV2.out
          by_cases hc0 : 0 < cs.length
          · obtain ⟨q, hq⟩ : ∃ q : Nat, cs.length = q + 1 := ⟨cs.length - 1, by clear v1 v2; omega⟩
            have hcp0 : (0 : Int) < (cs.length : Int) := by clear v1 v2; omega
            have hqc : (q : Int) ≤ (cc : Int) := by clear v1 v2; omega
            have hq0 : (0 : Int) ≤ (q : Int) := by clear v1 v2; omega
            have HQ : Hid (q = cs.length - 1) := by show _ = _; clear v1 v2; omega
            have HTQ : Hid ((cs.take q).length = q) := by show _ = _; rw [List.length_take]; clear v1 v2; omega
            have hsb : IntKind.i64.wrap ((cs.length : Int) - 1) = (q : Int) := by clear v1 v2; rw [show (cs.length : Int) - 1 = q from by omega]; exact IntWalk.i64_in _ ⟨by omega, by omega⟩
            have hsb2 : wrap64 ((cs.length : Int) - 1) = (q : Int) := by clear v1 v2 hsb; rw [show (cs.length : Int) - 1 = q from by omega]; exact IntWalk.wrap64_in _ ⟨by omega, by omega⟩
            have HS1 := Lib.hid hsb
            have HS2 := Lib.hid hsb2
            have hq10 : q ≤ 10 := by clear v1 v2 hsb hsb2; omega
            clear hsb hsb2 hq
            go_wp2_with (first | (at_builtin; clear v1 v2; refine wpList_append_copy rfl _ _ _ rfl w3.heap.size 38 i0 _ 2 16 Try.underlying32 hi0 hz0 hz1' hz2 rfl (by decide) (.slice (some ⟨w3.heap.size, 0, none⟩) 0 0) rfl hon3.out ⟨bc, 0, none⟩ cs.length cc (ctCells cs) rfl (ctCells_len cs) hnw3.out (ctCells_one _) hmx3 hby3 (by simp) ?_; intro A4 c4 w4 hown4 hg4; have hb4 := below_grow ((Below.refl w3.heap.size w3).alloc (Nat.le_refl _) _) hg4 (Nat.le_refl _); obtain ⟨k40, k41⟩ := keep2 hb4 ⟨b0, b1⟩ hz3_0; have hz4_0 := Nat.lt_of_lt_of_le hz3_0 hb4.size; have HB4 := Lib.hid (bstep (B := wd.heap.size) (W := wd) HB3.out (Nat.le_of_lt hz3_0) hb4); have HRC4 := Lib.hid (HRC3.out.later hb4); have hon4 : Hid ((w4.alloc (.cells #[] 38)).ownsRow w4.heap.size 38 2 (.slice (some ⟨w4.heap.size, 0, none⟩) 0 0) 0 []) := ⟨rfl, .inr ⟨w4.heap.size, 0, #[], rfl, Nat.le_refl _, heap_alloc_new _ _, Nat.le_refl _, Nat.zero_le _, rfl, rfl⟩⟩; have hnw4 := Lib.hid (RC.news (RC.later (HRC4.out.take q) ((Below.refl w4.heap.size w4).alloc (Nat.le_refl _) (.cells #[] 38)))); have hmx4 : q ≤ maxLen := (by unfold maxLen; omega); have hby4 : q * 16 ≤ 140737488355328 := (by omega); clear hown4 hg4 hb4; have hsb := HS1.out; have hsb2 := HS2.out) | (at_builtin; clear hsb hsb2; refine wpList_append_copy rfl _ _ _ rfl w4.heap.size 38 i0 _ 2 16 Try.underlying32 hi0 hz0 hz1' hz2 rfl (by decide) (.slice (some ⟨w4.heap.size, 0, none⟩) 0 0) rfl hon4.out ⟨bc, 0, none⟩ q cc (ctCells (cs.take q)) rfl (by rw [ctCells_len, HTQ.out]) hnw4.out (ctCells_one _) hmx4 hby4 (by simp) ?_; intro A5 c5 w5 hown5 hg5; have hb5 := below_grow ((Below.refl w4.heap.size w4).alloc (Nat.le_refl _) _) hg5 (Nat.le_refl _); obtain ⟨k50, k51⟩ := keep2 hb5 ⟨k40, k41⟩ hz4_0; have hz5_0 := Nat.lt_of_lt_of_le hz4_0 hb5.size; have HB5 := Lib.hid (bstep (B := wd.heap.size) (W := wd) HB4.out (Nat.le_of_lt hz4_0) hb5); have HRC5 := Lib.hid (HRC4.out.later hb5); have HLE := Lib.hid (rc_of_own (cs := cs.take q) (by rw [HTQ.out]; exact hown5)); clear hown5 hg5 hb5))
            try clear hsb hsb2
            have HLP : Hid (packsOk (m : Int) ws ee (cs.take q) = packsOk (m : Int) ws ee (cs.take q)) := rfl
            (try go_wp2_with fail)
            go_loopw [8, 9] (fun v i wr => ∃ k : Nat, k ≤ cs.length ∧ i = .int .i64 k ∧ Below w5.heap.size w5 wr ∧ wr.ownsRow w5.heap.size 38 2 v k (ctCells ((cs.take k).map fun c => (c.1, (0 : Int))))) (fun _ i _ => cs.length - (intOf i).toNat)
            case atStart => exact ⟨0, Nat.zero_le _, rfl, (Below.refl _ _).alloc (Nat.le_refl _) _, ⟨rfl, .inr ⟨w5.heap.size, 0, #[], rfl, Nat.le_refl _, heap_alloc_new _ _, Nat.le_refl _, Nat.zero_le _, rfl, rfl⟩⟩⟩
            case round =>
              obtain ⟨k, hk, rfl, hb, hown⟩ := hrel
              obtain ⟨A1, c1, rfl⟩ := ownForm hown
              have HBR := Lib.hid hb
              have HOW := Lib.hid hown
              have hsz := hb.size
              have hk0 : (0 : Int) ≤ (k : Int) := by omega
              by_cases hlk : k < cs.length
              · have hk1 : (k : Int) < (cs.length : Int) := by omega
                obtain ⟨x, hx⟩ : ∃ x, cs[k]? = some x := ⟨_, List.getElem?_eq_getElem hlk⟩
                obtain ⟨b, o, hA, hB, x0, x1⟩ := (HRC5.out.later hb) k x hx
                injection hA with hA; injection hA with e1 e2; subst e1; subst e2
                have HLT := Lib.hid (light_take hx)
                have hkl : ((cs.take k).map fun c => (c.1, (0 : Int))).length = k := by rw [List.length_map, List.length_take]; omega
                rw [Nat.zero_add] at x0
                clear hb hown hx x1
                go_wp2_with (at_builtin; refine wpList_append_lies _ rfl _ _ _ rfl w5.heap.size 38 i0 _ 2 16 Try.underlying32 hi0 hz0 hz1' hz2 rfl (by decide) (.slice A1 k c1) k (ctCells ((cs.take k).map fun c => (c.1, (0 : Int)))) rfl (HOW.out.alloc _) ⟨wr.heap.size, 0, none⟩ 1 1 [.int .i64 x.1, .int .i64 0] rfl rfl (World.news_of_block (cs := #[.int .i64 x.1, .int .i64 0]) (t := 38) (fr := (0, 0)) (heap_alloc_new wr _)) (by simp [Value.oneCell']) (by omega) (by unfold maxLen; omega) (by omega) (by simp; omega) (wr.heap.size + 1) (by simp) ?_; intro gg cg w6 hown6 hgrow6 hat6 hlt6)
                have hvl := HOW.out.lt
                have HO6 : Hid (w6.ownsRow w5.heap.size 38 2 (.slice (some ⟨gg, 0, none⟩) (k + 1) cg) (k + 1) (ctCells ((cs.take (k + 1)).map fun c => (c.1, (0 : Int))))) := by
                  show World.ownsRow _ _ _ _ _ _ _
                  rw [HLT.out, ctCells_snoc]; exact hown6
                have HB6 : Hid (Below w5.heap.size w5 w6) := by
                  have h9 := HBR.out.alloc hsz (.cells #[.int .i64 x.1, .int .i64 0] 38)
                  exact ⟨hgrow6.os.trans h9.os, hgrow6.tape.trans h9.tape, hgrow6.output.trans h9.output, Nat.le_trans h9.size hgrow6.size, fun i hi => (hgrow6.block i (by simp; omega) (fun e => by have := (hvl i e.symm).1; omega)).trans (h9.block i hi)⟩
                clear hown6 hgrow6 hat6 hlt6 hvl
                go_wp2_with fail
                go_roundw
                case rel => exact ⟨k + 1, by omega, by go_num, HB6.out, HO6.out⟩
                case measure => (simp [intOf]) <;> omega
              · obtain rfl : k = cs.length := by omega
                rw [List.take_length] at hown
                have HLI := Lib.hid (rc_of_own (cs := cs.map fun c => (c.1, (0 : Int))) (by rw [List.length_map]; exact hown))
                obtain ⟨k60, k61⟩ := keep2 hb ⟨k50, k51⟩ hz5_0
                have hz6_0 := Nat.lt_of_lt_of_le hz5_0 hb.size
                have HB6 := Lib.hid (bstep (B := wd.heap.size) (W := wd) HB5.out (Nat.le_of_lt hz5_0) hb)
                have HLE6 := Lib.hid (HLE.out.later hb)
                have HLM : Hid ((cs.map fun c => (c.1, (0 : Int))).length = cs.length) := List.length_map _
                have hcon7 : ∀ W : World, RW W W.heap.size A' ws → Calls Try.prog 18 #[.agg #[.int .i64 m, .slice A' ws.length c'], .int .i64 ee, .slice (some ⟨wr.heap.size, 0, none⟩) 0 0] W fun e w' => e = .returned (.bool true) ∧ Below W.heap.size W w' := fun W g1 => by
                  have h := PacksOk_any m ee A' c' ws (some ⟨wr.heap.size, 0, none⟩) 0 [] W g1 (RC.nil_ _ _)
                  rw [HNON.out] at h
                  exact h
                have HC7 := Lib.hid hcon7
                clear hb hown hcon7 HOW HBR
                go_wp2_with fail
                refine (HC7.out _ (HRW.out.later (HB6.out.alloc (Nat.le_of_lt hz6_0) _))).mono ?_; rintro e7 w7 ⟨rfl, hb7'⟩
                have hb7 : Below wr.heap.size wr w7 := bstep (B := wr.heap.size) (W := wr) ((Below.refl _ _).alloc (Nat.le_refl _) _) (by simp) hb7'
                obtain ⟨k70, k71⟩ := keep2 hb7 ⟨k60, k61⟩ hz6_0
                have hz7_0 := Nat.lt_of_lt_of_le hz6_0 hb7.size
                have HB7 := Lib.hid (bstep (B := wd.heap.size) (W := wd) HB6.out (Nat.le_of_lt hz6_0) hb7)
                have HLE7 := Lib.hid (HLE6.out.later hb7)
                have HLI7 := Lib.hid (HLI.out.later hb7)
                clear hb7 hb7' k60 k61
                go_wp2_with fail
                refine (alive_any _).mono ?_; rintro ez wz ⟨rfl, hbz⟩
                have HBZ := Lib.hid (bstep (B := wd.heap.size) (W := wd) HB7.out (Nat.le_of_lt hz7_0) hbz)
                clear hbz
                go_wp2_with fail
                go_ret
                exact ⟨rfl, bstep HBD.out hzd ⟨HBZ.out.os, HBZ.out.tape, HBZ.out.output, HBZ.out.size, HBZ.out.block⟩⟩
          · have hcs0 : cs = [] := List.length_eq_zero_iff.1 (by clear v1 v2; omega)
            have hcn0 : ¬ (0 : Int) < (cs.length : Int) := by clear v1 v2; omega
            have HCS0 := Lib.hid hcs0
            clear hcs0
            go_wp2_with (at_builtin; clear v1 v2; refine wpList_append_copy rfl _ _ _ rfl w3.heap.size 38 i0 _ 2 16 Try.underlying32 hi0 hz0 hz1' hz2 rfl (by decide) (.slice (some ⟨w3.heap.size, 0, none⟩) 0 0) rfl hon3.out ⟨bc, 0, none⟩ cs.length cc (ctCells cs) rfl (ctCells_len cs) hnw3.out (ctCells_one _) hmx3 hby3 (by simp) ?_; intro A5 c5 w5 hown5 hg5; have hb5 := below_grow ((Below.refl w3.heap.size w3).alloc (Nat.le_refl _) _) hg5 (Nat.le_refl _); obtain ⟨k50, k51⟩ := keep2 hb5 ⟨b0, b1⟩ hz3_0; have hz5_0 := Nat.lt_of_lt_of_le hz3_0 hb5.size; have HB5 := Lib.hid (bstep (B := wd.heap.size) (W := wd) HB3.out (Nat.le_of_lt hz3_0) hb5); have HRC5 := Lib.hid (HRC3.out.later hb5); have HLE := Lib.hid (rc_of_own hown5); clear hown5 hg5 hb5)
            have HLP : Hid (packsOk (m : Int) ws ee cs = packsOk (m : Int) ws ee cs) := rfl
            (try go_wp2_with fail)
            go_loopw [8, 9] (fun v i wr => ∃ k : Nat, k ≤ cs.length ∧ i = .int .i64 k ∧ Below w5.heap.size w5 wr ∧ wr.ownsRow w5.heap.size 38 2 v k (ctCells ((cs.take k).map fun c => (c.1, (0 : Int))))) (fun _ i _ => cs.length - (intOf i).toNat)
            case atStart => exact ⟨0, Nat.zero_le _, rfl, (Below.refl _ _).alloc (Nat.le_refl _) _, ⟨rfl, .inr ⟨w5.heap.size, 0, #[], rfl, Nat.le_refl _, heap_alloc_new _ _, Nat.le_refl _, Nat.zero_le _, rfl, rfl⟩⟩⟩
            case round =>
              obtain ⟨k, hk, rfl, hb, hown⟩ := hrel
              obtain ⟨A1, c1, rfl⟩ := ownForm hown
              have HBR := Lib.hid hb
              have HOW := Lib.hid hown
              have hsz := hb.size
              have hk0 : (0 : Int) ≤ (k : Int) := by omega
              by_cases hlk : k < cs.length
              · exfalso; omega
              · obtain rfl : k = cs.length := by omega
                rw [List.take_length] at hown
                have HLI := Lib.hid (rc_of_own (cs := cs.map fun c => (c.1, (0 : Int))) (by rw [List.length_map]; exact hown))
                obtain ⟨k60, k61⟩ := keep2 hb ⟨k50, k51⟩ hz5_0
                have hz6_0 := Nat.lt_of_lt_of_le hz5_0 hb.size
                have HB6 := Lib.hid (bstep (B := wd.heap.size) (W := wd) HB5.out (Nat.le_of_lt hz5_0) hb)
                have HLE6 := Lib.hid (HLE.out.later hb)
                have HLM : Hid ((cs.map fun c => (c.1, (0 : Int))).length = cs.length) := List.length_map _
                have hcon7 : ∀ W : World, RW W W.heap.size A' ws → Calls Try.prog 18 #[.agg #[.int .i64 m, .slice A' ws.length c'], .int .i64 ee, .slice (some ⟨wr.heap.size, 0, none⟩) 0 0] W fun e w' => e = .returned (.bool true) ∧ Below W.heap.size W w' := fun W g1 => by
                  have h := PacksOk_any m ee A' c' ws (some ⟨wr.heap.size, 0, none⟩) 0 [] W g1 (RC.nil_ _ _)
                  rw [HNON.out] at h
                  exact h
                have HC7 := Lib.hid hcon7
                clear hb hown hcon7 HOW HBR
                go_wp2_with fail
                refine (HC7.out _ (HRW.out.later (HB6.out.alloc (Nat.le_of_lt hz6_0) _))).mono ?_; rintro e7 w7 ⟨rfl, hb7'⟩
                have hb7 : Below wr.heap.size wr w7 := bstep (B := wr.heap.size) (W := wr) ((Below.refl _ _).alloc (Nat.le_refl _) _) (by simp) hb7'
                obtain ⟨k70, k71⟩ := keep2 hb7 ⟨k60, k61⟩ hz6_0
                have hz7_0 := Nat.lt_of_lt_of_le hz6_0 hb7.size
                have HB7 := Lib.hid (bstep (B := wd.heap.size) (W := wd) HB6.out (Nat.le_of_lt hz6_0) hb7)
                have HLE7 := Lib.hid (HLE6.out.later hb7)
                have HLI7 := Lib.hid (HLI.out.later hb7)
                clear hb7 hb7' k60 k61
                go_wp2_with fail
                refine (alive_any _).mono ?_; rintro ez wz ⟨rfl, hbz⟩
                have HBZ := Lib.hid (bstep (B := wd.heap.size) (W := wd) HB7.out (Nat.le_of_lt hz7_0) hbz)
                clear hbz
                go_wp2_with fail
                go_ret
                exact ⟨rfl, bstep HBD.out hzd ⟨HBZ.out.os, HBZ.out.tape, HBZ.out.output, HBZ.out.size, HBZ.out.block⟩⟩
        · have HPK := Lib.hid hpk
          have HFW := Lib.hid (packsOk_fewer hpk)
          have HLTP := Lib.hid (packsOk_light hpk)
          clear hnt hni hM hpe hpk
          go_wp2_with fail
          refine (PacksOk_any _ _ _ _ _ _ _ _ _ (HRW.out.later (by go_grown)) (HRC.out.later (by go_grown))).mono ?_; rintro e w1 ⟨rfl, hb1⟩
          rw [HPK.out]
          obtain ⟨hc1, hf1⟩ := bcell hb1
          have hz1_0 : wd.heap.size < w1.heap.size := by have hq := hb1.size; (try simp at hq); omega
          have HK1 := Lib.hid hb1
          have HB1 := Lib.hid (bstep (B := wd.heap.size) (W := wd) (by (try have hp := HB0.out); go_grown) (by go_size) hb1); clear hb1
          go_wp2_with fail
          refine (sPacksOk_any _ _ _ _ _ _ _ _ _ (HRW.out.later (by have := HB1.out; go_grown)) (by omega) (HRC.out.later (by have := HB1.out; go_grown)) (by omega)).mono ?_; rintro e w2 ⟨rfl, hb2⟩
          rw [HPK.out]
          obtain ⟨hc2, hf2⟩ := bcell hb2
          have hz2_0 : wd.heap.size < w2.heap.size := by have hq := hb2.size; (try simp at hq); omega
          have HK2 := Lib.hid hb2
          have HB2 := Lib.hid (bstep (B := wd.heap.size) (W := wd) (by have hp := HB1.out; go_grown) (by go_size) hb2); clear hb2
          go_wp2_with fail
          refine (sNetOk_any _ _ _ _ _ (HRW.out.later (by have := HB2.out; go_grown)) (by omega)).mono ?_; rintro e w3 ⟨rfl, hb3⟩
          rw [HNO.out]
          obtain ⟨hc3, hf3⟩ := bcell hb3
          have hz3_0 : wd.heap.size < w3.heap.size := by have hq := hb3.size; (try simp at hq); omega
          have HK3 := Lib.hid hb3
          have HB3 := Lib.hid (bstep (B := wd.heap.size) (W := wd) (by have hp := HB2.out; go_grown) (by go_size) hb3); clear hb3
          have k3 : w3.cell? ⟨wd.heap.size, 0, none⟩ = some (.int .i64 m) ∧ w3.cell? ⟨wd.heap.size, 1, none⟩ = some (.slice A' ws.length c') := ⟨by go_simp, by go_simp⟩
          clear hc1 hf1 hc2 hf2 hc3 hf3
          obtain ⟨b0, b1⟩ := k3
          have HRC3 := Lib.hid (HRC.out.later HB3.out)
          have hon3 : Hid ((w3.alloc (.cells #[] 38)).ownsRow w3.heap.size 38 2 (.slice (some ⟨w3.heap.size, 0, none⟩) 0 0) 0 []) := ⟨rfl, .inr ⟨w3.heap.size, 0, #[], rfl, Nat.le_refl _, heap_alloc_new _ _, Nat.le_refl _, Nat.zero_le _, rfl, rfl⟩⟩
          have hnw3 := Lib.hid (RC.news (RC.later (HRC3.out) ((Below.refl w3.heap.size w3).alloc (Nat.le_refl _) (.cells #[] 38))))
          have hmx3 : cs.length ≤ maxLen := (by unfold maxLen; omega)
          have hby3 : cs.length * 16 ≤ 140737488355328 := (by omega)
          have v1 := HV1.out
          have v2 := HV2.out
          by_cases hc0 : 0 < cs.length
          · obtain ⟨q, hq⟩ : ∃ q : Nat, cs.length = q + 1 := ⟨cs.length - 1, by clear v1 v2; omega⟩
            have hcp0 : (0 : Int) < (cs.length : Int) := by clear v1 v2; omega
            have hqc : (q : Int) ≤ (cc : Int) := by clear v1 v2; omega
            have hq0 : (0 : Int) ≤ (q : Int) := by clear v1 v2; omega
            have HQ : Hid (q = cs.length - 1) := by show _ = _; clear v1 v2; omega
            have HTQ : Hid ((cs.take q).length = q) := by show _ = _; rw [List.length_take]; clear v1 v2; omega
            have hsb : IntKind.i64.wrap ((cs.length : Int) - 1) = (q : Int) := by clear v1 v2; rw [show (cs.length : Int) - 1 = q from by omega]; exact IntWalk.i64_in _ ⟨by omega, by omega⟩
            have hsb2 : wrap64 ((cs.length : Int) - 1) = (q : Int) := by clear v1 v2 hsb; rw [show (cs.length : Int) - 1 = q from by omega]; exact IntWalk.wrap64_in _ ⟨by omega, by omega⟩
            have HS1 := Lib.hid hsb
            have HS2 := Lib.hid hsb2
            have hq10 : q ≤ 10 := by clear v1 v2 hsb hsb2; omega
            clear hsb hsb2 hq
            go_wp2_with (first | (at_builtin; clear v1 v2; refine wpList_append_copy rfl _ _ _ rfl w3.heap.size 38 i0 _ 2 16 Try.underlying32 hi0 hz0 hz1' hz2 rfl (by decide) (.slice (some ⟨w3.heap.size, 0, none⟩) 0 0) rfl hon3.out ⟨bc, 0, none⟩ cs.length cc (ctCells cs) rfl (ctCells_len cs) hnw3.out (ctCells_one _) hmx3 hby3 (by simp) ?_; intro A4 c4 w4 hown4 hg4; have hb4 := below_grow ((Below.refl w3.heap.size w3).alloc (Nat.le_refl _) _) hg4 (Nat.le_refl _); obtain ⟨k40, k41⟩ := keep2 hb4 ⟨b0, b1⟩ hz3_0; have hz4_0 := Nat.lt_of_lt_of_le hz3_0 hb4.size; have HB4 := Lib.hid (bstep (B := wd.heap.size) (W := wd) HB3.out (Nat.le_of_lt hz3_0) hb4); have HRC4 := Lib.hid (HRC3.out.later hb4); have hon4 : Hid ((w4.alloc (.cells #[] 38)).ownsRow w4.heap.size 38 2 (.slice (some ⟨w4.heap.size, 0, none⟩) 0 0) 0 []) := ⟨rfl, .inr ⟨w4.heap.size, 0, #[], rfl, Nat.le_refl _, heap_alloc_new _ _, Nat.le_refl _, Nat.zero_le _, rfl, rfl⟩⟩; have hnw4 := Lib.hid (RC.news (RC.later (HRC4.out.take q) ((Below.refl w4.heap.size w4).alloc (Nat.le_refl _) (.cells #[] 38)))); have hmx4 : q ≤ maxLen := (by unfold maxLen; omega); have hby4 : q * 16 ≤ 140737488355328 := (by omega); clear hown4 hg4 hb4; have hsb := HS1.out; have hsb2 := HS2.out) | (at_builtin; clear hsb hsb2; refine wpList_append_copy rfl _ _ _ rfl w4.heap.size 38 i0 _ 2 16 Try.underlying32 hi0 hz0 hz1' hz2 rfl (by decide) (.slice (some ⟨w4.heap.size, 0, none⟩) 0 0) rfl hon4.out ⟨bc, 0, none⟩ q cc (ctCells (cs.take q)) rfl (by rw [ctCells_len, HTQ.out]) hnw4.out (ctCells_one _) hmx4 hby4 (by simp) ?_; intro A5 c5 w5 hown5 hg5; have hb5 := below_grow ((Below.refl w4.heap.size w4).alloc (Nat.le_refl _) _) hg5 (Nat.le_refl _); obtain ⟨k50, k51⟩ := keep2 hb5 ⟨k40, k41⟩ hz4_0; have hz5_0 := Nat.lt_of_lt_of_le hz4_0 hb5.size; have HB5 := Lib.hid (bstep (B := wd.heap.size) (W := wd) HB4.out (Nat.le_of_lt hz4_0) hb5); have HRC5 := Lib.hid (HRC4.out.later hb5); have HLE := Lib.hid (rc_of_own (cs := cs.take q) (by rw [HTQ.out]; exact hown5)); clear hown5 hg5 hb5))
            try clear hsb hsb2
            have HLP : Hid (packsOk (m : Int) ws ee (cs.take q) = true) := by show _ = _; rw [HQ.out]; exact HFW.out
            (try go_wp2_with fail)
            go_loopw [8, 9] (fun v i wr => ∃ k : Nat, k ≤ cs.length ∧ i = .int .i64 k ∧ Below w5.heap.size w5 wr ∧ wr.ownsRow w5.heap.size 38 2 v k (ctCells ((cs.take k).map fun c => (c.1, (0 : Int))))) (fun _ i _ => cs.length - (intOf i).toNat)
            case atStart => exact ⟨0, Nat.zero_le _, rfl, (Below.refl _ _).alloc (Nat.le_refl _) _, ⟨rfl, .inr ⟨w5.heap.size, 0, #[], rfl, Nat.le_refl _, heap_alloc_new _ _, Nat.le_refl _, Nat.zero_le _, rfl, rfl⟩⟩⟩
            case round =>
              obtain ⟨k, hk, rfl, hb, hown⟩ := hrel
              obtain ⟨A1, c1, rfl⟩ := ownForm hown
              have HBR := Lib.hid hb
              have HOW := Lib.hid hown
              have hsz := hb.size
              have hk0 : (0 : Int) ≤ (k : Int) := by omega
              by_cases hlk : k < cs.length
              · have hk1 : (k : Int) < (cs.length : Int) := by omega
                obtain ⟨x, hx⟩ : ∃ x, cs[k]? = some x := ⟨_, List.getElem?_eq_getElem hlk⟩
                obtain ⟨b, o, hA, hB, x0, x1⟩ := (HRC5.out.later hb) k x hx
                injection hA with hA; injection hA with e1 e2; subst e1; subst e2
                have HLT := Lib.hid (light_take hx)
                have hkl : ((cs.take k).map fun c => (c.1, (0 : Int))).length = k := by rw [List.length_map, List.length_take]; omega
                rw [Nat.zero_add] at x0
                clear hb hown hx x1
                go_wp2_with (at_builtin; refine wpList_append_lies _ rfl _ _ _ rfl w5.heap.size 38 i0 _ 2 16 Try.underlying32 hi0 hz0 hz1' hz2 rfl (by decide) (.slice A1 k c1) k (ctCells ((cs.take k).map fun c => (c.1, (0 : Int)))) rfl (HOW.out.alloc _) ⟨wr.heap.size, 0, none⟩ 1 1 [.int .i64 x.1, .int .i64 0] rfl rfl (World.news_of_block (cs := #[.int .i64 x.1, .int .i64 0]) (t := 38) (fr := (0, 0)) (heap_alloc_new wr _)) (by simp [Value.oneCell']) (by omega) (by unfold maxLen; omega) (by omega) (by simp; omega) (wr.heap.size + 1) (by simp) ?_; intro gg cg w6 hown6 hgrow6 hat6 hlt6)
                have hvl := HOW.out.lt
                have HO6 : Hid (w6.ownsRow w5.heap.size 38 2 (.slice (some ⟨gg, 0, none⟩) (k + 1) cg) (k + 1) (ctCells ((cs.take (k + 1)).map fun c => (c.1, (0 : Int))))) := by
                  show World.ownsRow _ _ _ _ _ _ _
                  rw [HLT.out, ctCells_snoc]; exact hown6
                have HB6 : Hid (Below w5.heap.size w5 w6) := by
                  have h9 := HBR.out.alloc hsz (.cells #[.int .i64 x.1, .int .i64 0] 38)
                  exact ⟨hgrow6.os.trans h9.os, hgrow6.tape.trans h9.tape, hgrow6.output.trans h9.output, Nat.le_trans h9.size hgrow6.size, fun i hi => (hgrow6.block i (by simp; omega) (fun e => by have := (hvl i e.symm).1; omega)).trans (h9.block i hi)⟩
                clear hown6 hgrow6 hat6 hlt6 hvl
                go_wp2_with fail
                go_roundw
                case rel => exact ⟨k + 1, by omega, by go_num, HB6.out, HO6.out⟩
                case measure => (simp [intOf]) <;> omega
              · obtain rfl : k = cs.length := by omega
                rw [List.take_length] at hown
                have HLI := Lib.hid (rc_of_own (cs := cs.map fun c => (c.1, (0 : Int))) (by rw [List.length_map]; exact hown))
                obtain ⟨k60, k61⟩ := keep2 hb ⟨k50, k51⟩ hz5_0
                have hz6_0 := Nat.lt_of_lt_of_le hz5_0 hb.size
                have HB6 := Lib.hid (bstep (B := wd.heap.size) (W := wd) HB5.out (Nat.le_of_lt hz5_0) hb)
                have HLE6 := Lib.hid (HLE.out.later hb)
                have HLM : Hid ((cs.map fun c => (c.1, (0 : Int))).length = cs.length) := List.length_map _
                have hcon7 : ∀ W : World, RW W W.heap.size A' ws → Calls Try.prog 18 #[.agg #[.int .i64 m, .slice A' ws.length c'], .int .i64 ee, .slice (some ⟨wr.heap.size, 0, none⟩) 0 0] W fun e w' => e = .returned (.bool true) ∧ Below W.heap.size W w' := fun W g1 => by
                  have h := PacksOk_any m ee A' c' ws (some ⟨wr.heap.size, 0, none⟩) 0 [] W g1 (RC.nil_ _ _)
                  rw [HNON.out] at h
                  exact h
                have hcon8 : ∀ W : World, RW W W.heap.size A' ws → RC W W.heap.size A5 (cs.take q) → Calls Try.prog 18 #[.agg #[.int .i64 m, .slice A' ws.length c'], .int .i64 ee, .slice A5 q c5] W fun e w' => e = .returned (.bool true) ∧ Below W.heap.size W w' := fun W g1 g2 => by
                  have h := PacksOk_any m ee A' c' ws A5 c5 (cs.take q) W g1 g2
                  rw [HLP.out, HTQ.out] at h
                  exact h
                have hcon9 : ∀ W : World, RW W W.heap.size A' ws → RC W W.heap.size A1 (cs.map fun c => (c.1, (0 : Int))) → Calls Try.prog 18 #[.agg #[.int .i64 m, .slice A' ws.length c'], .int .i64 ee, .slice A1 cs.length c1] W fun e w' => e = .returned (.bool true) ∧ Below W.heap.size W w' := fun W g1 g2 => by
                  have h := PacksOk_any m ee A' c' ws A1 c1 (cs.map fun c => (c.1, (0 : Int))) W g1 g2
                  rw [HLTP.out, HLM.out] at h
                  exact h
                have HC7 := Lib.hid hcon7
                have HC8 := Lib.hid hcon8
                have HC9 := Lib.hid hcon9
                clear hb hown hcon7 hcon8 hcon9 HOW HBR
                go_wp2_with fail
                refine (HC7.out _ (HRW.out.later (HB6.out.alloc (Nat.le_of_lt hz6_0) _))).mono ?_; rintro e7 w7 ⟨rfl, hb7'⟩
                have hb7 : Below wr.heap.size wr w7 := bstep (B := wr.heap.size) (W := wr) ((Below.refl _ _).alloc (Nat.le_refl _) _) (by simp) hb7'
                obtain ⟨k70, k71⟩ := keep2 hb7 ⟨k60, k61⟩ hz6_0
                have hz7_0 := Nat.lt_of_lt_of_le hz6_0 hb7.size
                have HB7 := Lib.hid (bstep (B := wd.heap.size) (W := wd) HB6.out (Nat.le_of_lt hz6_0) hb7)
                have HLE7 := Lib.hid (HLE6.out.later hb7)
                have HLI7 := Lib.hid (HLI.out.later hb7)
                clear hb7 hb7' k60 k61
                go_wp2_with fail
                refine (HC8.out _ (HRW.out.later HB7.out) HLE7.out).mono ?_; rintro e8 w8 ⟨rfl, hb8⟩
                obtain ⟨k80, k81⟩ := keep2 hb8 ⟨k70, k71⟩ hz7_0
                have hz8_0 := Nat.lt_of_lt_of_le hz7_0 hb8.size
                have HB8 := Lib.hid (bstep (B := wd.heap.size) (W := wd) HB7.out (Nat.le_of_lt hz7_0) hb8)
                have HLI8 := Lib.hid (HLI7.out.later hb8)
                clear hb8 k70 k71
                go_wp2_with fail
                refine (HC9.out _ (HRW.out.later HB8.out) HLI8.out).mono ?_; rintro e9 w9 ⟨rfl, hb9⟩
                have hz9_0 := Nat.lt_of_lt_of_le hz8_0 hb9.size
                have HB9 := Lib.hid (bstep (B := wd.heap.size) (W := wd) HB8.out (Nat.le_of_lt hz8_0) hb9)
                clear hb9
                go_wp2_with fail
                refine (alive_any _).mono ?_; rintro ez wz ⟨rfl, hbz⟩
                have HBZ := Lib.hid (bstep (B := wd.heap.size) (W := wd) HB9.out (Nat.le_of_lt hz9_0) hbz)
                clear hbz
                go_wp2_with fail
                go_ret
                exact ⟨rfl, bstep HBD.out hzd ⟨HBZ.out.os, HBZ.out.tape, HBZ.out.output, HBZ.out.size, HBZ.out.block⟩⟩
          · have hcs0 : cs = [] := List.length_eq_zero_iff.1 (by clear v1 v2; omega)
            have hcn0 : ¬ (0 : Int) < (cs.length : Int) := by clear v1 v2; omega
            have HCS0 := Lib.hid hcs0
            clear hcs0
            go_wp2_with (at_builtin; clear v1 v2; refine wpList_append_copy rfl _ _ _ rfl w3.heap.size 38 i0 _ 2 16 Try.underlying32 hi0 hz0 hz1' hz2 rfl (by decide) (.slice (some ⟨w3.heap.size, 0, none⟩) 0 0) rfl hon3.out ⟨bc, 0, none⟩ cs.length cc (ctCells cs) rfl (ctCells_len cs) hnw3.out (ctCells_one _) hmx3 hby3 (by simp) ?_; intro A5 c5 w5 hown5 hg5; have hb5 := below_grow ((Below.refl w3.heap.size w3).alloc (Nat.le_refl _) _) hg5 (Nat.le_refl _); obtain ⟨k50, k51⟩ := keep2 hb5 ⟨b0, b1⟩ hz3_0; have hz5_0 := Nat.lt_of_lt_of_le hz3_0 hb5.size; have HB5 := Lib.hid (bstep (B := wd.heap.size) (W := wd) HB3.out (Nat.le_of_lt hz3_0) hb5); have HRC5 := Lib.hid (HRC3.out.later hb5); have HLE := Lib.hid (rc_of_own hown5); clear hown5 hg5 hb5)
            have HLP : Hid (packsOk (m : Int) ws ee cs = true) := HPK.out
            (try go_wp2_with fail)
            go_loopw [8, 9] (fun v i wr => ∃ k : Nat, k ≤ cs.length ∧ i = .int .i64 k ∧ Below w5.heap.size w5 wr ∧ wr.ownsRow w5.heap.size 38 2 v k (ctCells ((cs.take k).map fun c => (c.1, (0 : Int))))) (fun _ i _ => cs.length - (intOf i).toNat)
            case atStart => exact ⟨0, Nat.zero_le _, rfl, (Below.refl _ _).alloc (Nat.le_refl _) _, ⟨rfl, .inr ⟨w5.heap.size, 0, #[], rfl, Nat.le_refl _, heap_alloc_new _ _, Nat.le_refl _, Nat.zero_le _, rfl, rfl⟩⟩⟩
            case round =>
              obtain ⟨k, hk, rfl, hb, hown⟩ := hrel
              obtain ⟨A1, c1, rfl⟩ := ownForm hown
              have HBR := Lib.hid hb
              have HOW := Lib.hid hown
              have hsz := hb.size
              have hk0 : (0 : Int) ≤ (k : Int) := by omega
              by_cases hlk : k < cs.length
              · exfalso; omega
              · obtain rfl : k = cs.length := by omega
                rw [List.take_length] at hown
                have HLI := Lib.hid (rc_of_own (cs := cs.map fun c => (c.1, (0 : Int))) (by rw [List.length_map]; exact hown))
                obtain ⟨k60, k61⟩ := keep2 hb ⟨k50, k51⟩ hz5_0
                have hz6_0 := Nat.lt_of_lt_of_le hz5_0 hb.size
                have HB6 := Lib.hid (bstep (B := wd.heap.size) (W := wd) HB5.out (Nat.le_of_lt hz5_0) hb)
                have HLE6 := Lib.hid (HLE.out.later hb)
                have HLM : Hid ((cs.map fun c => (c.1, (0 : Int))).length = cs.length) := List.length_map _
                have hcon7 : ∀ W : World, RW W W.heap.size A' ws → Calls Try.prog 18 #[.agg #[.int .i64 m, .slice A' ws.length c'], .int .i64 ee, .slice (some ⟨wr.heap.size, 0, none⟩) 0 0] W fun e w' => e = .returned (.bool true) ∧ Below W.heap.size W w' := fun W g1 => by
                  have h := PacksOk_any m ee A' c' ws (some ⟨wr.heap.size, 0, none⟩) 0 [] W g1 (RC.nil_ _ _)
                  rw [HNON.out] at h
                  exact h
                have hcon8 : ∀ W : World, RW W W.heap.size A' ws → RC W W.heap.size A5 (cs) → Calls Try.prog 18 #[.agg #[.int .i64 m, .slice A' ws.length c'], .int .i64 ee, .slice A5 cs.length c5] W fun e w' => e = .returned (.bool true) ∧ Below W.heap.size W w' := fun W g1 g2 => by
                  have h := PacksOk_any m ee A' c' ws A5 c5 (cs) W g1 g2
                  rw [HLP.out] at h
                  exact h
                have hcon9 : ∀ W : World, RW W W.heap.size A' ws → RC W W.heap.size A1 (cs.map fun c => (c.1, (0 : Int))) → Calls Try.prog 18 #[.agg #[.int .i64 m, .slice A' ws.length c'], .int .i64 ee, .slice A1 cs.length c1] W fun e w' => e = .returned (.bool true) ∧ Below W.heap.size W w' := fun W g1 g2 => by
                  have h := PacksOk_any m ee A' c' ws A1 c1 (cs.map fun c => (c.1, (0 : Int))) W g1 g2
                  rw [HLTP.out, HLM.out] at h
                  exact h
                have HC7 := Lib.hid hcon7
                have HC8 := Lib.hid hcon8
                have HC9 := Lib.hid hcon9
                clear hb hown hcon7 hcon8 hcon9 HOW HBR
                go_wp2_with fail
                refine (HC7.out _ (HRW.out.later (HB6.out.alloc (Nat.le_of_lt hz6_0) _))).mono ?_; rintro e7 w7 ⟨rfl, hb7'⟩
                have hb7 : Below wr.heap.size wr w7 := bstep (B := wr.heap.size) (W := wr) ((Below.refl _ _).alloc (Nat.le_refl _) _) (by simp) hb7'
                obtain ⟨k70, k71⟩ := keep2 hb7 ⟨k60, k61⟩ hz6_0
                have hz7_0 := Nat.lt_of_lt_of_le hz6_0 hb7.size
                have HB7 := Lib.hid (bstep (B := wd.heap.size) (W := wd) HB6.out (Nat.le_of_lt hz6_0) hb7)
                have HLE7 := Lib.hid (HLE6.out.later hb7)
                have HLI7 := Lib.hid (HLI.out.later hb7)
                clear hb7 hb7' k60 k61
                go_wp2_with fail
                refine (HC8.out _ (HRW.out.later HB7.out) HLE7.out).mono ?_; rintro e8 w8 ⟨rfl, hb8⟩
                obtain ⟨k80, k81⟩ := keep2 hb8 ⟨k70, k71⟩ hz7_0
                have hz8_0 := Nat.lt_of_lt_of_le hz7_0 hb8.size
                have HB8 := Lib.hid (bstep (B := wd.heap.size) (W := wd) HB7.out (Nat.le_of_lt hz7_0) hb8)
                have HLI8 := Lib.hid (HLI7.out.later hb8)
                clear hb8 k70 k71
                go_wp2_with fail
                refine (HC9.out _ (HRW.out.later HB8.out) HLI8.out).mono ?_; rintro e9 w9 ⟨rfl, hb9⟩
                have hz9_0 := Nat.lt_of_lt_of_le hz8_0 hb9.size
                have HB9 := Lib.hid (bstep (B := wd.heap.size) (W := wd) HB8.out (Nat.le_of_lt hz8_0) hb9)
                clear hb9
                go_wp2_with fail
                refine (alive_any _).mono ?_; rintro ez wz ⟨rfl, hbz⟩
                have HBZ := Lib.hid (bstep (B := wd.heap.size) (W := wd) HB9.out (Nat.le_of_lt hz9_0) hbz)
                clear hbz
                go_wp2_with fail
                go_ret
                exact ⟨rfl, bstep HBD.out hzd ⟨HBZ.out.os, HBZ.out.tape, HBZ.out.output, HBZ.out.size, HBZ.out.block⟩⟩
      · have HPK : Hid (packsOk (m : Int) ws ee cs = false) := packsOk_ends (by
          cases h9 : plOk (m : Int) ee
          · rfl
          · have := (plOk_t h9).2
            rw [Int.toNat_natCast, hM] at this
            omega)
        have hgE : decide (M ≤ ee) = true := by simpa using he
        clear hnt hni hM hbs
        go_wp2_with fail
        refine (PacksOk_any _ _ _ _ _ _ _ _ _ (HRW.out.later (by go_grown)) (HRC.out.later (by go_grown))).mono ?_; rintro e w1 ⟨rfl, hb1⟩
        rw [HPK.out]
        obtain ⟨hc1, hf1⟩ := bcell hb1
        have hz1_0 : wd.heap.size < w1.heap.size := by have hq := hb1.size; (try simp at hq); omega
        have HK1 := Lib.hid hb1
        have HB1 := Lib.hid (bstep (B := wd.heap.size) (W := wd) (by (try have hp := HB0.out); go_grown) (by go_size) hb1); clear hb1
        go_wp2_with fail
        refine (sPacksOk_any _ _ _ _ _ _ _ _ _ (HRW.out.later (by have := HB1.out; go_grown)) (by omega) (HRC.out.later (by have := HB1.out; go_grown)) (by omega)).mono ?_; rintro e w2 ⟨rfl, hb2⟩
        rw [HPK.out]
        obtain ⟨hc2, hf2⟩ := bcell hb2
        have hz2_0 : wd.heap.size < w2.heap.size := by have hq := hb2.size; (try simp at hq); omega
        have HK2 := Lib.hid hb2
        have HB2 := Lib.hid (bstep (B := wd.heap.size) (W := wd) (by have hp := HB1.out; go_grown) (by go_size) hb2); clear hb2
        go_wp2_with fail
        refine (sNetOk_any _ _ _ _ _ (HRW.out.later (by have := HB2.out; go_grown)) (by omega)).mono ?_; rintro e w3 ⟨rfl, hb3⟩
        rw [HNO.out]
        obtain ⟨hc3, hf3⟩ := bcell hb3
        have hz3_0 : wd.heap.size < w3.heap.size := by have hq := hb3.size; (try simp at hq); omega
        have HK3 := Lib.hid hb3
        have HB3 := Lib.hid (bstep (B := wd.heap.size) (W := wd) (by have hp := HB2.out; go_grown) (by go_size) hb3); clear hb3
        have v1 := HV1.out
        have v2 := HV2.out
        go_wp2_with fail
        refine (alive_any _).mono ?_; rintro e w4 ⟨rfl, hb4⟩
        obtain ⟨hc4, hf4⟩ := bcell hb4
        have hz4_0 : wd.heap.size < w4.heap.size := by have hq := hb4.size; (try simp at hq); omega
        have HK4 := Lib.hid hb4
        have HB4 := Lib.hid (bstep (B := wd.heap.size) (W := wd) (by have hp := HB3.out; go_grown) (by go_size) hb4); clear hb4
        clear v1 v2
        go_wp2_with fail
        go_ret
        exact ⟨rfl, bstep HBD.out hzd HB4.out⟩
end Go.Proofs.Ytiioojjjpabaeaa
