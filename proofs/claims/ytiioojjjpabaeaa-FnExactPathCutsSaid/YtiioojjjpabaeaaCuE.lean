/- The model's PathCuts. -/
import Derived.Test.YtiioojjjpabaeaaCuC
import Derived.Test.YtiioojjjpabaeaaTd
import Derived.Test.YtiioojjjpabaeaaTr
import Derived.Test.YtiioojjjpabaeaaMD
set_option linter.unusedSimpArgs false
set_option linter.unusedVariables false
attribute [local go_sem ↓] Go.wp_at_zero Go.wp_at_succ
namespace Go.Proofs.Ytiioojjjpabaeaa
open Go.ChangeShapes Go.WideShapes Go.ChangeAt Go.RowKit

theorem hasPl_in (n p : Int) : inB p 0 (n - 1) = hasPl n p := by
  unfold inB hasPl
  rw [show decide (p ≤ n - 1) = decide (p < n) from by rw [decide_eq_decide]; omega]
theorem TabM.keepOff {w w' : World} {lo hi T m : Nat} {R C : Nat → Nat} {f : Nat → Nat → Int} (h : TabM w lo hi T m R C f) (hb : ∀ k, lo ≤ k → k < hi → w'.heap[k]? = w.heap[k]?) (hs : w.heap.size ≤ w'.heap.size) : TabM w' lo hi T m R C f := h.keep hb hs
/-- new memory that holds cuts, if they are told: a slice that is not nil -/
def NewCutsS (o : Option (List (Int × Int))) (w : World) (en : Ending) (w' : World) : Prop := match o with
  | none => ∃ g c1, en = .returned (.tuple #[.slice (some ⟨g, 0, none⟩) 0 c1, .bool false]) ∧ Below w.heap.size w w'
  | some L => ∃ g c1 lo hi, en = .returned (.tuple #[.slice (some ⟨g, 0, none⟩) L.length c1, .bool true]) ∧ RowF w' lo hi (some ⟨g, 0, none⟩) (L.length * 2) (ctF L) ∧ w.heap.size ≤ lo ∧ Below w.heap.size w w' ∧ L.length ≤ c1
theorem NewCutsS.new {o : Option (List (Int × Int))} {w : World} {en : Ending} {w' : World} (h : NewCutsS o w en w') : NewCuts o w en w' := by
  cases o with
  | none => obtain ⟨g, c1, h1, h2⟩ := h; exact ⟨_, c1, h1, h2⟩
  | some L => obtain ⟨g, c1, lo, hi, h1, h2, h3, h4, _⟩ := h; exact ⟨_, c1, lo, hi, h1, h2, h3, h4⟩
theorem noCuts (W : World) : (Instr.buildSlice 32 0 #[]).run Try.prog W = .ok (.slice (some ⟨W.heap.size, 0, none⟩) 0 0) (W.alloc (.cells #[] 38)) := by kernel_rfl
set_option maxRecDepth 100000 in
set_option maxHeartbeats 8000000 in
theorem sPathCuts_is (n a b : Int) (A : Option Addr) (cap : Nat) (ws : List Wy) (w : World) (hr : RW w w.heap.size A ws) (hm : ws.length ≤ 1073741824) :
    Calls Try.prog 23 #[.agg #[.int .i64 n, .slice A ws.length cap], .int .i64 a, .int .i64 b] w (NewCutsS (pathCuts n ws a b) w) := by
  have HR := Lib.hid hr
  clear hr
  have hbs := noCuts
  cases hno : netOk n ws
  · have HNO := Lib.hid hno
    rw [pathCuts_not (twoOk_no0 hno)]
    clear hno
    go_enter Try.func23, Try.ntmps23
    go_wp2_with fail
    refine (sNetOk_any _ _ _ _ _ (HR.out.later (by go_grown)) hm).mono ?_; rintro e w1 ⟨rfl, hb1⟩
    rw [HNO.out]
    obtain ⟨hc1, hf1⟩ := bcell hb1
    have hz1_0 : w.heap.size < w1.heap.size := by have hq := hb1.size; (try simp at hq); omega
    have HK1 := Lib.hid hb1
    have HB1 := Lib.hid (bstep (B := w.heap.size) (W := w) (by (try have hp := HB0.out); go_grown) (by go_size) hb1); clear hb1
    go_wp2_with fail
    refine bodyPost_ret (v := .tuple #[.slice (some ⟨w.heap.size + 1, 0, none⟩) 0 0, .bool false]) (by simp [results, Try.results23, go_sem]) rfl ?_
    exact ⟨_, _, rfl, HB1.out⟩
  · have HNO := Lib.hid hno
    have hni := netOk_t hno
    have hn6 := hni.hi
    have hn2 := hni.lo
    have hwr : IntKind.i64.wrap (n - 1) = n - 1 := IntWalk.i64_in _ ⟨by omega, by omega⟩
    have hwr2 : wrap64 (n - 1) = n - 1 := IntWalk.wrap64_in _ ⟨by omega, by omega⟩
    have HW1 := Lib.hid hwr
    have HW2 := Lib.hid hwr2
    clear hwr hwr2
    cases ha : hasPl n a
    · have HA := Lib.hid ha
      rw [pathCuts_not (twoOk_no1 ha)]
      clear hno hni ha
      go_enter Try.func23, Try.ntmps23
      go_wp2_with fail
      refine (sNetOk_any _ _ _ _ _ (HR.out.later (by go_grown)) hm).mono ?_; rintro e w1 ⟨rfl, hb1⟩
      rw [HNO.out]
      obtain ⟨hc1, hf1⟩ := bcell hb1
      have hz1_0 : w.heap.size < w1.heap.size := by have hq := hb1.size; (try simp at hq); omega
      have HK1 := Lib.hid hb1
      have HB1 := Lib.hid (bstep (B := w.heap.size) (W := w) (by (try have hp := HB0.out); go_grown) (by go_size) hb1); clear hb1
      have wk := HW1.out
      have wk2 := HW2.out
      go_wp2_with fail
      refine (l1In_any a 0 (n - 1) _).mono ?_; rintro e2 w2 ⟨rfl, rfl⟩; rw [hasPl_in, HA.out]
      go_wp2_with fail
      refine bodyPost_ret (v := .tuple #[.slice (some ⟨w.heap.size + 1, 0, none⟩) 0 0, .bool false]) (by simp [results, Try.results23, go_sem]) rfl ?_
      exact ⟨_, _, rfl, HB1.out⟩
    · have HA := Lib.hid ha
      cases hb : hasPl n b
      · have HBP := Lib.hid hb
        rw [pathCuts_not (twoOk_no2 hb)]
        clear hno hni ha hb
        go_enter Try.func23, Try.ntmps23
        go_wp2_with fail
        refine (sNetOk_any _ _ _ _ _ (HR.out.later (by go_grown)) hm).mono ?_; rintro e w1 ⟨rfl, hb1⟩
        rw [HNO.out]
        obtain ⟨hc1, hf1⟩ := bcell hb1
        have hz1_0 : w.heap.size < w1.heap.size := by have hq := hb1.size; (try simp at hq); omega
        have HK1 := Lib.hid hb1
        have HB1 := Lib.hid (bstep (B := w.heap.size) (W := w) (by (try have hp := HB0.out); go_grown) (by go_size) hb1); clear hb1
        have wk := HW1.out
        have wk2 := HW2.out
        go_wp2_with fail
        refine (l1In_any a 0 (n - 1) _).mono ?_; rintro e2 w2 ⟨rfl, rfl⟩; rw [hasPl_in, HA.out]
        go_wp2_with fail
        refine (l1In_any b 0 (n - 1) _).mono ?_; rintro e2 w2 ⟨rfl, rfl⟩; rw [hasPl_in, HBP.out]
        go_wp2_with fail
        refine bodyPost_ret (v := .tuple #[.slice (some ⟨w.heap.size + 1, 0, none⟩) 0 0, .bool false]) (by simp [results, Try.results23, go_sem]) rfl ?_
        exact ⟨_, _, rfl, HB1.out⟩
      · have HBP := Lib.hid hb
        by_cases hab : a = b
        · have hab1 : (a == b) = true := by simpa using hab
          rw [pathCuts_not (twoOk_no3 hab)]
          have HAB := Lib.hid hab1
          clear hno hni ha hb hab hab1
          go_enter Try.func23, Try.ntmps23
          go_wp2_with fail
          refine (sNetOk_any _ _ _ _ _ (HR.out.later (by go_grown)) hm).mono ?_; rintro e w1 ⟨rfl, hb1⟩
          rw [HNO.out]
          obtain ⟨hc1, hf1⟩ := bcell hb1
          have hz1_0 : w.heap.size < w1.heap.size := by have hq := hb1.size; (try simp at hq); omega
          have HK1 := Lib.hid hb1
          have HB1 := Lib.hid (bstep (B := w.heap.size) (W := w) (by (try have hp := HB0.out); go_grown) (by go_size) hb1); clear hb1
          have wk := HW1.out
          have wk2 := HW2.out
          go_wp2_with fail
          refine (l1In_any a 0 (n - 1) _).mono ?_; rintro e2 w2 ⟨rfl, rfl⟩; rw [hasPl_in, HA.out]
          go_wp2_with fail
          refine (l1In_any b 0 (n - 1) _).mono ?_; rintro e2 w2 ⟨rfl, rfl⟩; rw [hasPl_in, HBP.out]
          have hab1 := HAB.out
          go_wp2_with fail
          refine bodyPost_ret (v := .tuple #[.slice (some ⟨w.heap.size + 1, 0, none⟩) 0 0, .bool false]) (by simp [results, Try.results23, go_sem]) rfl ?_
          exact ⟨_, _, rfl, HB1.out⟩
        · have HAB : Hid ((a == b) = false) := by show _ = _; simpa using hab
          have htw := twoOk_mk hno ha hb hab
          obtain ⟨-, m, ia, ib, rfl, rfl, rfl, hia, hib, hne⟩ := twoOk_t htw
          have HNI := Lib.hid hni
          have hm6 : m ≤ 6 := by omega
          have HTW := Lib.hid htw
          have HFN : Hid (∀ x y : Nat, x < m → y < m → -1 ≤ farF ws m x y ∧ farF ws m x y ≤ 1000) := fun x y hx hy => ⟨farF_ge hni m x y, farF_bd hni hx hy⟩
          have HNE := Lib.hid hne
          have ia0 : (0 : Int) ≤ (ia : Int) := by omega
          have ib0 : (0 : Int) ≤ (ib : Int) := by omega
          have iam : (ia : Int) < (m : Int) := by omega
          have ibm : (ib : Int) < (m : Int) := by omega
          clear hno hni ha hb hab htw hne
          go_enter Try.func23, Try.ntmps23
          go_wp2_with fail
          refine (sNetOk_any _ _ _ _ _ (HR.out.later (by go_grown)) hm).mono ?_; rintro e w1 ⟨rfl, hb1⟩
          rw [HNO.out]
          obtain ⟨hc1, hf1⟩ := bcell hb1
          have hz1_0 : w.heap.size < w1.heap.size := by have hq := hb1.size; (try simp at hq); omega
          have HK1 := Lib.hid hb1
          have HB1 := Lib.hid (bstep (B := w.heap.size) (W := w) (by (try have hp := HB0.out); go_grown) (by go_size) hb1); clear hb1
          have wk := HW1.out
          have wk2 := HW2.out
          go_wp2_with fail
          refine (l1In_any ia 0 (m - 1) _).mono ?_; rintro e2 w2 ⟨rfl, rfl⟩; rw [hasPl_in, HA.out]
          go_wp2_with fail
          refine (l1In_any ib 0 (m - 1) _).mono ?_; rintro e2 w2 ⟨rfl, rfl⟩; rw [hasPl_in, HBP.out]
          have hab1 := HAB.out
          go_wp2_with fail
          have hz1 : w.heap.size + 1 < w1.heap.size := by have := HK1.out.size; simp at this; omega
          have k10 : w1.cell? ⟨w.heap.size, 0, none⟩ = some (.int .i64 m) := by go_simp
          have k11 : w1.cell? ⟨w.heap.size, 1, none⟩ = some (.slice A ws.length cap) := by go_simp
          have hob : w1.heap[w.heap.size + 1]? = some (.cells #[] 38 (0, 0)) := by
            have h9 := HK1.out.block (w.heap.size + 1) (by simp)
            rw [h9]
            have h8 := heap_alloc_new (w.alloc (.cells #[.int .i64 m, .slice A ws.length cap] 25)) (.cells #[] 38)
            simpa using h8
          refine (l1Far_any m A cap ws _ (HR.out.later HB1.out) HNI.out).mono ?_; rintro en3 w3 ⟨T, cT, lo, hi, R, C, rfl, htab, hlo, hb3⟩
          have HB3 := Lib.hid (bstep (B := w.heap.size) (W := w) HB1.out (by omega) hb3)
          have k30 : w3.cell? ⟨w.heap.size, 0, none⟩ = some (.int .i64 m) := (hb3.cell (p := ⟨w.heap.size, 0, none⟩) (by simp; omega)).trans k10
          have ho3 : w3.heap[w.heap.size + 1]? = some (.cells #[] 38 (0, 0)) := (hb3.block _ hz1).trans hob
          have hz3 : w.heap.size + 1 < w3.heap.size := Nat.lt_of_lt_of_le hz1 hb3.size
          have HT3 := Lib.hid htab
          have tp := htab.top ia hia
          have rb := (htab.row ia ib hia hib).1
          have hfb := HFN.out ia ib hia hib
          have hlo1 : w.heap.size + 1 < lo := by omega
          have hhi := htab.his
          obtain ⟨D, hD⟩ : ∃ D, farF ws m ia ib = D := ⟨_, rfl⟩
          rw [hD] at rb hfb
          have HD := Lib.hid hD
          clear wk wk2 hab1 hc1 hf1 hb3 htab hlo hob k10 k11 HB1 HK1 hD
          by_cases hD0 : D < 0
          · go_wp2_with fail
            refine bodyPost_ret (v := .tuple #[.slice (some ⟨w.heap.size + 1, 0, none⟩) 0 0, .bool false]) (by simp [results, Try.results23, go_sem]) rfl ?_
            rw [pathCuts_far HTW.out (by rw [HD.out]; exact hD0)]
            exact ⟨_, _, rfl, HB3.out⟩
          · have hcs := cuts_are HNI.out hia hib HNE.out (by rw [HD.out]; omega)
            have HPS := Lib.hid (pathCuts_some HTW.out (by rw [HD.out]; omega))
            simp only [HD.out] at hcs HPS
            have HLN := Lib.hid hcs.1
            obtain ⟨d, hd⟩ : ∃ d : Nat → Int, farF ws m ia = d := ⟨_, rfl⟩
            rw [hd] at HLN HPS
            have HDD : Hid (∀ j, farF ws m ia j = d j) := fun j => by rw [hd]
            clear hcs hd
            go_wp2_with fail
            go_loopw [8, 10] (fun v i wr => ∃ (Lp : List (Int × Int)) (now : Int) (f : Nat), i = .int .i64 now ∧ 0 ≤ now ∧ now ≤ D ∧ D - now ≤ f ∧ pcs d m D D.toNat 0 = Lp ++ pcs d m D f now ∧ wr.cell? ⟨w.heap.size, 0, none⟩ = some (.int .i64 m) ∧ Below w.heap.size w wr ∧ w3.heap.size ≤ wr.heap.size ∧ TabM wr lo hi T m R C (farF ws m) ∧ wr.ownsRow (w.heap.size + 1) 38 2 v Lp.length (ctCells Lp) ∧ (∀ g, v.ownBlock = some g → g < lo ∨ hi ≤ g) ∧ (∃ g c1, v = .slice (some ⟨g, 0, none⟩) Lp.length c1)) (fun _ i _ => (D - intOf i).toNat)
            case atStart =>
              refine ⟨[], 0, D.toNat, rfl, Int.le_refl _, by omega, by omega, rfl, k30, HB3.out, Nat.le_refl _, HT3.out, ⟨rfl, .inr ⟨w.heap.size + 1, 0, #[], rfl, Nat.le_refl _, ho3, Nat.le_refl _, Nat.zero_le _, rfl, rfl⟩⟩, fun g hg => ?_, ⟨_, _, rfl⟩⟩
              simp [Value.ownBlock] at hg
              exact .inl (by omega)
            case round =>
              clear k30 ho3 HT3 tp rb
              obtain ⟨Lp, now, f, rfl, hn0, hnD, hfu, hpc, b0, hb, hz, htab, hown, hoff, ⟨g1, c1, rfl⟩⟩ := hrel
              have HB0 := Lib.hid hb
              have HTB := Lib.hid htab
              have HOW := Lib.hid hown
              have HPC := Lib.hid hpc
              have HOFF := Lib.hid hoff
              have tp := htab.top ia hia
              have rb := (htab.row ia ib hia hib).1
              rw [HD.out] at rb
              have HLP : Hid (Lp.length ≤ 6) := by
                show _ ≤ _
                have h9 := HLN.out
                rw [hpc, List.length_append] at h9
                omega
              clear hb htab hown hpc hoff
              by_cases hlt : now < D
              · have HNX := Lib.hid (nxtD_ok d now D hlt)
                obtain ⟨wo, hwo⟩ : ∃ wo : World, wo = wr := ⟨_, rfl⟩
                subst hwo
                go_wp2_with fail
                go_loopw [11, 12, 13] (fun p x i wr => ∃ k : Nat, k ≤ m ∧ p = .int .i64 (plcT d now k) ∧ x = .int .i64 (nxtD d now D k) ∧ i = .int .i64 k ∧ wo = wr) (fun _ _ i _ => m - (intOf i).toNat)
                case atStart => exact ⟨0, Nat.zero_le _, rfl, rfl, rfl, rfl⟩
                case round =>
                  obtain ⟨k, hk, rfl, rfl, rfl, rfl⟩ := hrel
                  have hk0 : (0 : Int) ≤ (k : Int) := by omega
                  have hpb := plcT_bd d now k
                  have hxb := HNX.out k
                  by_cases hlk : k < m
                  · have hk1 : (k : Int) < (m : Int) := by omega
                    have hk5 : k ≤ 5 := by omega
                    have rk := (HTB.out.row ia k hia hlk).1
                    rw [HDD.out k] at rk
                    have hdk : -1 ≤ d k ∧ d k ≤ 1000 := by rw [← HDD.out k]; exact HFN.out ia k hia hlk
                    have hps := plcT_step d now k
                    have hxs := nxtD_step d now D k
                    obtain ⟨E, hE⟩ : ∃ E, d k = E := ⟨_, rfl⟩
                    obtain ⟨p, hp⟩ : ∃ p, plcT d now k = p := ⟨_, rfl⟩
                    obtain ⟨x, hx⟩ : ∃ x, nxtD d now D k = x := ⟨_, rfl⟩
                    have hx1 := hxb.1
                    have hx2 := hxb.2.1
                    rw [hE] at rk hdk hps hxs
                    rw [hp] at hpb hps ⊢
                    rw [hx] at hxs hx1 hx2 ⊢
                    clear hE hp hx hxb
                    by_cases hE0 : E < 0
                    · rw [if_neg (by omega)] at hps hxs
                      have HPS := Lib.hid hps
                      have HXS := Lib.hid hxs
                      have hE1 : ¬ 0 ≤ E := by omega
                      have hE2 : ¬ now < E := by omega
                      clear hps hxs hpb
                      go_wp2_with fail
                      go_roundw
                      case rel => exact ⟨k + 1, by omega, by rw [HPS.out], by rw [HXS.out], by go_num, by first | rfl | trivial⟩
                      case measure => (simp [intOf]) <;> omega
                    · by_cases hle : E ≤ now
                      · rw [if_pos (by omega)] at hps
                        rw [if_neg (by omega)] at hxs
                        have hpk := pow_bd (k : Int) 5 (by omega)
                        rw [Int.toNat_natCast] at hpk
                        have hp64 : p < 64 := by
                          have h9 := Nat.pow_le_pow_right (n := 2) (by omega) (show k ≤ 6 by omega)
                          have e9 : ((2 : Int) ^ k) = ((2 ^ k : Nat) : Int) := by simp
                          omega
                        have hor : bits .or .i64 p (2 ^ k) = ior p (2 ^ k) := bits_or _ _ hpb.1 (by omega) (by omega) (by omega)
                        have hwk : IntKind.i64.wrap (2 ^ k) = 2 ^ k := IntWalk.i64_in _ ⟨by omega, by omega⟩
                        have hwk2 : wrap64 (2 ^ k) = 2 ^ k := IntWalk.wrap64_in _ ⟨by clear hwk; omega, by clear hwk; omega⟩
                        have HPS := Lib.hid hps
                        have HXS := Lib.hid hxs
                        have hE1 : 0 ≤ E := by clear hwk hwk2 hor; omega
                        have hE2 : ¬ now < E := by clear hwk hwk2 hor; omega
                        have hk60 : (k : Int) ≤ 60 := by clear hwk hwk2 hor; omega
                        clear hps hxs hpb hpk
                        go_wp2_with fail
                        clear hwk hwk2 hor
                        go_roundw
                        case rel => exact ⟨k + 1, by omega, by rw [HPS.out], by rw [HXS.out], by go_num, by first | rfl | trivial⟩
                        case measure => (simp [intOf]) <;> omega
                      · rw [if_neg (by omega)] at hps
                        rw [if_pos (by omega)] at hxs
                        have HPS := Lib.hid hps
                        have hE1 : 0 ≤ E := by omega
                        have hE2 : now < E := by omega
                        have hmn : (if E < x then E else x) = min x E := by split <;> omega
                        have hmn2 : (if x < E then x else E) = min x E := by split <;> omega
                        have hmn3 : (if x ≤ E then x else E) = min x E := by split <;> omega
                        have HXS := Lib.hid hxs
                        clear hps hxs hpb
                        go_wp2_with fail
                        clear hmn hmn2 hmn3
                        go_roundw
                        case rel => exact ⟨k + 1, by omega, by rw [HPS.out], by rw [HXS.out], by go_num, by first | rfl | trivial⟩
                        case measure => (simp [intOf]) <;> omega
                  · obtain rfl : k = m := by omega
                    obtain ⟨f', rfl⟩ : ∃ f', f = f' + 1 := ⟨f - 1, by omega⟩
                    have HPC2 : Hid (pcs d k D D.toNat 0 = (Lp ++ [(plcT d now k, nxtD d now D k - now)]) ++ pcs d k D f' (nxtD d now D k)) := by
                      show _ = _
                      rw [HPC.out, pcs_more hlt]; simp
                    have hx1 := hxb.1
                    have hx2 := hxb.2.1
                    obtain ⟨p, hp⟩ : ∃ p, plcT d now k = p := ⟨_, rfl⟩
                    obtain ⟨x, hx⟩ : ∃ x, nxtD d now D k = x := ⟨_, rfl⟩
                    rw [hp] at HPC2 ⊢
                    rw [hx] at HPC2 hx1 hx2 ⊢
                    obtain ⟨j1, hj1, hy0, hy1, hy2⟩ := info_parts infoCutC
                    have wk : IntKind.i64.wrap (x - now) = x - now := IntWalk.i64_in _ ⟨by omega, by omega⟩
                    have wk2 : wrap64 (x - now) = x - now := IntWalk.wrap64_in _ ⟨by clear wk; omega, by clear wk; omega⟩
                    have hlp := HLP.out
                    have hzz : w.heap.size + 1 < wo.heap.size := by clear wk wk2; omega
                    clear hp hx hxb hpb HPC HNX
                    go_wp2_with (at_builtin; refine wpList_append_lies _ rfl _ _ _ rfl (w.heap.size + 1) 38 j1 _ 2 16 Try.underlying32 hj1 hy0 hy1 hy2 rfl (by clear wk wk2; omega) (.slice (some ⟨g1, 0, none⟩) Lp.length c1) Lp.length (ctCells Lp) rfl (HOW.out.alloc _) ⟨wo.heap.size, 0, none⟩ 1 1 [.int .i64 p, .int .i64 (x - now)] rfl rfl (World.news_of_block (cs := #[.int .i64 p, .int .i64 (x - now)]) (t := 38) (fr := (0, 0)) (heap_alloc_new wo _)) (by simp [Value.oneCell']) (by clear wk wk2; omega) (by clear wk wk2; unfold maxLen; omega) (by clear wk wk2; omega) (by clear wk wk2; simp; omega) (wo.heap.size + 1) (by simp) ?_; intro gg cc w5 hown5 hgrow5 hat5 hlt5)
                    clear wk wk2
                    have hvl := HOW.out.lt
                    have HO5 : Hid (w5.ownsRow (w.heap.size + 1) 38 2 (.slice (some ⟨gg, 0, none⟩) (Lp.length + 1) cc) (Lp ++ [(p, x - now)]).length (ctCells (Lp ++ [(p, x - now)]))) := by
                      rw [ctCells_snoc, List.length_append]; exact hown5
                    have hkeep : ∀ g, g < wo.heap.size → (Value.slice (some ⟨g1, 0, none⟩) Lp.length c1).ownBlock ≠ some g → w5.heap[g]? = wo.heap[g]? := fun g hg hne => (hgrow5.block g (by simp; omega) (fun e => hne e.symm)).trans (Below.heap_alloc _ _ _ hg)
                    have HT5 : Hid (TabM w5 lo hi T k R C (farF ws k)) := HTB.out.keep (fun g hg1 hg2 => hkeep g (Nat.lt_of_lt_of_le hg2 HTB.out.his) (fun e => by have := HOFF.out g e; omega)) (by have := hgrow5.size; simp at this; omega)
                    have HB5 : Hid (Below w.heap.size w w5) := by
                      have h9 := HB0.out.alloc (by omega) (.cells #[.int .i64 p, .int .i64 (x - now)] 38)
                      exact ⟨hgrow5.os.trans h9.os, hgrow5.tape.trans h9.tape, hgrow5.output.trans h9.output, Nat.le_trans h9.size hgrow5.size, fun i hi => (hgrow5.block i (by simp; omega) (fun e => by have := (hvl i e.symm).1; omega)).trans (h9.block i hi)⟩
                    have y0 : w5.cell? ⟨w.heap.size, 0, none⟩ = some (.int .i64 k) := (World.cell?_of_block (w := wo) (hkeep w.heap.size (by omega) (fun e => by have := (hvl _ e).1; omega))).trans b0
                    have hs5 : wo.heap.size + 1 ≤ w5.heap.size := by have := hgrow5.size; simpa using this
                    have HOF5 : Hid (∀ g, (Value.slice (some ⟨gg, 0, none⟩) (Lp.length + 1) cc).ownBlock = some g → g < lo ∨ hi ≤ g) := fun g hg => by
                      simp [Value.ownBlock] at hg
                      subst hg
                      rcases hat5 with h9 | h9
                      · exact HOFF.out _ h9
                      · (try simp at h9)
                        have := HTB.out.his
                        omega
                    clear hown5 hgrow5 hat5 hlt5 hvl hkeep
                    go_wp2_with fail
                    go_roundw
                    case rel => exact ⟨Lp ++ [(p, x - now)], x, f', rfl, by omega, by omega, by omega, HPC2.out, y0, HB5.out, by omega, HT5.out, HO5.out, HOF5.out, ⟨gg, cc, by rw [List.length_append]; rfl⟩⟩
                    case measure => (simp [intOf]) <;> omega
              · have hfin : pcs d m D D.toNat 0 = Lp := by rw [HPC.out, pcs_end hlt, List.append_nil]
                have HRF : Hid (RowF wr (w.heap.size + 1) wr.heap.size (some ⟨g1, 0, none⟩) ((pcs d m D D.toNat 0).length * 2) (ctF (pcs d m D D.toNat 0))) := by rw [hfin]; exact rowF_of_cuts HOW.out
                have HFIN := Lib.hid hfin
                have HCP : Hid (Lp.length ≤ c1) := by
                  show _ ≤ _
                  rcases HOW.out.2 with ⟨h8, _⟩ | ⟨g9, c9, cur, h8, _, _, h9, _⟩
                  · cases h8
                  · injection h8 with _ _ h8; omega
                clear hfin
                go_wp2_with fail
                refine bodyPost_ret (v := .tuple #[.slice (some ⟨g1, 0, none⟩) Lp.length c1, .bool true]) (by simp [results, Try.results23, go_sem]) rfl ?_
                rw [HPS.out]
                exact ⟨g1, c1, w.heap.size + 1, wr.heap.size, by rw [HFIN.out], HRF.out, by omega, HB0.out, by rw [HFIN.out]; exact HCP.out⟩
theorem sPathCuts_any (n a b : Int) (A : Option Addr) (cap : Nat) (ws : List Wy) (w : World) (hr : RW w w.heap.size A ws) (hm : ws.length ≤ 1073741824) :
    Calls Try.prog 23 #[.agg #[.int .i64 n, .slice A ws.length cap], .int .i64 a, .int .i64 b] w (NewCuts (pathCuts n ws a b) w) := (sPathCuts_is n a b A cap ws w hr hm).mono fun _ _ h => h.new
end Go.Proofs.Ytiioojjjpabaeaa
