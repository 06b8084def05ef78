/- ForksOf of the model. -/
import Derived.Test.YtnbihejoglgdhaaDoorWC
import Derived.Test.YtnbihejoglgdhaaDoorDgM
set_option linter.unusedSimpArgs false
set_option linter.unusedVariables false
namespace Go.Proofs.YtnbihejoglgdhaaDoor
open Go.ChangeShapes Go.WideShapes Go.ChangeAt Go.RowKit

def forksOf (n : Int) (ws : List Wy) (s : Int) : Int := if setOk n ws s = true then fks n ws s else -1
theorem fkTo_yes {ws : List Wy} {s : Int} {p : Nat} (h : 3 ≤ dg ws s p) : fkTo ws s (p + 1) = ior (fkTo ws s p) (2 ^ p) := by rw [fkTo, if_pos h]
theorem fkTo_not {ws : List Wy} {s : Int} {p : Nat} (h : ¬ 3 ≤ dg ws s p) : fkTo ws s (p + 1) = fkTo ws s p := by rw [fkTo, if_neg h]
set_option maxRecDepth 100000 in
set_option maxHeartbeats 4000000 in
theorem sForksOf_any (n s : Int) (A : Option Addr) (cap : Nat) (ws : List Wy) (w : World) (hr : RW w w.heap.size A ws) (hm : ws.length ≤ 1073741824) :
    Calls Tryd.prog 28 #[.agg #[.int .i64 n, .slice A ws.length cap], .int .i64 s] w fun e w' => e = .returned (.int .i64 (forksOf n ws s)) ∧ Below w.heap.size w w' := by
  have HR := Lib.hid hr
  clear hr
  unfold forksOf setOk
  cases hn : netOk n ws
  · have HN := Lib.hid hn
    clear hn
    go_enter Tryd.func28, Tryd.ntmps28
    go_wp2_with fail
    refine (sNetOk_any _ _ _ _ _ (HR.out.later (by go_grown)) hm).mono ?_; rintro e w1 ⟨rfl, hb1⟩
    rw [HN.out]
    obtain ⟨hc1, hf1⟩ := bcell hb1
    have hz1_0 : w.heap.size < w1.heap.size := by have hq := hb1.size; (try simp at hq); omega
    have HK1 := Lib.hid hb1
    have HB1 := Lib.hid (bstep (B := w.heap.size) (W := w) (by (try have hp := HB0.out); go_grown) (by go_size) hb1); clear hb1
    go_wp2_with fail
    go_ret
    exact ⟨rfl, HB1.out⟩
  · have HN := Lib.hid hn
    have HS := Lib.hid (netOk_t hn)
    have hl := (netOk_t hn).len
    have hp := pow_bd (ws.length : Int) 20 (by omega)
    rw [Int.toNat_natCast] at hp
    have hf := full_bd ws.length hl
    clear hn
    cases hin : inB s 0 (full ws.length)
    · have hin' := inB_f hin
      have Hin : Hid (inB s 0 (2 ^ ws.length - 1) = false) := hin
      have hret : (decide (0 ≤ s) && decide (s ≤ full ws.length)) = false := hin
      rw [Bool.true_and, hret]
      clear hret
      clear hin
      go_enter Tryd.func28, Tryd.ntmps28
      go_wp2_with fail
      refine (sNetOk_any _ _ _ _ _ (HR.out.later (by go_grown)) hm).mono ?_; rintro e w1 ⟨rfl, hb1⟩
      rw [HN.out]
      obtain ⟨hc1, hf1⟩ := bcell hb1
      have hz1_0 : w.heap.size < w1.heap.size := by have hq := hb1.size; (try simp at hq); omega
      have HK1 := Lib.hid hb1
      have HB1 := Lib.hid (bstep (B := w.heap.size) (W := w) (by (try have hp := HB0.out); go_grown) (by go_size) hb1); clear hb1
      go_wp2_with fail
      refine (l1In_any _ _ _ _).mono ?_; rintro e w' ⟨rfl, rfl⟩; rw [Hin.out]
      go_wp2_with fail
      go_ret
      exact ⟨rfl, HB1.out⟩
    · have hin' := inB_t hin
      have Hin : Hid (inB s 0 (2 ^ ws.length - 1) = true) := hin
      have hret : (decide (0 ≤ s) && decide (s ≤ full ws.length)) = true := hin
      rw [Bool.true_and, hret, if_pos rfl]
      clear hret
      clear hin
      have h2 := hin'.1
      have h3 : s ≤ 1048576 := by omega
      have hn2 := HS.out.lo
      have hn6 := HS.out.hi
      obtain ⟨m, rfl⟩ := Int.eq_ofNat_of_zero_le (show 0 ≤ n by omega)
      have hm6 : m ≤ 6 := by omega
      go_enter Tryd.func28, Tryd.ntmps28
      go_wp2_with fail
      refine (sNetOk_any _ _ _ _ _ (HR.out.later (by go_grown)) hm).mono ?_; rintro e w1 ⟨rfl, hb1⟩
      rw [HN.out]
      obtain ⟨hc1, hf1⟩ := bcell hb1
      have hz1_0 : w.heap.size < w1.heap.size := by have hq := hb1.size; (try simp at hq); omega
      have HK1 := Lib.hid hb1
      have HB1 := Lib.hid (bstep (B := w.heap.size) (W := w) (by (try have hp := HB0.out); go_grown) (by go_size) hb1); clear hb1
      have k1 : w1.cell? ⟨w.heap.size, 0, none⟩ = some (.int .i64 m) ∧ w1.cell? ⟨w.heap.size, 1, none⟩ = some (.slice A ws.length cap) := ⟨by go_simp, by go_simp⟩
      clear hc1 hf1
      go_wp2_with fail
      refine (l1In_any _ _ _ _).mono ?_; rintro e w' ⟨rfl, rfl⟩; rw [Hin.out]
      have b0 := k1.1
      have b1 := k1.2
      have HRR := Lib.hid (HR.out.later HB1.out)
      clear k1 hp hf hin'
      go_wp2_with fail
      go_loopw [5, 6] (fun c i wr => ∃ p : Nat, p ≤ m ∧ c = .int .i64 (fkTo ws s p) ∧ i = .int .i64 p ∧ w1 = wr) (fun _ i _ => m - (intOf i).toNat)
      case atStart => exact ⟨0, Nat.zero_le _, rfl, rfl, rfl⟩
      case round =>
        obtain ⟨p, hpm, rfl, rfl, rfl⟩ := hrel
        have hfk := fkTo_bd ws s p
        have hpw := pow_bd (p : Int) 6 (by omega)
        rw [Int.toNat_natCast] at hpw
        have hf64 : fkTo ws s p < 64 := by omega
        have hf0 := hfk.1
        by_cases hlp : p < m
        · have hp1 : (p : Int) < (m : Int) := by omega
          have hp0 : (0 : Int) ≤ (p : Int) := by omega
          have HPW := Lib.hid hpw
          clear hfk hpw
          go_wp2_with fail
          go_loopw [7, 8] (fun c i wr => ∃ k : Nat, k ≤ ws.length ∧ c = .int .i64 (dgTo ws s p k) ∧ i = .int .i64 k ∧ w1 = wr) (fun _ i _ => ws.length - (intOf i).toNat)
          case atStart => exact ⟨0, Nat.zero_le _, rfl, rfl, rfl⟩
          case round =>
            obtain ⟨k, hk, rfl, rfl, rfl⟩ := hrel
            have hdb := dgTo_bd ws s p k
            by_cases hlt : k < ws.length
            · obtain ⟨x, hx⟩ : ∃ x, ws[k]? = some x := ⟨_, List.getElem?_eq_getElem hlt⟩
              obtain ⟨b, o, rfl, hB, c0, c1, c2⟩ := HRR.out k x hx
              have HX := Lib.hid hx
              have hk0 : (0 : Int) ≤ (k : Int) := by omega
              have hk1 : (k : Int) < (ws.length : Int) := by omega
              have hq0 : 0 ≤ s / 2 ^ k := (div_pow_bd s k h2).1
              have hq1 : (s / 2 ^ k % 2 == 1) = bit s k := bit_mod_nat s k h2
              clear hx
              cases hbit : bit s k
              · rw [hbit] at hq1
                have HY := Lib.hid (dgTo_no (s := s) (p := (p : Int)) HX.out (fun h => by rw [hbit] at h; cases h.1))
                clear hbit
                go_wp2_with fail
                go_roundw
                case rel => refine ⟨k + 1, by omega, ?_, ?_, ?_⟩ <;> first | trivial | rfl | (rw [HY.out]; done) | (rw [HY.out]; go_num; done) | go_num
                case measure => simp [intOf]; omega
              · rw [hbit] at hq1
                by_cases hap : x.a = (p : Int)
                · have HY := Lib.hid (dgTo_yes (s := s) (p := (p : Int)) HX.out hbit (.inl hap))
                  rw [hap] at c0
                  clear hbit hap
                  go_wp2_with fail
                  go_roundw
                  case rel => refine ⟨k + 1, by omega, ?_, ?_, ?_⟩ <;> first | trivial | rfl | (rw [HY.out]; done) | (rw [HY.out]; go_num; done) | go_num
                  case measure => simp [intOf]; omega
                · by_cases hbp : x.b = (p : Int)
                  · have HY := Lib.hid (dgTo_yes (s := s) (p := (p : Int)) HX.out hbit (.inr hbp))
                    rw [hbp] at c1
                    obtain ⟨a, ha⟩ : ∃ a, x.a = a := ⟨_, rfl⟩
                    rw [ha] at c0 hap
                    clear hbit hbp ha
                    go_wp2_with fail
                    go_roundw
                    case rel => refine ⟨k + 1, by omega, ?_, ?_, ?_⟩ <;> first | trivial | rfl | (rw [HY.out]; done) | (rw [HY.out]; go_num; done) | go_num
                    case measure => simp [intOf]; omega
                  · have HY := Lib.hid (dgTo_no (s := s) (p := (p : Int)) HX.out (fun h => h.2.elim hap hbp))
                    obtain ⟨a, ha⟩ : ∃ a, x.a = a := ⟨_, rfl⟩
                    obtain ⟨d, hd⟩ : ∃ d, x.b = d := ⟨_, rfl⟩
                    rw [ha] at c0 hap
                    rw [hd] at c1 hbp
                    have hap' : (a == (p : Int)) = false := by simpa using hap
                    have hbp' : (d == (p : Int)) = false := by simpa using hbp
                    clear hbit ha hd
                    go_wp2_with fail
                    go_roundw
                    case rel => refine ⟨k + 1, by omega, ?_, ?_, ?_⟩ <;> first | trivial | rfl | (rw [HY.out]; done) | (rw [HY.out]; go_num; done) | go_num
                    case measure => simp [intOf]; omega
            · have hkl : k = ws.length := by omega
              subst hkl
              have HWP : Hid (IntKind.i64.wrap (2 ^ p) = 2 ^ p) := IntWalk.i64_in _ ⟨by have := HPW.out; omega, by have := HPW.out; omega⟩
              have HWP2 : Hid (wrap64 (2 ^ p) = 2 ^ p) := IntWalk.wrap64_in _ ⟨by have := HPW.out; omega, by have := HPW.out; omega⟩
              have hor : bits .or .i64 (fkTo ws s p) (2 ^ p) = ior (fkTo ws s p) (2 ^ p) := bits_or _ _ (by omega) (by omega) (by have := HPW.out; omega) (by have := HPW.out; omega)
              by_cases h3d : 3 ≤ dgTo ws s p ws.length
              · have HY := Lib.hid (fkTo_yes (ws := ws) (s := s) (p := p) h3d)
                have hwp := HWP.out
                have hwp2 := HWP2.out
                go_wp2_with fail
                clear hwp hwp2
                go_roundw
                case rel => refine ⟨p + 1, by omega, ?_, ?_, ?_⟩ <;> first | trivial | rfl | (rw [HY.out]; done) | (rw [HY.out]; go_num; done) | go_num
                case measure => (simp [intOf]) <;> omega
              · have HY := Lib.hid (fkTo_not (ws := ws) (s := s) (p := p) h3d)
                go_wp2_with fail
                go_roundw
                case rel => refine ⟨p + 1, by omega, ?_, ?_, ?_⟩ <;> first | trivial | rfl | (rw [HY.out]; done) | (rw [HY.out]; go_num; done) | go_num
                case measure => (simp [intOf]) <;> omega
        · have hp1 : ¬ (p : Int) < (m : Int) := by omega
          obtain rfl : p = m := by omega
          have hfin : fks (p : Int) ws s = fkTo ws s p := by unfold fks; rw [Int.toNat_natCast]
          have HFIN := Lib.hid hfin
          clear hfin hfk hpw
          go_wp2_with fail
          go_ret
          exact ⟨ret_int HFIN.out.symm, HB1.out⟩
end Go.Proofs.YtnbihejoglgdhaaDoor
