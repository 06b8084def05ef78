/- FarTable of the program. -/
import Derived.Test.YthadehgpeafniaaMI
set_option linter.unusedSimpArgs false
set_option linter.unusedVariables false
attribute [local go_sem ↓] Go.wp_at_zero Go.wp_at_succ
namespace Go.Proofs.Ythadehgpeafniaa
open Go.ChangeShapes Go.WideShapes Go.ChangeAt Go.RowKit

theorem Only.keep2_ {lo hi h : Nat} {w w' : World} {x0 x1 : Value} (ho : Only lo hi w w') (hh : h < lo) (hs : h < w.heap.size) (hk : w.cell? ⟨h, 0, none⟩ = some x0 ∧ w.cell? ⟨h, 1, none⟩ = some x1) : w'.cell? ⟨h, 0, none⟩ = some x0 ∧ w'.cell? ⟨h, 1, none⟩ = some x1 :=
  ⟨(World.cell?_of_block (w := w) (ho.block h hs (.inl hh))).trans hk.1, (World.cell?_of_block (w := w) (ho.block h hs (.inl hh))).trans hk.2⟩

set_option maxHeartbeats 4000000 in
theorem FarTable_any (m : Nat) (A : Option Addr) (cap : Nat) (ws : List Wy) (w : World) (hr : RW w w.heap.size A ws) (hno : netOk (m : Int) ws = true) :
    Calls Try.prog 19 #[.agg #[.int .i64 m, .slice A ws.length cap]] w (NewTab m (farF ws m) w) := by
  have HR := Lib.hid hr
  have HN := Lib.hid hno
  have hni := netOk_t hno
  have HS := Lib.hid hni
  have hn6 := hni.hi
  have hm6 : m ≤ 6 := by omega
  clear hr hno hni
  go_enter Try.func19, Try.ntmps19
  go_wp2_with fail
  refine (NetOk_any _ _ _ _ _ (HR.out.later (by go_grown))).mono ?_; rintro e w1 ⟨rfl, hb1⟩
  rw [HN.out]
  obtain ⟨hc1, hf1⟩ := bcell hb1
  have hz1_0 : w.heap.size < w1.heap.size := by have hq := hb1.size; (try simp at hq); omega
  have HK1 := Lib.hid hb1
  have HB1 := Lib.hid (bstep (B := w.heap.size) (W := w) (by (try have hp := HB0.out); go_grown) (by go_size) hb1); clear hb1
  have k1 : w1.cell? ⟨w.heap.size, 0, none⟩ = some (.int .i64 m) ∧ w1.cell? ⟨w.heap.size, 1, none⟩ = some (.slice A ws.length cap) := ⟨by go_simp, by go_simp⟩
  clear hc1 hf1
  go_wp2_with fail
  refine (nextTable_any m A cap ws _ (HR.out.later HB1.out) HS.out).mono ?_; rintro e w2 ⟨T, hT, rfl, htab, hb2⟩
  have k2 := keep2 hb2 k1 hz1_0
  have hTT : w.heap.size < T := Nat.lt_of_lt_of_le hz1_0 hT
  have HB2 := Lib.hid (bstep (B := w.heap.size) (W := w) HB1.out (Nat.le_of_lt hz1_0) hb2)
  have HT2 := Lib.hid htab
  clear hb2 htab
  go_wp2_with fail
  go_loopw [14] (fun i wr => ∃ o : Nat, o ≤ m ∧ i = .int .i64 o ∧ wr.cell? ⟨w.heap.size, 0, none⟩ = some (.int .i64 m) ∧ wr.cell? ⟨w.heap.size, 1, none⟩ = some (.slice A ws.length cap) ∧ Below w.heap.size w wr ∧ TabM wr T (T + 1 + m) T m (fun i => T + 1 + i) (fun _ => m) (fwO (nxTo ws ws.length) m o)) (fun i _ => m - (intOf i).toNat)
  case atStart => exact ⟨0, Nat.zero_le _, rfl, k2.1, k2.2, HB2.out, HT2.out⟩
  case round =>
    clear k2 HB2 HT2
    obtain ⟨o, ho, rfl, b0, b1, hb, htab⟩ := hrel
    have HB0 := Lib.hid hb
    have HT0 := Lib.hid htab
    clear hb htab
    have o0 : (0 : Int) ≤ (o : Int) := by omega
    by_cases hlo : o < m
    · have o1 : (o : Int) < (m : Int) := by omega
      have HF := Lib.hid (fw_small HS.out (m := m) (o := o) hm6 ho)
      go_wp2_with fail
      go_loopw [19] (fun i wr => ∃ a : Nat, a ≤ m ∧ i = .int .i64 a ∧ wr.cell? ⟨w.heap.size, 0, none⟩ = some (.int .i64 m) ∧ wr.cell? ⟨w.heap.size, 1, none⟩ = some (.slice A ws.length cap) ∧ Below w.heap.size w wr ∧ TabM wr T (T + 1 + m) T m (fun i => T + 1 + i) (fun _ => m) (fwA (fwO (nxTo ws ws.length) m o) o m a)) (fun i _ => m - (intOf i).toNat)
      case atStart => exact ⟨0, Nat.zero_le _, rfl, b0, b1, HB0.out, HT0.out⟩
      case round =>
        clear b0 b1 HB0 HT0
        obtain ⟨a, ha, rfl, b0, b1, hb, htab⟩ := hrel
        have HB0 := Lib.hid hb
        have HT0 := Lib.hid htab
        clear hb htab
        have a0 : (0 : Int) ≤ (a : Int) := by omega
        by_cases hla : a < m
        · have a1 : (a : Int) < (m : Int) := by omega
          have HFA := Lib.hid (fwA_at HF.out (FwAt.start HF.out (by omega)) hlo a ha)
          go_wp2_with fail
          go_loopw [24] (fun i wr => ∃ b : Nat, b ≤ m ∧ i = .int .i64 b ∧ wr.cell? ⟨w.heap.size, 0, none⟩ = some (.int .i64 m) ∧ wr.cell? ⟨w.heap.size, 1, none⟩ = some (.slice A ws.length cap) ∧ Below w.heap.size w wr ∧ TabM wr T (T + 1 + m) T m (fun i => T + 1 + i) (fun _ => m) (fwB (fwA (fwO (nxTo ws ws.length) m o) o m a) o a b)) (fun i _ => m - (intOf i).toNat)
          case atStart => exact ⟨0, Nat.zero_le _, rfl, b0, b1, HB0.out, HT0.out⟩
          case round =>
            clear b0 b1 HB0 HT0
            obtain ⟨b, hb', rfl, b0, b1, hb, htab⟩ := hrel
            have HB0 := Lib.hid hb
            have HT0 := Lib.hid htab
            have hhis := htab.his
            clear hb htab
            have c0 : (0 : Int) ≤ (b : Int) := by omega
            by_cases hlb : b < m
            · have c1 : (b : Int) < (m : Int) := by omega
              have hfb := fwB_at HF.out HFA.out hla hlo b hb'
              have g1 := hfb.bd a o hla hlo
              have g2 := hfb.bd o b hlo hlb
              clear hfb
              go_wp2_with fail
              refine (shorten_any _ _ _ m m _ _ _ a o b _ HT0.out hla hlo hlb (by omega) (by omega)).mono ?_; rintro e w3 ⟨rfl, ht3, ho3⟩
              have k3 := ho3.keep2_ hTT (by omega) ⟨b0, b1⟩
              have HB3 := Lib.hid (Below.only_ HB0.out (Nat.le_of_lt hTT) (by omega) ho3)
              have HT3 := Lib.hid ht3
              clear ht3 ho3 g1 g2
              go_wp2_with fail
              go_roundw
              case rel => exact ⟨b + 1, by omega, by go_num, k3.1, k3.2, HB3.out, HT3.out⟩
              case measure => simp [intOf]; omega
            · have hbm : b = m := by omega
              subst hbm
              go_wp2_with fail
              go_roundw
              case rel => exact ⟨a + 1, by omega, by go_num, b0, b1, HB0.out, HT0.out⟩
              case measure => simp [intOf]; omega
        · have ham : a = m := by omega
          subst ham
          go_wp2_with fail
          go_roundw
          case rel => exact ⟨o + 1, by omega, by go_num, b0, b1, HB0.out, HT0.out⟩
          case measure => simp [intOf]; omega
    · have hom : o = m := by omega
      subst hom
      go_wp2_with fail
      go_ret
      exact ⟨T, Nat.le_of_lt hTT, rfl, HT0.out, HB0.out⟩
theorem FarTable_none (n : Int) (A : Option Addr) (cap : Nat) (ws : List Wy) (w : World) (hr : RW w w.heap.size A ws) (hno : netOk n ws = false) :
    Calls Try.prog 19 #[.agg #[.int .i64 n, .slice A ws.length cap]] w fun e w' => e = .returned (.slice none 0 0) ∧ Below w.heap.size w w' := by
  have HR := Lib.hid hr
  have HN := Lib.hid hno
  clear hr hno
  go_enter Try.func19, Try.ntmps19
  go_wp2_with fail
  refine (NetOk_any _ _ _ _ _ (HR.out.later (by go_grown))).mono ?_; rintro e w1 ⟨rfl, hb1⟩
  rw [HN.out]
  obtain ⟨hc1, hf1⟩ := bcell hb1
  have hz1_0 : w.heap.size < w1.heap.size := by have hq := hb1.size; (try simp at hq); omega
  have HK1 := Lib.hid hb1
  have HB1 := Lib.hid (bstep (B := w.heap.size) (W := w) (by (try have hp := HB0.out); go_grown) (by go_size) hb1); clear hb1
  go_wp2_with fail
  go_ret
  exact ⟨rfl, HB1.out⟩
end Go.Proofs.Ythadehgpeafniaa
