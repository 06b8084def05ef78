/- The program's dearest ways and nearest ends: DearestOf, waysUpTo, nearestOf, NearestRow, and the greatest, the least and the place of a number in a row. -/
import Derived.Test.YthadehgpeafniaaNxO
import Derived.Test.YthadehgpeafniaaME
import Derived.Test.YthadehgpeafniaaMJ
import Derived.Test.YthadehgpeafniaaMG
import Derived.Test.YthadehgpeafniaaTc
import Derived.Test.YthadehgpeafniaaUpA
set_option linter.unusedSimpArgs false
set_option linter.unusedVariables false
attribute [local go_sem ↓] Go.wp_at_zero Go.wp_at_succ
namespace Go.Proofs.Ythadehgpeafniaa
open Go.ChangeShapes Go.WideShapes Go.ChangeAt Go.RowKit

theorem nxmax {a b M : Int} (h : max a b = M) : (if a < b then b else a) = M ∧ (if b < a then a else b) = M ∧ (if a ≤ b then b else a) = M ∧ (if b ≤ a then a else b) = M := by
  subst h
  refine ⟨?_, ?_, ?_, ?_⟩ <;> (split <;> omega)
theorem nxmin {a b M : Int} (h : min a b = M) : (if a < b then a else b) = M ∧ (if b < a then b else a) = M ∧ (if a ≤ b then a else b) = M ∧ (if b ≤ a then b else a) = M := by
  subst h
  refine ⟨?_, ?_, ?_, ?_⟩ <;> (split <;> omega)
set_option maxHeartbeats 2000000 in
theorem DearestOf_any (n s : Int) (A : Option Addr) (cap : Nat) (ws : List Wy) (w : World) (hr : RW w w.heap.size A ws) :
    Calls Try.prog 11 #[.agg #[.int .i64 n, .slice A ws.length cap], .int .i64 s] w fun e w' => e = .returned (.int .i64 (dearestOf n ws s)) ∧ Below w.heap.size w w' := by
  have HR := Lib.hid hr
  clear hr
  unfold dearestOf
  cases hn : setOk n ws s
  · have HN := Lib.hid hn
    rw [if_neg (by simp)]
    clear hn
    go_enter Try.func11, Try.ntmps11
    go_wp2_with fail
    refine (waysOk_any _ _ _ _ _ _ (HR.out.later (by go_grown))).mono ?_; rintro e w1 ⟨rfl, hb1⟩
    rw [HN.out]
    obtain ⟨hc1, hf1⟩ := bcell hb1
    have hz1_0 : w.heap.size < w1.heap.size := by have hq := hb1.size; (try simp at hq); omega
    have HK1 := Lib.hid hb1
    have HB1 := Lib.hid (bstep (B := w.heap.size) (W := w) (by (try have hp := HB0.out); go_grown) (by go_size) hb1); clear hb1
    go_wp2_with fail
    go_ret
    exact ⟨rfl, HB1.out⟩
  · have HN := Lib.hid hn
    obtain ⟨hnet, s0, _, s1⟩ := setOk_t hn
    have hl9 := hnet.len
    have HE : Hid (dearTo ws s ws.length = dear ws s) := rfl
    rw [if_pos rfl, ← HE.out]
    clear hn hnet
    go_enter Try.func11, Try.ntmps11
    go_wp2_with fail
    refine (waysOk_any _ _ _ _ _ _ (HR.out.later (by go_grown))).mono ?_; rintro e w1 ⟨rfl, hb1⟩
    rw [HN.out]
    obtain ⟨hc1, hf1⟩ := bcell hb1
    have hz1_0 : w.heap.size < w1.heap.size := by have hq := hb1.size; (try simp at hq); omega
    have HK1 := Lib.hid hb1
    have HB1 := Lib.hid (bstep (B := w.heap.size) (W := w) (by (try have hp := HB0.out); go_grown) (by go_size) hb1); clear hb1
    have k10 : w1.cell? ⟨w.heap.size, 0, none⟩ = some (.int .i64 n) := by go_simp
    have k11 : w1.cell? ⟨w.heap.size, 1, none⟩ = some (.slice A ws.length cap) := by go_simp
    clear hc1 hf1
    go_wp2_with fail
    go_loopw [5, 15] (fun c i wr => ∃ k : Nat, k ≤ ws.length ∧ i = .int .i64 k ∧ c = .int .i64 (dearTo ws s k) ∧ Below w.heap.size w wr ∧ w.heap.size < wr.heap.size) (fun _ i _ => ws.length - (intOf i).toNat)
    case atStart => exact ⟨0, Nat.zero_le _, rfl, rfl, HB1.out, hz1_0⟩
    case round =>
      clear k10 k11 HB1 HK1 hz1_0
      obtain ⟨k, hk, rfl, rfl, hb, hz⟩ := hrel
      by_cases hlt : k < ws.length
      · obtain ⟨x, hx⟩ : ∃ x, ws[k]? = some x := ⟨_, List.getElem?_eq_getElem hlt⟩
        obtain ⟨b, o, rfl, hB, c0, c1, c2⟩ := HR.out.below hb k x hx
        have HB0 := Lib.hid hb
        have hk0 : (0 : Int) ≤ (k : Int) := by omega
        have hk1 : (k : Int) < (ws.length : Int) := by omega
        obtain ⟨X, hX⟩ : ∃ X, dearTo ws s k = X := ⟨_, rfl⟩
        rw [hX]
        cases hbit : bit s k
        · have Hbit := Lib.hid hbit
          have HY : Hid (dearTo ws s (k + 1) = X) := by show _ = _; rw [dearTo_no hx hbit, hX]
          clear hbit hx hX hb
          go_wp2_with fail
          refine (inSet_any _ _ (by omega) (by omega) s0 (by omega) _).mono ?_; rintro e w' ⟨rfl, rfl⟩; rw [Hbit.out]
          go_wp2_with fail
          go_roundw
          case rel => exact ⟨k + 1, by omega, by go_num, by rw [HY.out], by have := HB0.out; go_grown, by go_size⟩
          case measure => (simp [intOf]) <;> omega
        · have Hbit := Lib.hid hbit
          obtain ⟨M, hM⟩ : ∃ M, max X x.c = M := ⟨_, rfl⟩
          obtain ⟨m1, m2, m3, m4⟩ := nxmax hM
          have HY : Hid (dearTo ws s (k + 1) = M) := by show _ = _; rw [dearTo_yes hx hbit, hX, hM]
          clear hbit hx hX hb
          go_wp2_with fail
          refine (inSet_any _ _ (by omega) (by omega) s0 (by omega) _).mono ?_; rintro e w' ⟨rfl, rfl⟩; rw [Hbit.out]
          go_wp2_with fail
          go_roundw
          case rel => exact ⟨k + 1, by omega, by go_num, by rw [HY.out] <;> (first | rfl | trivial), by have := HB0.out; go_grown, by go_size⟩
          case measure => (simp [intOf]) <;> omega
      · obtain rfl : k = ws.length := by omega
        have HB0 := Lib.hid hb
        clear hb
        go_wp2_with fail
        go_ret
        exact ⟨rfl, HB0.out⟩
/-- as the program takes the nearest end -/
theorem nxNr_yes {F : Nat → Nat → Int} {e : Int} {a k : Nat} (h : bit e (k : Nat) = true) (h0 : 0 ≤ F a k) (h1 : nrTo F e a k < 0 ∨ F a k < F a (nrTo F e a k).toNat) : nrTo F e a (k + 1) = k := by
  rw [nrTo, if_pos]
  rw [h, decide_eq_true h0]
  rcases h1 with h1 | h1
  · rw [decide_eq_true h1]; rfl
  · rw [decide_eq_true h1]; simp
theorem nxNr_out {F : Nat → Nat → Int} {e : Int} {a k : Nat} (h : bit e (k : Nat) = false) : nrTo F e a (k + 1) = nrTo F e a k := by
  rw [nrTo, if_neg]; rw [h]; simp
theorem nxNr_far {F : Nat → Nat → Int} {e : Int} {a k : Nat} (h : F a k < 0) : nrTo F e a (k + 1) = nrTo F e a k := by
  rw [nrTo, if_neg]; rw [decide_eq_false (p := 0 ≤ F a k) (by omega)]; simp
theorem nxNr_worse {F : Nat → Nat → Int} {e : Int} {a k : Nat} (h0 : ¬ nrTo F e a k < 0) (h1 : ¬ F a k < F a (nrTo F e a k).toNat) : nrTo F e a (k + 1) = nrTo F e a k := by
  rw [nrTo, if_neg]; rw [decide_eq_false h0, decide_eq_false h1]; simp
set_option maxRecDepth 100000 in
set_option maxHeartbeats 4000000 in
theorem nearestOf_any (m r c : Nat) (F : Nat → Nat → Int) (a : Nat) (e : Int) (w : World) (h : ∀ b : Nat, b < m → w.cell? ⟨r, b, none⟩ = some (.int .i64 (F a b))) (hm6 : m ≤ 6) (e0 : 0 ≤ e) (e1 : e < 64) :
    Calls Try.prog 44 #[.slice (some ⟨r, 0, none⟩) m c, .int .i64 e] w fun en w' => en = .returned (.int .i64 (nrTo F e a m)) ∧ w = w' := by
  have H := Lib.hid h
  clear h
  go_enter Try.func44, Try.ntmps44
  go_wp2_with fail
  go_loopw [5, 10] (fun x i wr => ∃ k : Nat, k ≤ m ∧ i = .int .i64 k ∧ x = .int .i64 (nrTo F e a k) ∧ w = wr) (fun _ i _ => m - (intOf i).toNat)
  case atStart => exact ⟨0, Nat.zero_le _, rfl, rfl, rfl⟩
  case round =>
    obtain ⟨k, hk, rfl, rfl, rfl⟩ := hrel
    have k0 : (0 : Int) ≤ (k : Int) := by omega
    by_cases hlk : k < m
    · have k1 : (k : Int) < (m : Int) := by omega
      have c0 := H.out k hlk
      have hok := nrTo_ok F e a k
      obtain ⟨D, hD⟩ : ∃ D, F a k = D := ⟨_, rfl⟩
      have HD := Lib.hid hD
      obtain ⟨X, hX⟩ : ∃ X, nrTo F e a k = X := ⟨_, rfl⟩
      have HX := Lib.hid hX
      rw [hX] at hok ⊢
      rw [hD] at c0
      have xlo := hok.lo
      have xhi := hok.hi
      clear hD hX hok
      cases hIa : bit e (k : Int)
      · have HIa := Lib.hid hIa
        have HS : Hid (nrTo F e a (k + 1) = X) := by show _ = _; rw [nxNr_out hIa, HX.out]
        clear hIa
        go_wp2_with fail
        refine (inSet_any e k k0 (by omega) e0 (by omega) _).mono ?_; rintro en w1 ⟨rfl, rfl⟩; rw [HIa.out]
        go_wp2_with fail
        go_roundw
        case rel => exact ⟨k + 1, by omega, by go_num, by rw [HS.out], by first | rfl | trivial⟩
        case measure => (simp [intOf]) <;> omega
      · have HIa := Lib.hid hIa
        by_cases hD0 : D < 0
        · have HS : Hid (nrTo F e a (k + 1) = X) := by show _ = _; rw [nxNr_far (by rw [HD.out]; exact hD0), HX.out]
          clear hIa
          go_wp2_with fail
          refine (inSet_any e k k0 (by omega) e0 (by omega) _).mono ?_; rintro en w1 ⟨rfl, rfl⟩; rw [HIa.out]
          go_wp2_with fail
          go_roundw
          case rel => exact ⟨k + 1, by omega, by go_num, by rw [HS.out], by first | rfl | trivial⟩
          case measure => (simp [intOf]) <;> omega
        · by_cases hX0 : X < 0
          · have HS : Hid (nrTo F e a (k + 1) = k) := nxNr_yes hIa (by rw [HD.out]; omega) (Or.inl (by rw [HX.out]; exact hX0))
            clear hIa
            go_wp2_with fail
            refine (inSet_any e k k0 (by omega) e0 (by omega) _).mono ?_; rintro en w1 ⟨rfl, rfl⟩; rw [HIa.out]
            go_wp2_with fail
            go_roundw
            case rel => exact ⟨k + 1, by omega, by go_num, by rw [HS.out], by first | rfl | trivial⟩
            case measure => (simp [intOf]) <;> omega
          · obtain ⟨x, hx⟩ : ∃ x : Nat, X = x := ⟨X.toNat, by omega⟩
            subst hx
            have xm : x < m := by omega
            have x0 : (0 : Int) ≤ (x : Int) := by omega
            have xm1 : (x : Int) < (m : Int) := by omega
            have cx := H.out x xm
            obtain ⟨E, hE⟩ : ∃ E, F a x = E := ⟨_, rfl⟩
            have HE := Lib.hid hE
            rw [hE] at cx
            clear hE
            by_cases hDE : D < E
            · have HS : Hid (nrTo F e a (k + 1) = k) := nxNr_yes hIa (by rw [HD.out]; omega) (Or.inr (by rw [HX.out, Int.toNat_natCast, HD.out, HE.out]; exact hDE))
              clear hIa
              go_wp2_with fail
              refine (inSet_any e k k0 (by omega) e0 (by omega) _).mono ?_; rintro en w1 ⟨rfl, rfl⟩; rw [HIa.out]
              go_wp2_with fail
              go_roundw
              case rel => exact ⟨k + 1, by omega, by go_num, by rw [HS.out], by first | rfl | trivial⟩
              case measure => (simp [intOf]) <;> omega
            · have HS : Hid (nrTo F e a (k + 1) = x) := by show _ = _; rw [nxNr_worse (by rw [HX.out]; exact hX0) (by rw [HX.out, Int.toNat_natCast, HD.out, HE.out]; exact hDE), HX.out]
              clear hIa
              go_wp2_with fail
              refine (inSet_any e k k0 (by omega) e0 (by omega) _).mono ?_; rintro en w1 ⟨rfl, rfl⟩; rw [HIa.out]
              go_wp2_with fail
              go_roundw
              case rel => exact ⟨k + 1, by omega, by go_num, by rw [HS.out], by first | rfl | trivial⟩
              case measure => (simp [intOf]) <;> omega
    · obtain rfl : k = m := by omega
      go_wp2_with fail
      go_ret
      exact ⟨rfl, rfl⟩
end Go.Proofs.Ythadehgpeafniaa
