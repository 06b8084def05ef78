/- All choices in the order of their sizes: the program's list. -/
import Derived.Test.YtnbihejoglgdhaaDoorMK
import Derived.Test.YtnbihejoglgdhaaDoorMJ
set_option linter.unusedSimpArgs false
set_option linter.unusedVariables false
namespace Go.Proofs.YtnbihejoglgdhaaDoor
open Go.ChangeShapes Go.WideShapes Go.ChangeAt Go.RowKit

theorem mkCap4 (W : World) : (Instr.makeSlice 55 (.int .i64 0) (.int .i64 ((4 : Nat) : Int))).run Tryd.prog W = .ok (.slice (some ⟨W.heap.size, 0, none⟩) 0 4) (W.alloc (.cells (Array.replicate 4 (.int .i64 0)) 3)) := by kernel_rfl
theorem mkCap8 (W : World) : (Instr.makeSlice 55 (.int .i64 0) (.int .i64 ((8 : Nat) : Int))).run Tryd.prog W = .ok (.slice (some ⟨W.heap.size, 0, none⟩) 0 8) (W.alloc (.cells (Array.replicate 8 (.int .i64 0)) 3)) := by kernel_rfl
theorem mkCap16 (W : World) : (Instr.makeSlice 55 (.int .i64 0) (.int .i64 ((16 : Nat) : Int))).run Tryd.prog W = .ok (.slice (some ⟨W.heap.size, 0, none⟩) 0 16) (W.alloc (.cells (Array.replicate 16 (.int .i64 0)) 3)) := by kernel_rfl
theorem mkCap32 (W : World) : (Instr.makeSlice 55 (.int .i64 0) (.int .i64 ((32 : Nat) : Int))).run Tryd.prog W = .ok (.slice (some ⟨W.heap.size, 0, none⟩) 0 32) (W.alloc (.cells (Array.replicate 32 (.int .i64 0)) 3)) := by kernel_rfl
theorem mkCap64 (W : World) : (Instr.makeSlice 55 (.int .i64 0) (.int .i64 ((64 : Nat) : Int))).run Tryd.prog W = .ok (.slice (some ⟨W.heap.size, 0, none⟩) 0 64) (W.alloc (.cells (Array.replicate 64 (.int .i64 0)) 3)) := by kernel_rfl
theorem mkCap (W : World) (m N : Nat) (h2 : 2 ≤ m) (h6 : m ≤ 6) (hN : 2 ^ m = N) : (Instr.makeSlice 55 (.int .i64 0) (.int .i64 ((N : Nat) : Int))).run Tryd.prog W = .ok (.slice (some ⟨W.heap.size, 0, none⟩) 0 N) (W.alloc (.cells (Array.replicate N (.int .i64 0)) 3)) := by
  have : m = 2 ∨ m = 3 ∨ m = 4 ∨ m = 5 ∨ m = 6 := by omega
  rcases this with rfl | rfl | rfl | rfl | rfl
  · have : N = 4 := by rw [← hN]
    subst this; exact mkCap4 W
  · have : N = 8 := by rw [← hN]
    subst this; exact mkCap8 W
  · have : N = 16 := by rw [← hN]
    subst this; exact mkCap16 W
  · have : N = 32 := by rw [← hN]
    subst this; exact mkCap32 W
  · have : N = 64 := by rw [← hN]
    subst this; exact mkCap64 W
set_option maxRecDepth 100000 in
set_option maxHeartbeats 4000000 in
theorem smallestFirst_any (m : Nat) (v : Value) (w : World) (h2 : 2 ≤ m) (h6 : m ≤ 6) :
    Calls Tryd.prog 54 #[.agg #[.int .i64 m, v]] w (NewInts (smTo (2 ^ m) (m + 1)) w) := by
  obtain ⟨N, hN⟩ : ∃ N, 2 ^ m = N := ⟨_, rfl⟩
  rw [hN]
  have hN64 : N ≤ 64 := by rw [← hN]; exact Nat.pow_le_pow_right (n := 2) (by omega) h6
  have hall : allPl (m : Int) + 1 = (N : Int) := by
    unfold allPl
    rw [Int.toNat_natCast, ← hN]
    simp
  have hwN : IntKind.i64.wrap (allPl (m : Int) + 1) = (N : Int) := by rw [hall]; exact IntWalk.i64_in _ ⟨by omega, by omega⟩
  have hwN2 : wrap64 (allPl (m : Int) + 1) = (N : Int) := by rw [hall]; exact IntWalk.wrap64_in _ ⟨by omega, by omega⟩
  have HWN := Lib.hid hwN
  have HWN2 := Lib.hid hwN2
  have hmk1 := fun W => mkCap W m N h2 h6 hN
  obtain ⟨i0, hi0, hz0, hz1', hz2⟩ := info_parts infoInt
  clear hN hall
  go_enter Tryd.func54, Tryd.ntmps54
  go_wp2_with fail
  refine (allPlaces_any (m : Int) _ (by omega) (by omega) _).mono ?_; rintro e w1 ⟨rfl, hb1⟩
  have k1 : w1.cell? ⟨w.heap.size, 0, none⟩ = some (.int .i64 m) ∧ w1.cell? ⟨w.heap.size, 1, none⟩ = some v := by
    obtain ⟨hc1, hf1⟩ := bcell hb1
    exact ⟨by go_simp, by go_simp⟩
  have z1 : w.heap.size < w1.heap.size := by have hq := hb1.size; (try simp at hq); omega
  have HB1 := Lib.hid (bstep (B := w.heap.size) (W := w) (by go_grown) (by go_size) hb1)
  clear hb1
  obtain ⟨k10, k11⟩ := k1
  go_wp2_with fail
  clear hmk1 hwN hwN2
  have c10 : (w1.alloc (.cells (Array.replicate N (.int .i64 0)) 3)).cell? ⟨w.heap.size, 0, none⟩ = some (.int .i64 m) := (World.cell?_alloc_lt _ _ _ z1).trans k10
  have c11 : (w1.alloc (.cells (Array.replicate N (.int .i64 0)) 3)).cell? ⟨w.heap.size, 1, none⟩ = some v := (World.cell?_alloc_lt _ _ _ z1).trans k11
  have HO1 := Lib.hid (World.ownsRow_made (base := w.heap.size + 1) (e := 3) (size := 1) w1 (Array.replicate N (.int .i64 0)) N (by omega) (by unfold maxLen; omega) (by simp))
  have HB2 := Lib.hid (HB1.out.alloc (Nat.le_of_lt z1) (.cells (Array.replicate N (.int .i64 0)) 3))
  have hwm : IntKind.i64.wrap ((m : Int) + 1) = ((m + 1 : Nat) : Int) := by rw [IntWalk.i64_in _ ⟨by omega, by omega⟩]; omega
  have hwm2 : wrap64 ((m : Int) + 1) = ((m + 1 : Nat) : Int) := by rw [IntWalk.wrap64_in _ ⟨by omega, by omega⟩]; omega
  go_wp2_with fail
  clear hwm hwm2
  go_loopw [3, 13] (fun u i wr => ∃ s : Nat, s ≤ m + 1 ∧ i = .int .i64 s ∧ wr.cell? ⟨w.heap.size, 0, none⟩ = some (.int .i64 m) ∧ wr.cell? ⟨w.heap.size, 1, none⟩ = some v ∧ Below w.heap.size w wr ∧ w.heap.size < wr.heap.size ∧ wr.ownsRow (w.heap.size + 1) 3 1 u (smTo N s).length (rlCells (smTo N s))) (fun _ i _ => m + 1 - (intOf i).toNat)
  case atStart => exact ⟨0, Nat.zero_le _, rfl, c10, c11, HB2.out, by simp; omega, HO1.out⟩
  case round =>
    clear c10 c11 k10 k11
    obtain ⟨s, hs, rfl, b0, b1, hb, hz, hown⟩ := hrel
    obtain ⟨A1, c1, rfl⟩ := own_form hown
    have HB0 := Lib.hid hb
    have HOWN := Lib.hid hown
    have hls := smTo_le N s
    clear hb hown
    by_cases hlt : s < m + 1
    · have hltI : (s : Int) < ((m + 1 : Nat) : Int) := by omega
      go_wp2_with fail
      refine (allPlaces_any (m : Int) _ (by omega) (by omega) _).mono ?_; rintro e w3 ⟨rfl, hb3⟩
      have k3 := keep2 hb3 ⟨b0, b1⟩ hz
      have z3 := Nat.lt_of_lt_of_le hz hb3.size
      have HB3 := Lib.hid (bstep (B := w.heap.size) (W := w) HB0.out (Nat.le_of_lt hz) hb3)
      have HO3 := Lib.hid (own_below HOWN.out hb3)
      clear hb3 HOWN
      have hwN := HWN.out
      have hwN2 := HWN2.out
      go_wp2_with fail
      clear hwN hwN2
      go_loopw [3, 19] (fun u i wj => ∃ c : Nat, c ≤ N ∧ i = .int .i64 c ∧ wj.cell? ⟨w.heap.size, 0, none⟩ = some (.int .i64 m) ∧ wj.cell? ⟨w.heap.size, 1, none⟩ = some v ∧ Below w.heap.size w wj ∧ w.heap.size < wj.heap.size ∧ wj.ownsRow (w.heap.size + 1) 3 1 u (smRow s (smTo N s) c).length (rlCells (smRow s (smTo N s) c))) (fun _ i _ => N - (intOf i).toNat)
      case atStart => exact ⟨0, Nat.zero_le _, rfl, k3.1, k3.2, HB3.out, z3, HO3.out⟩
      case round =>
        clear k3 b0 b1
        obtain ⟨c, hc, rfl, b0, b1, hb, hz', hown⟩ := hrel
        obtain ⟨A2, c2, rfl⟩ := own_form hown
        have HB4 := Lib.hid hb
        have HO4 := Lib.hid hown
        have hlc := smRow_le s hc
        clear hb hown
        have HY1 := Lib.hid (smRow_yes (s := s) (c := c) (L := smTo N s))
        have HY2 := Lib.hid (smRow_no (s := s) (c := c) (L := smTo N s))
        by_cases hcN : c < N
        · generalize smRow s (smTo N s) c = Lc at HO4 hlc HY1 HY2 ⊢
          have hcI : (c : Int) < (N : Int) := by omega
          have hc0 : (0 : Int) ≤ (c : Int) := by omega
          have hc1 : (c : Int) < 512 := by omega
          have HSZ := Lib.hid (fun W => sizeOf_any (c : Int) hc0 hc1 W)
          obtain ⟨p, hp⟩ : ∃ p, pop (c : Int) = p := ⟨_, rfl⟩
          have HP := Lib.hid hp
          clear hp
          by_cases hps : p = (s : Int)
          · have HY := Lib.hid (HY1.out (show pop (c : Int) = (s : Int) by rw [HP.out]; exact hps))
            have hpe : (p == (s : Int)) = true := by simpa using hps
            clear hps HY1 HY2
            go_wp2_with fail
            refine (HSZ.out _).mono ?_; rintro e4 w4 ⟨rfl, rfl⟩; rw [HP.out]
            go_wp2_with (at_builtin; refine wpList_append_lies _ rfl _ _ _ rfl (w.heap.size + 1) 3 i0 _ 1 8 Tryd.underlying55 hi0 hz0 hz1' hz2 rfl (by omega) (.slice A2 Lc.length c2) Lc.length (rlCells Lc) rfl (HO4.out.alloc _) ⟨wr.heap.size, 0, none⟩ 1 1 [.int .i64 c] rfl rfl (World.news_of_block (cs := #[.int .i64 c]) (t := 3) (fr := (0, 0)) (heap_alloc_new wr _)) (by simp [Value.oneCell']) (by omega) (by unfold maxLen; omega) (by omega) (by simp; omega) (wr.heap.size + 1) (by simp) ?_; intro gg cc w5 hown5 hgrow5 hat5 hlt5)
            have hb5 : Below w.heap.size w w5 := by
              have h9 := HB4.out.alloc (Nat.le_of_lt hz') (.cells #[.int .i64 c] 3)
              refine ⟨hgrow5.os.trans h9.os, hgrow5.tape.trans h9.tape, hgrow5.output.trans h9.output, Nat.le_trans h9.size hgrow5.size, fun i hi => (hgrow5.block i (by simp; omega) (fun e => by have := (HO4.out.lt i e.symm).1; omega)).trans (h9.block i hi)⟩
            have hbx : w5.heap[w.heap.size]? = wr.heap[w.heap.size]? := (hgrow5.block w.heap.size (by simp; omega) (fun e => by have := (HO4.out.lt w.heap.size e.symm).1; omega)).trans (Below.heap_alloc _ _ _ hz')
            have HB5 := Lib.hid hb5
            have HO5 : Hid (w5.ownsRow (w.heap.size + 1) 3 1 (.slice (some ⟨gg, 0, none⟩) (Lc.length + 1) cc) (smRow s (smTo N s) (c + 1)).length (rlCells (smRow s (smTo N s) (c + 1)))) := by
              show w5.ownsRow _ _ _ _ _ _
              rw [HY.out, rlCells_snoc, List.length_append]; exact hown5
            have d0 : w5.cell? ⟨w.heap.size, 0, none⟩ = some (.int .i64 m) := (World.cell?_of_block (w := wr) hbx).trans b0
            have d1 : w5.cell? ⟨w.heap.size, 1, none⟩ = some v := (World.cell?_of_block (w := wr) hbx).trans b1
            have z5 : w.heap.size < w5.heap.size := Nat.lt_of_lt_of_le (by simp; omega) hgrow5.size
            clear hown5 hgrow5 hat5 hlt5 hb5 hbx
            go_wp2_with fail
            go_roundw
            case rel => exact ⟨c + 1, by omega, by go_num, d0, d1, HB5.out, z5, by have h9 := HO5.out; rw [HY.out] at h9 ⊢; simpa using h9⟩
            case measure => (simp [intOf]) <;> omega
          · have HY := Lib.hid (HY2.out (show pop (c : Int) ≠ (s : Int) by rw [HP.out]; exact hps))
            have hpe : (p == (s : Int)) = false := by simpa using hps
            clear hps HY1 HY2
            go_wp2_with fail
            refine (HSZ.out _).mono ?_; rintro e4 w4 ⟨rfl, rfl⟩; rw [HP.out]
            go_wp2_with fail
            go_roundw
            case rel => exact ⟨c + 1, by omega, by go_num, b0, b1, HB4.out, hz', by rw [HY.out]; exact HO4.out⟩
            case measure => (simp [intOf]) <;> omega
        · have hcN' : c = N := by omega
          subst hcN'
          have hcI : ¬ (c : Int) < (c : Int) := by omega
          go_wp2_with fail
          go_roundw
          case rel => exact ⟨s + 1, by omega, by go_num, b0, b1, HB4.out, hz', HO4.out⟩
          case measure => (simp [intOf]) <;> omega
    · have hsm : s = m + 1 := by omega
      subst hsm
      go_wp2_with fail
      go_ret
      exact ⟨_, _, rfl, (rowF_of_own HOWN.out (fun j hj => rlCells_at hj)).wider (Nat.le_succ _), HB0.out⟩
end Go.Proofs.YtnbihejoglgdhaaDoor
