/- Walks of the exact laws of CodeOf and TreeOfCode: the program's answer is the model's, and its memory is its own. -/
import Derived.Test.YtimccjmphdkbjaaDoorPcV
import Derived.Test.YtimccjmphdkbjaaDoorPdB
import Derived.Test.YtimccjmphdkbjaaDoorCpA
import Derived.Test.YtimccjmphdkbjaaDoorXA
import Derived.Test.YtimccjmphdkbjaaDoorMH
import Derived.Test.YtimccjmphdkbjaaDoorUpA
set_option linter.unusedSimpArgs false
set_option linter.unusedVariables false
attribute [local go_sem ↓] Go.wp_at_zero Go.wp_at_succ
namespace Go.Proofs.YtimccjmphdkbjaaDoor
open Go.ChangeShapes Go.WideShapes Go.ChangeAt Go.RowKit

theorem Row2.rowF2 {w : World} {b : Nat} {t : TypeId} {cs : List (Int × Int)} (h : Row2 w b t cs cs.length) : RowF w b (b + 1) (some ⟨b, 0, none⟩) (cs.length * 2) (ctF cs) := by
  refine ⟨fun j hj => ⟨b, 0, rfl, Nat.le_refl _, by omega, ?_, (by rw [Nat.zero_add]; exact (h.cell j hj).2)⟩, h.lt⟩
  obtain ⟨vs, h1, h2, h3⟩ := h.blk
  rw [Nat.zero_add, cell_of_row _ _ j _ _ (0, 0) h1]
  obtain ⟨x, hx⟩ : ∃ x, cs[j / 2]? = some x := ⟨_, List.getElem?_eq_getElem (by omega)⟩
  obtain ⟨g0, g1⟩ := h3 (j / 2) x (by omega) hx
  obtain ⟨f0, f1⟩ := ctF_at hx
  have h9 : j % 2 = 0 ∨ j % 2 = 1 := by omega
  rcases h9 with h9 | h9
  · have e : j / 2 * 2 = j := by omega
    rw [e] at g0 f0
    rw [g0, f0]
  · have e : j / 2 * 2 + 1 = j := by omega
    rw [e] at g1 f1
    rw [g1, f1]
theorem newCode_row {o : Option (List Int)} {cs : List Int} {tb : Bool} {w w' : World} {en : Ending} (ho : (o = none ∧ cs = [] ∧ tb = false) ∨ (o = some cs ∧ tb = true)) (h : NewCode o w en w') :
    ∃ A1 c1 lo hi, en = .returned (.tuple #[.slice A1 cs.length c1, .bool tb]) ∧ RowF w' lo hi A1 cs.length (fun j => cs.getD j 0) ∧ w.heap.size ≤ lo ∧ Below w.heap.size w w' := by
  rcases ho with ⟨rfl, rfl, rfl⟩ | ⟨rfl, rfl⟩
  · obtain ⟨A1, c1, h1, h2⟩ := h
    exact ⟨A1, c1, w'.heap.size, w'.heap.size, h1, RowF.none _ _ _ _ _ (Nat.le_refl _), h2.size, h2⟩
  · exact h
theorem newCuts_row2 {o : Option (List (Int × Int))} {cs : List (Int × Int)} {tb : Bool} {w w' : World} {en : Ending} (ho : (o = none ∧ cs = [] ∧ tb = false) ∨ (o = some cs ∧ tb = true)) (h : NewCuts o w en w') :
    ∃ A1 c1 lo hi, en = .returned (.tuple #[.slice A1 cs.length c1, .bool tb]) ∧ RowF w' lo hi A1 (cs.length * 2) (ctF cs) ∧ w.heap.size ≤ lo ∧ Below w.heap.size w w' := by
  rcases ho with ⟨rfl, rfl, rfl⟩ | ⟨rfl, rfl⟩
  · obtain ⟨A1, c1, h1, h2⟩ := h
    exact ⟨A1, c1, w'.heap.size, w'.heap.size, h1, RowF.none _ _ _ _ _ (Nat.le_refl _), h2.size, h2⟩
  · exact h
set_option maxHeartbeats 400000 in
theorem toPairS_row (A : Option Addr) (cap : Nat) (cs : List (Int × Int)) (w : World) (hr : RC w w.heap.size A cs) (hm : cs.length ≤ 1048576) :
    Calls Tryd.prog 27 #[.slice A cs.length cap] w fun e w' => ∃ b, w.heap.size ≤ b ∧ e = .returned (.slice (some ⟨b, 0, none⟩) cs.length cs.length) ∧ RowF w' b (b + 1) (some ⟨b, 0, none⟩) (cs.length * 2) (ctF cs) ∧ Below w.heap.size w w' := by
  obtain ⟨i0, hi0, hz0, hz1, hz2⟩ := info_parts infoPair
  have hmk := fun W => run_make_rowN (P := Tryd.prog) 23 28 i0 _ Tryd.underlying23 hi0 hz0 .i64 .i64 cs.length cs.length (Nat.le_refl _) (by rw [hz2]; omega) (by omega) W
  rw [hz1] at hmk
  have hms : (madeCells (Value.agg #[.int .i64 0, .int .i64 0]).cells (cs.length * 2)).size = cs.length * 2 := by simp [madeCells]
  generalize madeCells (Value.agg #[.int .i64 0, .int .i64 0]).cells (cs.length * 2) = made at hmk hms
  have HR := Lib.hid hr
  have HS := Lib.hid hms
  clear hr hz0 hz1 hz2 hi0 hms
  go_enter Tryd.func27, Tryd.ntmps27
  go_wp2_with fail
  clear hmk
  go_loopw [4] (fun i wr => ∃ k : Nat, k ≤ cs.length ∧ i = .int .i64 k ∧ Below w.heap.size w wr ∧ Row2 wr w.heap.size 28 cs k) (fun i _ => cs.length - (intOf i).toNat)
  case atStart => exact ⟨0, Nat.zero_le _, rfl, by go_grown, Row2.made w _ cs _ HS.out⟩
  case round =>
    obtain ⟨k, hk, rfl, hb, hrow⟩ := hrel
    have hz := hrow.lt
    by_cases hlt : k < cs.length
    · obtain ⟨x, hx⟩ : ∃ x, cs[k]? = some x := ⟨_, List.getElem?_eq_getElem hlt⟩
      obtain ⟨b, o, rfl, hB, c0, c1⟩ := HR.out.below hb k x hx
      have HX := Lib.hid hx
      have HROW := Lib.hid hrow
      clear hx hrow
      go_wp2_with fail
      refine (toPair_any _ _).mono ?_; rintro e w1 ⟨rfl, hb1⟩
      have hrow1 := HROW.out.below hb1
      have hz1 := hrow1.lt
      obtain ⟨⟨u0, d0⟩, e0⟩ := hrow1.cell (k * 2) (by omega)
      obtain ⟨⟨u1, d1⟩, e1⟩ := hrow1.cell (k * 2 + 1) (by omega)
      have HB1 := Lib.hid (bstep hb (by omega) hb1)
      have HROW1 := Lib.hid hrow1
      clear hrow1 hb1
      go_wp2_with fail
      go_roundw
      case rel => exact ⟨k + 1, by omega, by go_num, by have := HB1.out; go_grown, HROW1.out.write x HX.out⟩
      case measure => simp [intOf]; omega
    · have HROW := Lib.hid hrow
      clear hrow
      go_wp2_with fail
      go_ret
      have hk' : k = cs.length := by omega
      subst hk'
      exact ⟨w.heap.size, Nat.le_refl _, rfl, HROW.out.rowF2, hb⟩
theorem code_len64 {n : Int} {L : List (Int × Int)} {c : List Int} (h : codeOf n L = some c) : c.length ≤ 64 := by
  cases hok : linksOk n L
  · rw [codeOf_none hok] at h; cases h
  · obtain ⟨m, rfl, h2, h6, _⟩ := linksOk_t hok
    obtain ⟨c', h1, _, hcok, _⟩ := code_of_tree hok
    rw [h] at h1; injection h1 with h1; subst h1
    obtain ⟨m9, em9, _, _, hcb⟩ := codeOk_t hcok
    have := (codeB_t hcb).1
    omega
theorem tree_len64 {n : Int} {c : List Int} {L : List (Int × Int)} (h : treeOfCode n c = some L) : L.length ≤ 64 := by
  cases hok : codeOk n c
  · rw [treeOf_none hok] at h; cases h
  · obtain ⟨m, rfl, h2, h6, _⟩ := codeOk_t hok
    obtain ⟨L', hL, _, hlo, _⟩ := tree_of_code hok
    rw [h] at hL
    obtain rfl := Option.some.inj hL
    obtain ⟨m', e, _, _, hs, _⟩ := linksOk_t hlo
    have := (shape_at hs).1
    omega
set_option maxHeartbeats 4000000 in
theorem FnExactCodeOf_exact (n : Int) (Ap : Option Addr) (cp : Nat) (L : List (Int × Int)) (w : World) (hi : RC w w.heap.size Ap L) (hlm : L.length ≤ 1048576) (hT : Tab w) {cs : List Int} {tb : Bool} (ho : (codeOf n L = none ∧ cs = [] ∧ tb = false) ∨ (codeOf n L = some cs ∧ tb = true)) (hcs : cs.length ≤ 64) :
    Calls Tryd.prog 8 #[.int .i64 n, .slice Ap L.length cp] w fun e w' => e = .returned (.bool true) ∧ Below w.heap.size w w' := by
  have HR := Lib.hid hi
  have HT := Lib.hid hT
  clear hT
  clear hi
  have IOK : Hid (∀ (A : Option Addr) (cap : Nat) (W : World), RC W W.heap.size A L → Tab W → Calls Tryd.prog 13 #[.int .i64 n, .slice A L.length cap] W fun en w' => ∃ A1 c1 lo hi, en = .returned (.tuple #[.slice A1 cs.length c1, .bool tb]) ∧ RowF w' lo hi A1 (cs.length) (fun j => cs.getD j 0) ∧ W.heap.size ≤ lo ∧ Below W.heap.size W w') := fun A cap W h ht => (CodeOf_any n A cap L W ht h (by omega)).mono fun en w' hh => newCode_row ho hh
  have SOK : Hid (∀ (A : Option Addr) (cap : Nat) (W : World), RC W W.heap.size A L → Calls Tryd.prog 14 #[.int .i64 n, .slice A L.length cap] W fun en w' => ∃ A1 c1 lo hi, en = .returned (.tuple #[.slice A1 cs.length c1, .bool tb]) ∧ RowF w' lo hi A1 (cs.length) (fun j => cs.getD j 0) ∧ W.heap.size ≤ lo ∧ Below W.heap.size W w') := fun A cap W h => (sCodeOf_any n A cap L W h (by omega)).mono fun en w' hh => newCode_row ho hh
  have hcm : cs.length ≤ 1048576 := by omega
  clear ho
  go_enter Tryd.func8, Tryd.ntmps8
  go_wp2_with fail
  refine (szPairS_any Ap L.length cp 1048576 _ (by omega) (by omega) (by omega)).mono ?_; rintro e0 w0 ⟨rfl, rfl⟩; rw [if_pos (by omega)]
  go_wp2_with fail
  refine (toPairS_row _ _ L _ HR.out (by omega)).mono ?_; rintro e1 w1 ⟨b1, hbl1, rfl, hrow1, hb1⟩
  have HB1 := Lib.hid hb1
  have HR1 := Lib.hid hrow1
  clear hb1 hrow1
  go_wp2_with fail
  refine (SOK.out _ _ _ HR1.out.rc).mono ?_; rintro e2 w2 ⟨T2, cT2, lo2, hi2, rfl, ht2, hl2, hb2⟩
  have HB2 := Lib.hid (bstep (B := w.heap.size) (W := w) HB1.out HB1.out.size hb2)
  have HA2 := Lib.hid ht2
  have z2 : w.heap.size ≤ lo2 := Nat.le_trans HB1.out.size hl2
  have t2 := ht2.top
  clear hb2 ht2 HR1
  go_wp2_with fail
  refine (toPairS_row _ _ L _ (HR.out.later HB2.out) (by omega)).mono ?_; rintro e3 w3 ⟨b3, hbl3, rfl, hrow3, hb3⟩
  have HB3 := Lib.hid (bstep (B := w.heap.size) (W := w) HB2.out HB2.out.size hb3)
  have HA3 := Lib.hid (HA2.out.below hb3)
  have HX3 := Lib.hid hrow3
  have zb3 : w.heap.size ≤ b3 := Nat.le_trans HB2.out.size hbl3
  have s3 := hb3.size
  have t3 := hrow3.top
  clear hb3 hrow3 HA2
  go_wp2_with fail
  refine (IOK.out _ _ _ HX3.out.rc (HT.out.later HB3.out)).mono ?_; rintro e4 w4 ⟨T4, cT4, lo4, hi4, rfl, ht4, hl4, hb4⟩
  have HB4 := Lib.hid (bstep (B := w.heap.size) (W := w) HB3.out HB3.out.size hb4)
  have HA4 := Lib.hid (HA3.out.below hb4)
  have HX4 := Lib.hid (HX3.out.below hb4)
  have HG4 := Lib.hid ht4
  have z4 : w.heap.size ≤ lo4 := Nat.le_trans HB3.out.size hl4
  have s4 := hb4.size
  have t4 := ht4.top
  clear hb4 ht4 HA3 HX3
  go_wp2_with fail
  refine (eqIntS_any _ _ _ _ cs.length _ _ _ _ _ _ HG4.out HA4.out hcm).mono ?_; rintro e5 w5 ⟨rfl, hb5⟩
  have HB5 := Lib.hid (bstep (B := w.heap.size) (W := w) HB4.out HB4.out.size hb5)
  have HA5 := Lib.hid (HA4.out.below hb5)
  have HX5 := Lib.hid (HX4.out.below hb5)
  have HG5 := Lib.hid (HG4.out.below hb5)
  have HRW5 := Lib.hid (HR.out.later HB5.out)
  clear hb5 HA4 HX4 HG4
  cases tb
  · skip
    go_wp2_with fail
    refine (toPairS_row _ _ L _ HRW5.out (by omega)).mono ?_; rintro e6 w6 ⟨b6, hbl6, rfl, hrow6, hb6⟩
    have HB6 := Lib.hid (bstep (B := w.heap.size) (W := w) HB5.out HB5.out.size hb6)
    have HA6 := Lib.hid (HA5.out.below hb6)
    have HX6 := Lib.hid (HX5.out.below hb6)
    have HG6 := Lib.hid (HG5.out.below hb6)
    have HC6 := Lib.hid hrow6
    clear hb6 hrow6
    go_wp2_with fail
    refine (eqPairS_any _ _ _ _ L _ HX6.out.rc HC6.out.rc (by omega)).mono ?_; rintro e7 w7 ⟨rfl, hb7⟩
    have HB7 := Lib.hid (bstep (B := w.heap.size) (W := w) HB6.out HB6.out.size hb7)
    have HA7 := Lib.hid (HA6.out.below hb7)
    have HX7 := Lib.hid (HX6.out.below hb7)
    have HG7 := Lib.hid (HG6.out.below hb7)
    clear hb7 HA6 HX6 HG6 HC6
    go_wp2_with fail
    refine (markPairS_any _ _ L.length _ 1 _ _ _ HX7.out (by omega) (by decide) (by decide)).mono ?_; rintro e8 w8 ⟨rfl, hr8, ho8⟩
    have HB8 := Lib.hid (Below.only_ HB7.out (by omega) HB7.out.size ho8)
    have HA8 := Lib.hid (HA7.out.only ho8 (.inl (by omega)))
    have HG8 := Lib.hid (HG7.out.only ho8 (.inr (by omega)))
    have hk8 : ¬ (1 + (L.length : Int) * 2 < 0) := by omega
    clear hr8 ho8 HA7 HX7 HG7
    go_wp2_with fail
    refine (eqIntS_any _ _ _ _ cs.length _ _ _ _ _ _ HG8.out HA8.out hcm).mono ?_; rintro e9 w9 ⟨rfl, hb9⟩
    have HB9 := Lib.hid (bstep (B := w.heap.size) (W := w) HB8.out HB8.out.size hb9)
    have HA9 := Lib.hid (HA8.out.below hb9)
    have HG9 := Lib.hid (HG8.out.below hb9)
    clear hb9 HA8 HG8 hk8
    go_wp2_with fail
    refine (markIntS_any _ _ cs.length _ 1 _ _ _ HG9.out hcm (by decide) (by decide)).mono ?_; rintro e10 w10 ⟨rfl, hr10, ho10⟩
    have HB10 := Lib.hid (Below.only_ HB9.out (by omega) HB9.out.size ho10)
    have HA10 := Lib.hid (HA9.out.only ho10 (.inl (by omega)))
    have HG10 := Lib.hid hr10
    clear ho10 hr10 HA9 HG9
    obtain ⟨M, hM⟩ : ∃ M : Int, 1 + (cs.length : Int) = M := ⟨_, rfl⟩
    have hM0 : ¬ M < 0 := by omega
    have hcon : ∀ W : World, RowF W lo4 hi4 T4 (cs.length) (fun j => 1 + (j : Int)) → Calls Tryd.prog 32 #[.slice T4 cs.length cT4, .int .i64 1] W fun e w' => e = .returned (.int .i64 M) ∧ Below W.heap.size W w' := fun W h => by rw [← hM]; exact heldIntS_any T4 cT4 cs.length 1 lo4 hi4 W h hcm (by decide) (by decide)
    have HCON := Lib.hid hcon
    rw [hM]
    clear hM hcon
    go_wp2_with fail
    refine (HCON.out _ HG10.out).mono ?_; rintro e11 w11 ⟨rfl, hb11⟩
    have HB11 := Lib.hid (bstep (B := w.heap.size) (W := w) HB10.out HB10.out.size hb11)
    have HA11 := Lib.hid (HA10.out.below hb11)
    have HG11 := Lib.hid (HG10.out.below hb11)
    have HRW11 := Lib.hid (HR.out.later HB11.out)
    clear hb11 HA10 HG10
    go_wp2_with fail
    refine (toPairS_row _ _ L _ HRW11.out (by omega)).mono ?_; rintro e12 w12 ⟨b12, hbl12, rfl, hrow12, hb12⟩
    have HB12 := Lib.hid (bstep (B := w.heap.size) (W := w) HB11.out HB11.out.size hb12)
    have HA12 := Lib.hid (HA11.out.below hb12)
    have HG12 := Lib.hid (HG11.out.below hb12)
    have HC12 := Lib.hid hrow12
    clear hb12 hrow12 HA11 HG11
    go_wp2_with fail
    refine (IOK.out _ _ _ HC12.out.rc (HT.out.later HB12.out)).mono ?_; rintro e13 w13 ⟨T13, cT13, lo13, hi13, rfl, ht13, hl13, hb13⟩
    have HB13 := Lib.hid (bstep (B := w.heap.size) (W := w) HB12.out HB12.out.size hb13)
    have HA13 := Lib.hid (HA12.out.below hb13)
    have HG13 := Lib.hid (HG12.out.below hb13)
    have HH13 := Lib.hid ht13
    clear hb13 ht13 HA12 HG12 HC12
    go_wp2_with fail
    refine (eqIntS_any _ _ _ _ cs.length _ _ _ _ _ _ HH13.out HA13.out hcm).mono ?_; rintro e14 w14 ⟨rfl, hb14⟩
    have HB14 := Lib.hid (bstep (B := w.heap.size) (W := w) HB13.out HB13.out.size hb14)
    have HG14 := Lib.hid (HG13.out.below hb14)
    clear hb14 HA13 HG13 HH13
    go_wp2_with fail
    refine (HCON.out _ HG14.out).mono ?_; rintro e15 w15 ⟨rfl, hb15⟩
    have HB15 := Lib.hid (bstep (B := w.heap.size) (W := w) HB14.out HB14.out.size hb15)
    clear hb15
    go_wp2_with fail
    go_ret
    exact ⟨rfl, HB15.out⟩
  · skip
    go_wp2_with fail
    refine (toPairS_row _ _ L _ HRW5.out (by omega)).mono ?_; rintro e6 w6 ⟨b6, hbl6, rfl, hrow6, hb6⟩
    have HB6 := Lib.hid (bstep (B := w.heap.size) (W := w) HB5.out HB5.out.size hb6)
    have HA6 := Lib.hid (HA5.out.below hb6)
    have HX6 := Lib.hid (HX5.out.below hb6)
    have HG6 := Lib.hid (HG5.out.below hb6)
    have HC6 := Lib.hid hrow6
    clear hb6 hrow6
    go_wp2_with fail
    refine (eqPairS_any _ _ _ _ L _ HX6.out.rc HC6.out.rc (by omega)).mono ?_; rintro e7 w7 ⟨rfl, hb7⟩
    have HB7 := Lib.hid (bstep (B := w.heap.size) (W := w) HB6.out HB6.out.size hb7)
    have HA7 := Lib.hid (HA6.out.below hb7)
    have HX7 := Lib.hid (HX6.out.below hb7)
    have HG7 := Lib.hid (HG6.out.below hb7)
    clear hb7 HA6 HX6 HG6 HC6
    go_wp2_with fail
    refine (markPairS_any _ _ L.length _ 1 _ _ _ HX7.out (by omega) (by decide) (by decide)).mono ?_; rintro e8 w8 ⟨rfl, hr8, ho8⟩
    have HB8 := Lib.hid (Below.only_ HB7.out (by omega) HB7.out.size ho8)
    have HA8 := Lib.hid (HA7.out.only ho8 (.inl (by omega)))
    have HG8 := Lib.hid (HG7.out.only ho8 (.inr (by omega)))
    have hk8 : ¬ (1 + (L.length : Int) * 2 < 0) := by omega
    clear hr8 ho8 HA7 HX7 HG7
    go_wp2_with fail
    refine (eqIntS_any _ _ _ _ cs.length _ _ _ _ _ _ HG8.out HA8.out hcm).mono ?_; rintro e9 w9 ⟨rfl, hb9⟩
    have HB9 := Lib.hid (bstep (B := w.heap.size) (W := w) HB8.out HB8.out.size hb9)
    have HA9 := Lib.hid (HA8.out.below hb9)
    have HG9 := Lib.hid (HG8.out.below hb9)
    clear hb9 HA8 HG8 hk8
    go_wp2_with fail
    refine (markIntS_any _ _ cs.length _ 1 _ _ _ HG9.out hcm (by decide) (by decide)).mono ?_; rintro e10 w10 ⟨rfl, hr10, ho10⟩
    have HB10 := Lib.hid (Below.only_ HB9.out (by omega) HB9.out.size ho10)
    have HA10 := Lib.hid (HA9.out.only ho10 (.inl (by omega)))
    have HG10 := Lib.hid hr10
    clear ho10 hr10 HA9 HG9
    obtain ⟨M, hM⟩ : ∃ M : Int, 1 + (cs.length : Int) = M := ⟨_, rfl⟩
    have hM0 : ¬ M < 0 := by omega
    have hcon : ∀ W : World, RowF W lo4 hi4 T4 (cs.length) (fun j => 1 + (j : Int)) → Calls Tryd.prog 32 #[.slice T4 cs.length cT4, .int .i64 1] W fun e w' => e = .returned (.int .i64 M) ∧ Below W.heap.size W w' := fun W h => by rw [← hM]; exact heldIntS_any T4 cT4 cs.length 1 lo4 hi4 W h hcm (by decide) (by decide)
    have HCON := Lib.hid hcon
    rw [hM]
    clear hM hcon
    go_wp2_with fail
    refine (HCON.out _ HG10.out).mono ?_; rintro e11 w11 ⟨rfl, hb11⟩
    have HB11 := Lib.hid (bstep (B := w.heap.size) (W := w) HB10.out HB10.out.size hb11)
    have HA11 := Lib.hid (HA10.out.below hb11)
    have HG11 := Lib.hid (HG10.out.below hb11)
    have HRW11 := Lib.hid (HR.out.later HB11.out)
    clear hb11 HA10 HG10
    go_wp2_with fail
    refine (toPairS_row _ _ L _ HRW11.out (by omega)).mono ?_; rintro e12 w12 ⟨b12, hbl12, rfl, hrow12, hb12⟩
    have HB12 := Lib.hid (bstep (B := w.heap.size) (W := w) HB11.out HB11.out.size hb12)
    have HA12 := Lib.hid (HA11.out.below hb12)
    have HG12 := Lib.hid (HG11.out.below hb12)
    have HC12 := Lib.hid hrow12
    clear hb12 hrow12 HA11 HG11
    go_wp2_with fail
    refine (IOK.out _ _ _ HC12.out.rc (HT.out.later HB12.out)).mono ?_; rintro e13 w13 ⟨T13, cT13, lo13, hi13, rfl, ht13, hl13, hb13⟩
    have HB13 := Lib.hid (bstep (B := w.heap.size) (W := w) HB12.out HB12.out.size hb13)
    have HA13 := Lib.hid (HA12.out.below hb13)
    have HG13 := Lib.hid (HG12.out.below hb13)
    have HH13 := Lib.hid ht13
    clear hb13 ht13 HA12 HG12 HC12
    go_wp2_with fail
    refine (eqIntS_any _ _ _ _ cs.length _ _ _ _ _ _ HH13.out HA13.out hcm).mono ?_; rintro e14 w14 ⟨rfl, hb14⟩
    have HB14 := Lib.hid (bstep (B := w.heap.size) (W := w) HB13.out HB13.out.size hb14)
    have HG14 := Lib.hid (HG13.out.below hb14)
    clear hb14 HA13 HG13 HH13
    go_wp2_with fail
    refine (HCON.out _ HG14.out).mono ?_; rintro e15 w15 ⟨rfl, hb15⟩
    have HB15 := Lib.hid (bstep (B := w.heap.size) (W := w) HB14.out HB14.out.size hb15)
    clear hb15
    go_wp2_with fail
    go_ret
    exact ⟨rfl, HB15.out⟩
theorem FnExactCodeOf_walk (n : Int) (Ap : Option Addr) (cp : Nat) (L : List (Int × Int)) (w : World) (hi : RC w w.heap.size Ap L) (hli : L.length ≤ 9223372036854775807) (hT : Tab w) :
    Calls Tryd.prog 8 #[.int .i64 n, .slice Ap L.length cp] w fun e w' => e = .returned (.bool true) ∧ Below w.heap.size w w' := by
  by_cases hm : L.length ≤ 1048576
  · cases hc : codeOf n L with
    | none => exact FnExactCodeOf_exact n Ap cp L w hi hm hT (cs := []) (tb := false) (.inl ⟨hc, rfl, rfl⟩) (by simp)
    | some c => exact FnExactCodeOf_exact n Ap cp L w hi hm hT (cs := c) (tb := true) (.inr ⟨hc, rfl⟩) (by have := code_len64 hc; omega)
  · go_enter Tryd.func8, Tryd.ntmps8
    go_wp2_with fail
    refine (szPairS_any Ap L.length cp 1048576 _ hli (by omega) (by omega)).mono ?_; rintro e0 w0 ⟨rfl, rfl⟩; rw [if_neg (by omega)]
    go_wp2_with fail
    go_ret
    exact ⟨rfl, Below.refl _ _⟩
end Go.Proofs.YtimccjmphdkbjaaDoor
