/- The model's links between ends: the nearest end is linked next. -/
import Derived.Test.YtcpefijmcajebaaDoorEnC
import Derived.Test.YtcpefijmcajebaaDoorTd
import Derived.Test.YtcpefijmcajebaaDoorTr
import Derived.Test.YtcpefijmcajebaaDoorMD
set_option linter.unusedSimpArgs false
set_option linter.unusedVariables false
attribute [local go_sem ↓] Go.wp_at_zero Go.wp_at_succ
namespace Go.Proofs.YtcpefijmcajebaaDoor
open Go.ChangeShapes Go.WideShapes Go.ChangeAt Go.RowKit

/-- the numbers of links -/
def lkF (L : List (Nat × Nat)) (i j : Nat) : Int := match L[i]? with
  | some p => if j = 0 then (p.1 : Int) else (p.2 : Int)
  | none => 0
theorem lkF_at {L : List (Nat × Nat)} {i : Nat} {p : Nat × Nat} (h : L[i]? = some p) : lkF L i 0 = p.1 ∧ lkF L i 1 = p.2 := by
  unfold lkF; rw [h]; exact ⟨rfl, rfl⟩
theorem lkF_snoc {L : List (Nat × Nat)} {p : Nat × Nat} {i : Nat} (h : i < L.length) (j : Nat) : lkF L i j = lkF (L ++ [p]) i j := by
  unfold lkF; rw [List.getElem?_append_left h]
/-- new rows of links, if they are told -/
def NewLinks (o : Option (List (Nat × Nat))) (w : World) (en : Ending) (w' : World) : Prop := match o with
  | none => ∃ A1 c1, en = .returned (.tuple #[.slice A1 0 c1, .bool false]) ∧ Below w.heap.size w w'
  | some L => ∃ A1 c1, en = .returned (.tuple #[.slice A1 L.length c1, .bool true]) ∧ (L = [] ∨ ∃ T R C lo hi, A1 = some ⟨T, 0, none⟩ ∧ TabR w' lo hi T L.length 2 R C (lkF L) ∧ w.heap.size ≤ lo) ∧ Below w.heap.size w w'
theorem RowsP.congr {w : World} {base m a : Nat} {v : Value} {R C : Nat → Nat} {f g : Nat → Nat → Int} (h : RowsP w base m a v R C f) (he : ∀ i j, i < a → j < m → f i j = g i j) : RowsP w base m a v R C g :=
  ⟨h.own, fun i j hi hj => by rw [← he i j hi hj]; exact h.row i j hi hj, h.rlo, h.inj, h.neO⟩
theorem RowsP.tabR {w : World} {base m a : Nat} {v : Value} {R C : Nat → Nat} {f : Nat → Nat → Int} (h : RowsP w base m a v R C f) (ha : 0 < a) : ∃ T cT, v = .slice (some ⟨T, 0, none⟩) a cT ∧ TabR w base w.heap.size T a m R C f := by
  obtain ⟨T, cT, rfl, h1, h2⟩ := h.own.form ha
  refine ⟨T, cT, rfl, fun i hi => ?_, h.row, h.inj, fun i hi e => h.neO i hi (by rw [e]; rfl), ⟨h1, h2⟩, h.rlo, Nat.le_refl _⟩
  rw [h.own.cellAt i (by omega)]
  exact rowCells_at m R C hi
theorem own_two (w : World) (base : Nat) (hb : base ≤ w.heap.size) (x y : Int) : (w.alloc (.cells #[.int .i64 x, .int .i64 y] 3)).ownsRow base 3 1 (.slice (some ⟨w.heap.size, 0, none⟩) 2 2) 2 [.int .i64 x, .int .i64 y] :=
  ⟨rfl, .inr ⟨w.heap.size, 2, #[.int .i64 x, .int .i64 y], rfl, hb, heap_alloc_new w _, Nat.le_refl _, by unfold maxLen; omega, rfl, rfl⟩⟩
/-- the best link so far, in new memory -/
def BestV (wr : World) (base : Nat) (v : Value) (o : Option (Nat × Nat)) : Prop := match o with
  | none => ∃ A c, v = .slice A 0 c
  | some p => ∃ g, v = .slice (some ⟨g, 0, none⟩) 2 2 ∧ wr.ownsRow base 3 1 v 2 [.int .i64 p.1, .int .i64 p.2]
theorem BestV.below {w w' : World} {base : Nat} {v : Value} {o : Option (Nat × Nat)} (h : BestV w base v o) (hb : Below w.heap.size w w') : BestV w' base v o := by
  cases o with
  | none => exact h
  | some p =>
    obtain ⟨g, h1, h2⟩ := h
    exact ⟨g, h1, ownBelow h2 hb⟩
theorem bstR_no {f : Nat → Nat → Int} {I e : Int} {a b : Nat} {o : Option (Nat × Nat)} (h : okP f I e a b = false) : bstR f I e a o (b + 1) = bstR f I e a o b := by
  rw [bstR, h, Bool.false_and, if_neg (by simp)]
theorem bstR_yes {f : Nat → Nat → Int} {I e : Int} {a b : Nat} {o : Option (Nat × Nat)} (h : okP f I e a b = true) (hb : bet f (bstR f I e a o b) a b = true) : bstR f I e a o (b + 1) = some (a, b) := by
  rw [bstR, h, hb, Bool.true_and, if_pos rfl]
theorem bstR_not {f : Nat → Nat → Int} {I e : Int} {a b : Nat} {o : Option (Nat × Nat)} (hb : bet f (bstR f I e a o b) a b = false) : bstR f I e a o (b + 1) = bstR f I e a o b := by
  rw [bstR, hb, Bool.and_false, if_neg (by simp)]
theorem bstR_lt {f : Nat → Nat → Int} {I e : Int} {m a : Nat} (ha : a < m) {b : Nat} (hb : b ≤ m) {x y : Nat} (h : bstR f I e a (bstA f I e m a) b = some (x, y)) : x < m ∧ y < m ∧ okP f I e x y = true := by
  rcases bstR_best (a := a) (bstA_best (f := f) (I := I) (e := e) (m := m) a) b with ⟨h1, _⟩ | ⟨x', y', h1, h2, h3, _⟩
  · rw [h] at h1; cases h1
  · rw [h] at h1; injection h1 with h1; injection h1 with e1 e2
    subst e1; subst e2
    refine ⟨?_, ?_, h2⟩ <;> rcases h3 with h3 | h3 <;> omega
set_option maxRecDepth 100000 in
set_option maxHeartbeats 16000000 in
theorem l5Links_any (m : Nat) (e : Int) (A : Option Addr) (cap : Nat) (ws : List Wy) (w : World) (hr : RW w w.heap.size A ws) (hni : NetIs (m : Int) ws) (e0 : 0 ≤ e) (e1 : e < 2 ^ m) :
    Calls Tryd.prog 36 #[.agg #[.int .i64 m, .slice A ws.length cap], .int .i64 e] w (NewLinks (lnks m ws e) w) := by
  have HR := Lib.hid hr
  have HS := Lib.hid hni
  have hn6 := hni.hi
  have hn2 := hni.lo
  have hm6 : m ≤ 6 := by omega
  have hp6 := pow_bd (m : Int) 6 (by omega)
  rw [Int.toNat_natCast] at hp6
  have he64 : e < 64 := by omega
  have hst := st_rc hni e0 e1
  have hneg : IntKind.i64.wrap (-e) = -e := IntWalk.i64_in _ ⟨by omega, by omega⟩
  have hste : bits .and .i64 e (-e) = stE e := rfl
  obtain ⟨I0, hI0⟩ : ∃ I, stE e = I := ⟨_, rfl⟩
  rw [hI0] at hst hste
  obtain ⟨-, hst0, hst1, hst2, hst3⟩ := hst
  have hpe : pop e ≤ 6 := by
    have hpa := pop_sub (u := e) (s := allPl m) (fun q hq h => by rw [allPl_bit hq (by omega)]; have := set_sub e0 e1 h; simpa using this)
    rw [pop_allPl (by omega) (by omega)] at hpa
    omega
  have HL : Hid (lnks m ws e = lks (farF ws m) e m 6 I0) := by show _ = _; unfold lnks; rw [hI0]
  have HE1 := Lib.hid e1
  have HFN : Hid (∀ a b : Nat, a < m → b < m → -1 ≤ farF ws m a b ∧ farF ws m a b ≤ 1000) := fun a b ha hb => ⟨farF_ge hni m a b, farF_bd hni ha hb⟩
  clear hr hni hI0 hp6 e1
  rw [HL.out]
  go_enter Tryd.func36, Tryd.ntmps36
  go_wp2_with fail
  refine (l1Far_any m A cap ws _ (HR.out.later (by go_grown)) HS.out).mono ?_; rintro en1 w1 ⟨T, cT, lo, hi, R, C, rfl, htab, hlo, hb1⟩
  have k1 : w1.cell? ⟨w.heap.size, 0, none⟩ = some (.int .i64 m) ∧ w1.cell? ⟨w.heap.size, 1, none⟩ = some (.slice A ws.length cap) := by
    obtain ⟨hc1, hf1⟩ := bcell hb1
    exact ⟨by go_simp, by go_simp⟩
  have hz1 : w.heap.size < w1.heap.size := by have hq := hb1.size; (try simp at hq); omega
  have HB1 := Lib.hid (bstep (B := w.heap.size) (W := w) (by go_grown) (by go_size) hb1)
  have HT1 := Lib.hid htab
  clear hb1 htab hlo
  have hbs2 := noRows
  go_wp2_with fail
  clear hbs2
  go_loopw [7, 8] (fun v i wr => ∃ (Lp : List (Nat × Nat)) (I : Int) (d : Nat) (P Q : Nat → Nat), i = .int .i64 I ∧ 0 ≤ I ∧ I < 2 ^ m ∧ (∀ q, 0 ≤ q → bit I q = true → bit e q = true) ∧ pop e ≤ pop I + d ∧ lks (farF ws m) e m 6 I0 = (lks (farF ws m) e m d I).map (fun L => Lp ++ L) ∧ (Lp.length : Int) + pop I0 = pop I ∧ wr.cell? ⟨w.heap.size, 0, none⟩ = some (.int .i64 m) ∧ wr.cell? ⟨w.heap.size, 1, none⟩ = some (.slice A ws.length cap) ∧ Below w.heap.size w wr ∧ w1.heap.size ≤ wr.heap.size ∧ TabM wr lo hi T m R C (farF ws m) ∧ hi ≤ w1.heap.size ∧ RowsP wr w1.heap.size 2 Lp.length v P Q (lkF Lp)) (fun _ i _ => (10 - pop (intOf i)).toNat)
  case atStart =>
    refine ⟨[], I0, 6, fun _ => 0, fun _ => 0, rfl, hst0, hst1, hst2, hst3, ?_, by simp, (World.cell?_alloc_lt _ _ _ hz1).trans k1.1, (World.cell?_alloc_lt _ _ _ hz1).trans k1.2, HB1.out.alloc (Nat.le_of_lt hz1) _, by simp, HT1.out.below ((Below.refl _ _).alloc (Nat.le_refl _) _), HT1.out.his, ?_, fun i j h => by simp at h, fun i h => by simp at h, fun i j h => by simp at h, fun i h => by simp at h⟩
    · cases lks (farF ws m) e m 6 I0 with
      | none => rfl
      | some L => simp
    · exact World.ownsRow_made (base := w1.heap.size) (e := 34) (size := 1) w1 #[] 0 (by simp) (by unfold maxLen; omega) rfl
  case round =>
    clear k1 HT1
    obtain ⟨Lp, I, d, P, Q, rfl, i0, i1, hsub, hd, hlk, hlen, b0, b1, hb, hz, htab, hhi, hrows⟩ := hrel
    obtain ⟨A1, c1, rfl⟩ := ownForm hrows.own
    have HB0 := Lib.hid hb
    have HTB := Lib.hid htab
    have HRP := Lib.hid hrows
    have HLK := Lib.hid hlk
    have HSUB := Lib.hid hsub
    have HI1 := Lib.hid i1
    have i64 : I < 64 := by
      have hp := pow_bd (m : Int) 6 (by omega)
      rw [Int.toNat_natCast] at hp
      omega
    have hpI := pop_bd I
    have hlo' : w.heap.size < wr.heap.size := by omega
    clear hb htab hrows hlk hsub i1
    by_cases hIe : I = e
    · subst hIe
      have hfin : lks (farF ws m) I m 6 I0 = some Lp := by rw [HLK.out, lks_end]; simp
      have HFIN := Lib.hid hfin
      clear hfin
      go_wp2_with fail
      refine bodyPost_ret (v := .tuple #[.slice A1 Lp.length c1, .bool true]) (by simp [results, Tryd.results36, go_sem]) rfl ?_
      rw [HFIN.out]
      by_cases hL : Lp = []
      · exact ⟨A1, c1, rfl, .inl hL, HB0.out⟩
      · obtain ⟨T', cT', hv, htab'⟩ := HRP.out.tabR (List.length_pos_iff.2 hL)
        injection hv with hA1 _ hcT
        exact ⟨A1, c1, rfl, .inr ⟨T', P, Q, w1.heap.size, wr.heap.size, hA1, htab', by omega⟩, HB0.out⟩
    · obtain ⟨wo, hwo⟩ : ∃ wo : World, wo = wr := ⟨_, rfl⟩
      subst hwo
      have hne : (I != e) = true := by simpa using hIe
      have hJ : bits .andNot .i64 e I = idiff e I := bits_andNot _ _ e0 (by omega) i0 (by omega)
      have hJ0 := idiff_bd e I e0
      have hJb : ∀ q, bit (idiff e I) q = (bit e q && !bit I q) := fun q => bit_idiff e I q
      obtain ⟨J, hJJ⟩ : ∃ J, idiff e I = J := ⟨_, rfl⟩
      rw [hJJ] at hJ hJ0 hJb
      have HJb := Lib.hid hJb
      have HJ := Lib.hid hJ
      have j0 := hJ0.1
      clear hJb hJJ hJ hJ0
      have hbs1 := noInts
      go_wp2_with fail
      clear hbs1
      go_loopw [9, 10] (fun v i wr => ∃ a : Nat, a ≤ m ∧ i = .int .i64 a ∧ BestV wr wo.heap.size v (bstA (farF ws m) I e m a) ∧ Below wo.heap.size wo wr) (fun _ i _ => m - (intOf i).toNat)
      case atStart => exact ⟨0, Nat.zero_le _, rfl, ⟨_, _, rfl⟩, by go_grown⟩
      case round =>
        obtain ⟨a, ha, rfl, hbest, hbw⟩ := hrel
        have HBW := Lib.hid hbw
        have HBV := Lib.hid hbest
        have d0 : wr.cell? ⟨w.heap.size, 0, none⟩ = some (.int .i64 m) := (hbw.cell (p := ⟨w.heap.size, 0, none⟩) hlo').trans b0
        have d1 : wr.cell? ⟨w.heap.size, 1, none⟩ = some (.slice A ws.length cap) := (hbw.cell (p := ⟨w.heap.size, 1, none⟩) hlo').trans b1
        have a0 : (0 : Int) ≤ (a : Int) := by omega
        have hsz := hbw.size
        clear hbw hbest
        by_cases hla : a < m
        · have a1 : (a : Int) < (m : Int) := by omega
          go_wp2_with fail
          go_loopw [9, 11] (fun v j wr => ∃ b : Nat, b ≤ m ∧ j = .int .i64 b ∧ BestV wr wo.heap.size v (bstR (farF ws m) I e a (bstA (farF ws m) I e m a) b) ∧ Below wo.heap.size wo wr) (fun _ j _ => m - (intOf j).toNat)
          case atStart => exact ⟨0, Nat.zero_le _, rfl, HBV.out, HBW.out⟩
          case round =>
            clear HBV HBW d0 d1 hsz
            obtain ⟨b, hbm, rfl, hbest, hbw⟩ := hrel
            have HBW := Lib.hid hbw
            have HBV := Lib.hid hbest
            have d0 : wr.cell? ⟨w.heap.size, 0, none⟩ = some (.int .i64 m) := (hbw.cell (p := ⟨w.heap.size, 0, none⟩) hlo').trans b0
            have d1 : wr.cell? ⟨w.heap.size, 1, none⟩ = some (.slice A ws.length cap) := (hbw.cell (p := ⟨w.heap.size, 1, none⟩) hlo').trans b1
            have hsz := hbw.size
            have HTR := Lib.hid (HTB.out.below hbw)
            have c0 : (0 : Int) ≤ (b : Int) := by omega
            clear hbw hbest
            by_cases hlb : b < m
            · have c1' : (b : Int) < (m : Int) := by omega
              have ha5 : a ≤ 5 := by omega
              have hb5 : b ≤ 5 := by omega
              have ha9 : (a : Int) < 9 := by omega
              have hb9 : (b : Int) < 9 := by omega
              have hq0 : 0 ≤ I / 2 ^ a := (div_pow_bd I a i0).1
              have hq1 : 0 ≤ J / 2 ^ b := (div_pow_bd J b j0).1
              cases hIa : bit I (a : Int)
              · have hz1 := bit_zero (i := (a : Int)) a0 i0 hIa
                rw [Int.toNat_natCast] at hz1
                have x1 : (I / 2 ^ a % 2 == 0) = true := by rw [hz1.1]; rfl
                have x2 : ((I / 2 ^ a).tmod 2 == 0) = true := by rw [hz1.2]; rfl
                have HY := Lib.hid (bstR_no (f := farF ws m) (I := I) (e := e) (a := a) (b := b) (o := bstA (farF ws m) I e m a) (by unfold okP; rw [hIa]; rfl))
                clear hz1 hIa
                go_wp2_with fail
                go_roundw
                case rel => exact ⟨b + 1, by omega, by go_num, by rw [HY.out]; exact HBV.out, HBW.out⟩
                case measure => (simp [intOf]) <;> omega
              · have hz1 := bit_one (i := (a : Int)) a0 i0 hIa
                rw [Int.toNat_natCast] at hz1
                have x1 : (I / 2 ^ a % 2 == 0) = false := by rw [hz1.1]; rfl
                have x2 : ((I / 2 ^ a).tmod 2 == 0) = false := by rw [hz1.2]; rfl
                have hj := HJ.out
                clear hz1
                cases hJb : bit J (b : Int)
                · have hz2 := bit_zero (i := (b : Int)) c0 j0 hJb
                  rw [Int.toNat_natCast] at hz2
                  have x3 : (J / 2 ^ b % 2 == 0) = true := by rw [hz2.1]; rfl
                  have x4 : ((J / 2 ^ b).tmod 2 == 0) = true := by rw [hz2.2]; rfl
                  have HY := Lib.hid (bstR_no (f := farF ws m) (I := I) (e := e) (a := a) (b := b) (o := bstA (farF ws m) I e m a) (by unfold okP; rw [← HJb.out, hJb, Bool.and_false]; rfl))
                  clear hz2 hJb hIa
                  go_wp2_with fail
                  go_roundw
                  case rel => exact ⟨b + 1, by omega, by go_num, by rw [HY.out]; exact HBV.out, HBW.out⟩
                  case measure => (simp [intOf]) <;> omega
                · have hz2 := bit_one (i := (b : Int)) c0 j0 hJb
                  rw [Int.toNat_natCast] at hz2
                  have x3 : (J / 2 ^ b % 2 == 0) = false := by rw [hz2.1]; rfl
                  have x4 : ((J / 2 ^ b).tmod 2 == 0) = false := by rw [hz2.2]; rfl
                  have tp := HTR.out.top a hla
                  have rw_ := (HTR.out.row a b hla hlb).1
                  have hbo : bit e (b : Int) = true ∧ bit I (b : Int) = false := by
                    have h9 := HJb.out b
                    rw [hJb] at h9
                    cases h1 : bit e (b : Int) <;> cases h2 : bit I (b : Int) <;> rw [h1, h2] at h9 <;> first | exact ⟨rfl, rfl⟩ | cases h9
                  have hfb := HFN.out a b hla hlb
                  obtain ⟨D, hD⟩ : ∃ D, farF ws m a b = D := ⟨_, rfl⟩
                  rw [hD] at rw_ hfb
                  have HD := Lib.hid hD
                  clear hz2 hJb hD
                  by_cases hD0 : D < 0
                  · have HY := Lib.hid (bstR_no (f := farF ws m) (I := I) (e := e) (a := a) (b := b) (o := bstA (farF ws m) I e m a) (by unfold okP; rw [show decide (0 ≤ farF ws m a b) = false from by rw [HD.out]; simpa using hD0, Bool.and_false]))
                    clear hbo hIa
                    go_wp2_with fail
                    go_roundw
                    case rel => exact ⟨b + 1, by omega, by go_num, by rw [HY.out]; exact HBV.out, HBW.out⟩
                    case measure => (simp [intOf]) <;> omega
                  · have HOK := Lib.hid (okP_mk (f := farF ws m) (I := I) (e := e) hIa hbo.1 hbo.2 (by rw [HD.out]; omega))
                    clear hbo hIa
                    cases ho : bstR (farF ws m) I e a (bstA (farF ws m) I e m a) b with
                    | none =>
                      have hbv := HBV.out
                      rw [ho] at hbv
                      obtain ⟨Ab, cb, rfl⟩ := hbv
                      have HY := Lib.hid (bstR_yes (f := farF ws m) (I := I) (e := e) (a := a) (b := b) (o := bstA (farF ws m) I e m a) HOK.out (by rw [ho]; rfl))
                      clear ho
                      go_wp2_with fail
                      refine wp_region_held_drew (S := (fun w' => w'.cell? ⟨w.heap.size, 0, none⟩ = some (.int .i64 m))) (by kernel_rfl) ?_ (fun hHeld => ?_)
                      · exact d0
                      refine wpAnyH_take (i := 0) (v := ?_) rfl (by kernel_rfl) (by kernel_rfl) (by kernel_rfl) (fun _ _ _ h => h) (Or.inl ⟨by rfl, ?_⟩) (by assumption) ?_
                      rotate_left
                      · (intro w hSw; (try dsimp only at hSw); (try simp only [List.getElem_toArray, List.getElem_cons_succ, List.getElem_cons_zero]); first | (go_simp; done) | (go_simp; with_reducible rfl))
                      try simp only [Act.put, List.getElem_toArray, List.getElem_cons_succ, List.getElem_cons_zero, List.setIfInBounds_toArray, List.set_cons_zero, List.set_cons_succ]
                      refine wpAnyH_take (i := 1) (v := ?_) rfl (by kernel_rfl) (by kernel_rfl) (by kernel_rfl) (fun _ _ _ h => h) (Or.inl ⟨by rfl, ?_⟩) (by assumption) ?_
                      rotate_left
                      · (intro w hSw; (try dsimp only at hSw); (try simp only [List.getElem_toArray, List.getElem_cons_succ, List.getElem_cons_zero]); first | (go_simp; done) | (go_simp; with_reducible rfl))
                      try simp only [Act.put, List.getElem_toArray, List.getElem_cons_succ, List.getElem_cons_zero, List.setIfInBounds_toArray, List.set_cons_zero, List.set_cons_succ]
                      refine wpAnyH_take (i := 2) (v := ?_) rfl (by kernel_rfl) (by kernel_rfl) (by kernel_rfl) (fun _ _ _ h => h) (Or.inl ⟨by rfl, ?_⟩) (by assumption) ?_
                      rotate_left
                      · (intro w hSw; (try dsimp only at hSw); (try simp only [List.getElem_toArray, List.getElem_cons_succ, List.getElem_cons_zero]); first | (go_simp; done) | (go_simp; with_reducible rfl))
                      try simp only [Act.put, List.getElem_toArray, List.getElem_cons_succ, List.getElem_cons_zero, List.setIfInBounds_toArray, List.set_cons_zero, List.set_cons_succ]
                      refine wpAnyH_take (i := 3) (v := ?_) rfl (by kernel_rfl) (by kernel_rfl) (by kernel_rfl) (fun _ _ _ h => h) (Or.inl ⟨by rfl, ?_⟩) (by assumption) ?_
                      rotate_left
                      · (intro w hSw; (try dsimp only at hSw); (try simp only [List.getElem_toArray, List.getElem_cons_succ, List.getElem_cons_zero]); first | (go_simp; done) | (go_simp; with_reducible rfl))
                      try simp only [Act.put, List.getElem_toArray, List.getElem_cons_succ, List.getElem_cons_zero, List.setIfInBounds_toArray, List.set_cons_zero, List.set_cons_succ]
                      refine wpAnyH_take (i := 4) (v := undef) rfl (by kernel_rfl) (by kernel_rfl) (by kernel_rfl) (fun _ _ _ h => h) (Or.inr ⟨by rfl, rfl⟩) (by assumption) ?_
                      try simp only [Act.put, List.getElem_toArray, List.getElem_cons_succ, List.getElem_cons_zero, List.setIfInBounds_toArray, List.set_cons_zero, List.set_cons_succ]
                      refine wpAnyH_take (i := 5) (v := undef) rfl (by kernel_rfl) (by kernel_rfl) (by kernel_rfl) (fun _ _ _ h => h) (Or.inr ⟨by rfl, rfl⟩) (by assumption) ?_
                      try simp only [Act.put, List.getElem_toArray, List.getElem_cons_succ, List.getElem_cons_zero, List.setIfInBounds_toArray, List.set_cons_zero, List.set_cons_succ]
                      refine wpAnyH_take (i := 6) (v := undef) rfl (by kernel_rfl) (by kernel_rfl) (by kernel_rfl) (fun _ _ _ h => h) (Or.inr ⟨by rfl, rfl⟩) (by assumption) ?_
                      try simp only [Act.put, List.getElem_toArray, List.getElem_cons_succ, List.getElem_cons_zero, List.setIfInBounds_toArray, List.set_cons_zero, List.set_cons_succ]
                      refine wpAnyH_take (i := 7) (v := undef) rfl (by kernel_rfl) (by kernel_rfl) (by kernel_rfl) (fun _ _ _ h => h) (Or.inr ⟨by rfl, rfl⟩) (by assumption) ?_
                      try simp only [Act.put, List.getElem_toArray, List.getElem_cons_succ, List.getElem_cons_zero, List.setIfInBounds_toArray, List.set_cons_zero, List.set_cons_succ]
                      refine wpAnyH_take (i := 8) (v := undef) rfl (by kernel_rfl) (by kernel_rfl) (by kernel_rfl) (fun _ _ _ h => h) (Or.inr ⟨by rfl, rfl⟩) (by assumption) ?_
                      try simp only [Act.put, List.getElem_toArray, List.getElem_cons_succ, List.getElem_cons_zero, List.setIfInBounds_toArray, List.set_cons_zero, List.set_cons_succ]
                      refine wpAnyH_take (i := 9) (v := undef) rfl (by kernel_rfl) (by kernel_rfl) (by kernel_rfl) (fun _ _ _ h => h) (Or.inr ⟨by rfl, rfl⟩) (by assumption) ?_
                      try simp only [Act.put, List.getElem_toArray, List.getElem_cons_succ, List.getElem_cons_zero, List.setIfInBounds_toArray, List.set_cons_zero, List.set_cons_succ]
                      refine wpAnyH_take (i := 10) (v := undef) rfl (by kernel_rfl) (by kernel_rfl) (by kernel_rfl) (fun _ _ _ h => h) (Or.inr ⟨by rfl, rfl⟩) (by assumption) ?_
                      try simp only [Act.put, List.getElem_toArray, List.getElem_cons_succ, List.getElem_cons_zero, List.setIfInBounds_toArray, List.set_cons_zero, List.set_cons_succ]
                      refine wpAnyH_take (i := 11) (v := undef) rfl (by kernel_rfl) (by kernel_rfl) (by kernel_rfl) (fun _ _ _ h => h) (Or.inr ⟨by rfl, rfl⟩) (by assumption) ?_
                      try simp only [Act.put, List.getElem_toArray, List.getElem_cons_succ, List.getElem_cons_zero, List.setIfInBounds_toArray, List.set_cons_zero, List.set_cons_succ]
                      refine wpAnyH_take (i := 12) (v := undef) rfl (by kernel_rfl) (by kernel_rfl) (by kernel_rfl) (fun _ _ _ h => h) (Or.inr ⟨by rfl, rfl⟩) (by assumption) ?_
                      try simp only [Act.put, List.getElem_toArray, List.getElem_cons_succ, List.getElem_cons_zero, List.setIfInBounds_toArray, List.set_cons_zero, List.set_cons_succ]
                      refine wpAnyH_take (i := 13) (v := undef) rfl (by kernel_rfl) (by kernel_rfl) (by kernel_rfl) (fun _ _ _ h => h) (Or.inr ⟨by rfl, rfl⟩) (by assumption) ?_
                      try simp only [Act.put, List.getElem_toArray, List.getElem_cons_succ, List.getElem_cons_zero, List.setIfInBounds_toArray, List.set_cons_zero, List.set_cons_succ]
                      refine wpAnyH_take (i := 14) (v := undef) rfl (by kernel_rfl) (by kernel_rfl) (by kernel_rfl) (fun _ _ _ h => h) (Or.inr ⟨by rfl, rfl⟩) (by assumption) ?_
                      try simp only [Act.put, List.getElem_toArray, List.getElem_cons_succ, List.getElem_cons_zero, List.setIfInBounds_toArray, List.set_cons_zero, List.set_cons_succ]
                      refine wpAnyH_take (i := 15) (v := undef) rfl (by kernel_rfl) (by kernel_rfl) (by kernel_rfl) (fun _ _ _ h => h) (Or.inr ⟨by rfl, rfl⟩) (by assumption) ?_
                      try simp only [Act.put, List.getElem_toArray, List.getElem_cons_succ, List.getElem_cons_zero, List.setIfInBounds_toArray, List.set_cons_zero, List.set_cons_succ]
                      refine wpAnyH_take (i := 16) (v := undef) rfl (by kernel_rfl) (by kernel_rfl) (by kernel_rfl) (fun _ _ _ h => h) (Or.inr ⟨by rfl, rfl⟩) (by assumption) ?_
                      try simp only [Act.put, List.getElem_toArray, List.getElem_cons_succ, List.getElem_cons_zero, List.setIfInBounds_toArray, List.set_cons_zero, List.set_cons_succ]
                      refine wpAnyH_take (i := 17) (v := undef) rfl (by kernel_rfl) (by kernel_rfl) (by kernel_rfl) (fun _ _ _ h => h) (Or.inr ⟨by rfl, rfl⟩) (by assumption) ?_
                      try simp only [Act.put, List.getElem_toArray, List.getElem_cons_succ, List.getElem_cons_zero, List.setIfInBounds_toArray, List.set_cons_zero, List.set_cons_succ]
                      refine wpAnyH_take (i := 18) (v := undef) rfl (by kernel_rfl) (by kernel_rfl) (by kernel_rfl) (fun _ _ _ h => h) (Or.inr ⟨by rfl, rfl⟩) (by assumption) ?_
                      try simp only [Act.put, List.getElem_toArray, List.getElem_cons_succ, List.getElem_cons_zero, List.setIfInBounds_toArray, List.set_cons_zero, List.set_cons_succ]
                      refine wpAnyH_take (i := 19) (v := undef) rfl (by kernel_rfl) (by kernel_rfl) (by kernel_rfl) (fun _ _ _ h => h) (Or.inr ⟨by rfl, rfl⟩) (by assumption) ?_
                      try simp only [Act.put, List.getElem_toArray, List.getElem_cons_succ, List.getElem_cons_zero, List.setIfInBounds_toArray, List.set_cons_zero, List.set_cons_succ]
                      refine wpAnyH_take (i := 20) (v := undef) rfl (by kernel_rfl) (by kernel_rfl) (by kernel_rfl) (fun _ _ _ h => h) (Or.inr ⟨by rfl, rfl⟩) (by assumption) ?_
                      try simp only [Act.put, List.getElem_toArray, List.getElem_cons_succ, List.getElem_cons_zero, List.setIfInBounds_toArray, List.set_cons_zero, List.set_cons_succ]
                      refine wpAnyH_take (i := 21) (v := undef) rfl (by kernel_rfl) (by kernel_rfl) (by kernel_rfl) (fun _ _ _ h => h) (Or.inr ⟨by rfl, rfl⟩) (by assumption) ?_
                      try simp only [Act.put, List.getElem_toArray, List.getElem_cons_succ, List.getElem_cons_zero, List.setIfInBounds_toArray, List.set_cons_zero, List.set_cons_succ]
                      refine wpAnyH_take (i := 22) (v := undef) rfl (by kernel_rfl) (by kernel_rfl) (by kernel_rfl) (fun _ _ _ h => h) (Or.inr ⟨by rfl, rfl⟩) (by assumption) ?_
                      try simp only [Act.put, List.getElem_toArray, List.getElem_cons_succ, List.getElem_cons_zero, List.setIfInBounds_toArray, List.set_cons_zero, List.set_cons_succ]
                      refine wpAnyH_take (i := 23) (v := ?_) rfl (by kernel_rfl) (by kernel_rfl) (by kernel_rfl) (fun _ _ _ h => h) (Or.inl ⟨by rfl, ?_⟩) (by assumption) ?_
                      rotate_left
                      · (intro w hSw; (try dsimp only at hSw); (try simp only [List.getElem_toArray, List.getElem_cons_succ, List.getElem_cons_zero]); first | (go_simp; done) | (go_simp; with_reducible rfl))
                      try simp only [Act.put, List.getElem_toArray, List.getElem_cons_succ, List.getElem_cons_zero, List.setIfInBounds_toArray, List.set_cons_zero, List.set_cons_succ]
                      refine wpAnyH_done (by kernel_rfl) ?_ _
                      go_wp2_with fail
                      go_roundw
                      case rel =>
                        refine ⟨b + 1, by omega, by go_num, ?_, ?_⟩
                        · rw [HY.out]
                          exact ⟨wr.heap.size, by first | rfl | simp, own_two _ _ (by first | exact hsz | simpa using hsz) _ _⟩
                        · have h9 := HBW.out.alloc hsz (.cells #[.int .i64 a, .int .i64 b] 3)
                          exact ⟨h9.os, h9.tape, h9.output, h9.size, h9.block⟩
                      case measure => (simp [intOf]) <;> omega
                    | some p =>
                      obtain ⟨x, y⟩ := p
                      have hbv := HBV.out
                      rw [ho] at hbv
                      obtain ⟨g, rfl, hown⟩ := hbv
                      have hxy := bstR_lt (f := farF ws m) hla (Nat.le_of_lt hlb) ho
                      have g0 : wr.cell? ⟨g, 0, none⟩ = some (.int .i64 x) := by have h9 := hown.cellAt 0 (by omega); simpa using h9
                      have g1 : wr.cell? ⟨g, 1, none⟩ = some (.int .i64 y) := by have h9 := hown.cellAt 1 (by omega); simpa using h9
                      have tx := HTR.out.top x hxy.1
                      have rx := (HTR.out.row x y hxy.1 hxy.2.1).1
                      obtain ⟨E, hE⟩ : ∃ E, farF ws m x y = E := ⟨_, rfl⟩
                      have HE := Lib.hid hE
                      rw [hE] at rx
                      have x0 : (0 : Int) ≤ (x : Int) := by omega
                      have y0 : (0 : Int) ≤ (y : Int) := by omega
                      have xm : (x : Int) < (m : Int) := by omega
                      have ym : (y : Int) < (m : Int) := by omega
                      clear hE hxy hown
                      by_cases hDE : D < E
                      · have hd1 : decide (D < E) = true := by simpa using hDE
                        have HY := Lib.hid (bstR_yes (f := farF ws m) (I := I) (e := e) (a := a) (b := b) (o := bstA (farF ws m) I e m a) HOK.out (by rw [ho]; unfold bet; simp only; rw [HD.out, HE.out]; exact hd1))
                        clear ho
                        go_wp2_with fail
                        refine wp_region_held_drew (S := (fun w' => w'.cell? ⟨T, a, none⟩ = some (.slice (some ⟨R a, 0, none⟩) m (C a)) ∧ w'.cell? ⟨R a, b, none⟩ = some (.int .i64 D) ∧ w'.cell? ⟨T, x, none⟩ = some (.slice (some ⟨R x, 0, none⟩) m (C x)) ∧ w'.cell? ⟨R x, y, none⟩ = some (.int .i64 E) ∧ w'.cell? ⟨g, 0, none⟩ = some (.int .i64 x) ∧ w'.cell? ⟨g, 1, none⟩ = some (.int .i64 y))) (by kernel_rfl) ?_ (fun hHeld => ?_)
                        · exact ⟨tp, rw_, tx, rx, g0, g1⟩
                        refine wpAnyH_take (i := 0) (v := ?_) rfl (by kernel_rfl) (by kernel_rfl) (by kernel_rfl) (fun _ _ _ h => h) (Or.inl ⟨by rfl, ?_⟩) (by assumption) ?_
                        rotate_left
                        · (intro w hSw; (try dsimp only at hSw); (try simp only [List.getElem_toArray, List.getElem_cons_succ, List.getElem_cons_zero]); first | (go_simp; done) | (go_simp; with_reducible rfl))
                        try simp only [Act.put, List.getElem_toArray, List.getElem_cons_succ, List.getElem_cons_zero, List.setIfInBounds_toArray, List.set_cons_zero, List.set_cons_succ]
                        refine wpAnyH_take (i := 1) (v := ?_) rfl (by kernel_rfl) (by kernel_rfl) (by kernel_rfl) (fun _ _ _ h => h) (Or.inl ⟨by rfl, ?_⟩) (by assumption) ?_
                        rotate_left
                        · (intro w hSw; (try dsimp only at hSw); (try simp only [List.getElem_toArray, List.getElem_cons_succ, List.getElem_cons_zero]); first | (go_simp; done) | (go_simp; with_reducible rfl))
                        try simp only [Act.put, List.getElem_toArray, List.getElem_cons_succ, List.getElem_cons_zero, List.setIfInBounds_toArray, List.set_cons_zero, List.set_cons_succ]
                        refine wpAnyH_take (i := 2) (v := ?_) rfl (by kernel_rfl) (by kernel_rfl) (by kernel_rfl) (fun _ _ _ h => h) (Or.inl ⟨by rfl, ?_⟩) (by assumption) ?_
                        rotate_left
                        · (intro w hSw; (try dsimp only at hSw); (try simp only [List.getElem_toArray, List.getElem_cons_succ, List.getElem_cons_zero]); first | (go_simp; done) | (go_simp; with_reducible rfl))
                        try simp only [Act.put, List.getElem_toArray, List.getElem_cons_succ, List.getElem_cons_zero, List.setIfInBounds_toArray, List.set_cons_zero, List.set_cons_succ]
                        refine wpAnyH_take (i := 3) (v := ?_) rfl (by kernel_rfl) (by kernel_rfl) (by kernel_rfl) (fun _ _ _ h => h) (Or.inl ⟨by rfl, ?_⟩) (by assumption) ?_
                        rotate_left
                        · (intro w hSw; (try dsimp only at hSw); (try simp only [List.getElem_toArray, List.getElem_cons_succ, List.getElem_cons_zero]); first | (go_simp; done) | (go_simp; with_reducible rfl))
                        try simp only [Act.put, List.getElem_toArray, List.getElem_cons_succ, List.getElem_cons_zero, List.setIfInBounds_toArray, List.set_cons_zero, List.set_cons_succ]
                        refine wpAnyH_take (i := 4) (v := ?_) rfl (by kernel_rfl) (by kernel_rfl) (by kernel_rfl) (fun _ _ _ h => h) (Or.inl ⟨by rfl, ?_⟩) (by assumption) ?_
                        rotate_left
                        · (intro w hSw; (try dsimp only at hSw); (try simp only [List.getElem_toArray, List.getElem_cons_succ, List.getElem_cons_zero]); first | (go_simp; done) | (go_simp; with_reducible rfl))
                        try simp only [Act.put, List.getElem_toArray, List.getElem_cons_succ, List.getElem_cons_zero, List.setIfInBounds_toArray, List.set_cons_zero, List.set_cons_succ]
                        refine wpAnyH_take (i := 5) (v := ?_) rfl (by kernel_rfl) (by kernel_rfl) (by kernel_rfl) (fun _ _ _ h => h) (Or.inl ⟨by rfl, ?_⟩) (by assumption) ?_
                        rotate_left
                        · (intro w hSw; (try dsimp only at hSw); (try simp only [List.getElem_toArray, List.getElem_cons_succ, List.getElem_cons_zero]); first | (go_simp; done) | (go_simp; with_reducible rfl))
                        try simp only [Act.put, List.getElem_toArray, List.getElem_cons_succ, List.getElem_cons_zero, List.setIfInBounds_toArray, List.set_cons_zero, List.set_cons_succ]
                        refine wpAnyH_take (i := 6) (v := ?_) rfl (by kernel_rfl) (by kernel_rfl) (by kernel_rfl) (fun _ _ _ h => h) (Or.inl ⟨by rfl, ?_⟩) (by assumption) ?_
                        rotate_left
                        · (intro w hSw; (try dsimp only at hSw); (try simp only [List.getElem_toArray, List.getElem_cons_succ, List.getElem_cons_zero]); first | (go_simp; done) | (go_simp; with_reducible rfl))
                        try simp only [Act.put, List.getElem_toArray, List.getElem_cons_succ, List.getElem_cons_zero, List.setIfInBounds_toArray, List.set_cons_zero, List.set_cons_succ]
                        refine wpAnyH_take (i := 7) (v := ?_) rfl (by kernel_rfl) (by kernel_rfl) (by kernel_rfl) (fun _ _ _ h => h) (Or.inl ⟨by rfl, ?_⟩) (by assumption) ?_
                        rotate_left
                        · (intro w hSw; (try dsimp only at hSw); (try simp only [List.getElem_toArray, List.getElem_cons_succ, List.getElem_cons_zero]); first | (go_simp; done) | (go_simp; with_reducible rfl))
                        try simp only [Act.put, List.getElem_toArray, List.getElem_cons_succ, List.getElem_cons_zero, List.setIfInBounds_toArray, List.set_cons_zero, List.set_cons_succ]
                        refine wpAnyH_take (i := 8) (v := ?_) rfl (by kernel_rfl) (by kernel_rfl) (by kernel_rfl) (fun _ _ _ h => h) (Or.inl ⟨by rfl, ?_⟩) (by assumption) ?_
                        rotate_left
                        · (intro w hSw; (try dsimp only at hSw); (try simp only [List.getElem_toArray, List.getElem_cons_succ, List.getElem_cons_zero]); first | (go_simp; done) | (go_simp; with_reducible rfl))
                        try simp only [Act.put, List.getElem_toArray, List.getElem_cons_succ, List.getElem_cons_zero, List.setIfInBounds_toArray, List.set_cons_zero, List.set_cons_succ]
                        refine wpAnyH_take (i := 9) (v := ?_) rfl (by kernel_rfl) (by kernel_rfl) (by kernel_rfl) (fun _ _ _ h => h) (Or.inl ⟨by rfl, ?_⟩) (by assumption) ?_
                        rotate_left
                        · (intro w hSw; (try dsimp only at hSw); (try simp only [List.getElem_toArray, List.getElem_cons_succ, List.getElem_cons_zero]); first | (go_simp; done) | (go_simp; with_reducible rfl))
                        try simp only [Act.put, List.getElem_toArray, List.getElem_cons_succ, List.getElem_cons_zero, List.setIfInBounds_toArray, List.set_cons_zero, List.set_cons_succ]
                        refine wpAnyH_take (i := 10) (v := ?_) rfl (by kernel_rfl) (by kernel_rfl) (by kernel_rfl) (fun _ _ _ h => h) (Or.inl ⟨by rfl, ?_⟩) (by assumption) ?_
                        rotate_left
                        · (intro w hSw; (try dsimp only at hSw); (try simp only [List.getElem_toArray, List.getElem_cons_succ, List.getElem_cons_zero]); first | (go_simp; done) | (go_simp; with_reducible rfl))
                        try simp only [Act.put, List.getElem_toArray, List.getElem_cons_succ, List.getElem_cons_zero, List.setIfInBounds_toArray, List.set_cons_zero, List.set_cons_succ]
                        refine wpAnyH_take (i := 11) (v := ?_) rfl (by kernel_rfl) (by kernel_rfl) (by kernel_rfl) (fun _ _ _ h => h) (Or.inl ⟨by rfl, ?_⟩) (by assumption) ?_
                        rotate_left
                        · (intro w hSw; (try dsimp only at hSw); (try simp only [List.getElem_toArray, List.getElem_cons_succ, List.getElem_cons_zero]); first | (go_simp; done) | (go_simp; with_reducible rfl))
                        try simp only [Act.put, List.getElem_toArray, List.getElem_cons_succ, List.getElem_cons_zero, List.setIfInBounds_toArray, List.set_cons_zero, List.set_cons_succ]
                        refine wpAnyH_take (i := 12) (v := ?_) rfl (by kernel_rfl) (by kernel_rfl) (by kernel_rfl) (fun _ _ _ h => h) (Or.inl ⟨by rfl, ?_⟩) (by assumption) ?_
                        rotate_left
                        · (intro w hSw; (try dsimp only at hSw); (try simp only [List.getElem_toArray, List.getElem_cons_succ, List.getElem_cons_zero]); first | (go_simp; done) | (go_simp; with_reducible rfl))
                        try simp only [Act.put, List.getElem_toArray, List.getElem_cons_succ, List.getElem_cons_zero, List.setIfInBounds_toArray, List.set_cons_zero, List.set_cons_succ]
                        refine wpAnyH_take (i := 13) (v := ?_) rfl (by kernel_rfl) (by kernel_rfl) (by kernel_rfl) (fun _ _ _ h => h) (Or.inl ⟨by rfl, ?_⟩) (by assumption) ?_
                        rotate_left
                        · (intro w hSw; (try dsimp only at hSw); (try simp only [List.getElem_toArray, List.getElem_cons_succ, List.getElem_cons_zero]); first | (go_simp; done) | (go_simp; with_reducible rfl))
                        try simp only [Act.put, List.getElem_toArray, List.getElem_cons_succ, List.getElem_cons_zero, List.setIfInBounds_toArray, List.set_cons_zero, List.set_cons_succ]
                        refine wpAnyH_take (i := 14) (v := ?_) rfl (by kernel_rfl) (by kernel_rfl) (by kernel_rfl) (fun _ _ _ h => h) (Or.inl ⟨by rfl, ?_⟩) (by assumption) ?_
                        rotate_left
                        · (intro w hSw; (try dsimp only at hSw); (try simp only [List.getElem_toArray, List.getElem_cons_succ, List.getElem_cons_zero]); first | (go_simp; done) | (go_simp; with_reducible rfl))
                        try simp only [Act.put, List.getElem_toArray, List.getElem_cons_succ, List.getElem_cons_zero, List.setIfInBounds_toArray, List.set_cons_zero, List.set_cons_succ]
                        refine wpAnyH_take (i := 15) (v := ?_) rfl (by kernel_rfl) (by kernel_rfl) (by kernel_rfl) (fun _ _ _ h => h) (Or.inl ⟨by rfl, ?_⟩) (by assumption) ?_
                        rotate_left
                        · (intro w hSw; (try dsimp only at hSw); (try simp only [List.getElem_toArray, List.getElem_cons_succ, List.getElem_cons_zero]); first | (go_simp; done) | (go_simp; with_reducible rfl))
                        try simp only [Act.put, List.getElem_toArray, List.getElem_cons_succ, List.getElem_cons_zero, List.setIfInBounds_toArray, List.set_cons_zero, List.set_cons_succ]
                        refine wpAnyH_take (i := 16) (v := ?_) rfl (by kernel_rfl) (by kernel_rfl) (by kernel_rfl) (fun _ _ _ h => h) (Or.inl ⟨by rfl, ?_⟩) (by assumption) ?_
                        rotate_left
                        · (intro w hSw; (try dsimp only at hSw); (try simp only [List.getElem_toArray, List.getElem_cons_succ, List.getElem_cons_zero]); first | (go_simp; done) | (go_simp; with_reducible rfl))
                        try simp only [Act.put, List.getElem_toArray, List.getElem_cons_succ, List.getElem_cons_zero, List.setIfInBounds_toArray, List.set_cons_zero, List.set_cons_succ]
                        refine wpAnyH_take (i := 17) (v := ?_) rfl (by kernel_rfl) (by kernel_rfl) (by kernel_rfl) (fun _ _ _ h => h) (Or.inl ⟨by rfl, ?_⟩) (by assumption) ?_
                        rotate_left
                        · (intro w hSw; (try dsimp only at hSw); (try simp only [List.getElem_toArray, List.getElem_cons_succ, List.getElem_cons_zero]); first | (go_simp; done) | (go_simp; with_reducible rfl))
                        try simp only [Act.put, List.getElem_toArray, List.getElem_cons_succ, List.getElem_cons_zero, List.setIfInBounds_toArray, List.set_cons_zero, List.set_cons_succ]
                        refine wpAnyH_take (i := 18) (v := ?_) rfl (by kernel_rfl) (by kernel_rfl) (by kernel_rfl) (fun _ _ _ h => h) (Or.inl ⟨by rfl, ?_⟩) (by assumption) ?_
                        rotate_left
                        · (intro w hSw; (try dsimp only at hSw); (try simp only [List.getElem_toArray, List.getElem_cons_succ, List.getElem_cons_zero]); first | (go_simp; done) | (go_simp; with_reducible rfl))
                        try simp only [Act.put, List.getElem_toArray, List.getElem_cons_succ, List.getElem_cons_zero, List.setIfInBounds_toArray, List.set_cons_zero, List.set_cons_succ]
                        refine wpAnyH_take (i := 19) (v := ?_) rfl (by kernel_rfl) (by kernel_rfl) (by kernel_rfl) (fun _ _ _ h => h) (Or.inl ⟨by rfl, ?_⟩) (by assumption) ?_
                        rotate_left
                        · (intro w hSw; (try dsimp only at hSw); (try simp only [List.getElem_toArray, List.getElem_cons_succ, List.getElem_cons_zero]); first | (go_simp; done) | (go_simp; with_reducible rfl))
                        try simp only [Act.put, List.getElem_toArray, List.getElem_cons_succ, List.getElem_cons_zero, List.setIfInBounds_toArray, List.set_cons_zero, List.set_cons_succ]
                        refine wpAnyH_take (i := 20) (v := ?_) rfl (by kernel_rfl) (by kernel_rfl) (by kernel_rfl) (fun _ _ _ h => h) (Or.inl ⟨by rfl, ?_⟩) (by assumption) ?_
                        rotate_left
                        · (intro w hSw; (try dsimp only at hSw); (try simp only [List.getElem_toArray, List.getElem_cons_succ, List.getElem_cons_zero]); first | (go_simp; done) | (go_simp; with_reducible rfl))
                        try simp only [Act.put, List.getElem_toArray, List.getElem_cons_succ, List.getElem_cons_zero, List.setIfInBounds_toArray, List.set_cons_zero, List.set_cons_succ]
                        refine wpAnyH_take (i := 21) (v := ?_) rfl (by kernel_rfl) (by kernel_rfl) (by kernel_rfl) (fun _ _ _ h => h) (Or.inl ⟨by rfl, ?_⟩) (by assumption) ?_
                        rotate_left
                        · (intro w hSw; (try dsimp only at hSw); (try simp only [List.getElem_toArray, List.getElem_cons_succ, List.getElem_cons_zero]); first | (go_simp; done) | (go_simp; with_reducible rfl))
                        try simp only [Act.put, List.getElem_toArray, List.getElem_cons_succ, List.getElem_cons_zero, List.setIfInBounds_toArray, List.set_cons_zero, List.set_cons_succ]
                        refine wpAnyH_take (i := 22) (v := ?_) rfl (by kernel_rfl) (by kernel_rfl) (by kernel_rfl) (fun _ _ _ h => h) (Or.inl ⟨by rfl, ?_⟩) (by assumption) ?_
                        rotate_left
                        · (intro w hSw; (try dsimp only at hSw); (try simp only [List.getElem_toArray, List.getElem_cons_succ, List.getElem_cons_zero]); first | (go_simp; done) | (go_simp; with_reducible rfl))
                        try simp only [Act.put, List.getElem_toArray, List.getElem_cons_succ, List.getElem_cons_zero, List.setIfInBounds_toArray, List.set_cons_zero, List.set_cons_succ]
                        refine wpAnyH_take (i := 23) (v := ?_) rfl (by kernel_rfl) (by kernel_rfl) (by kernel_rfl) (fun _ _ _ h => h) (Or.inl ⟨by rfl, ?_⟩) (by assumption) ?_
                        rotate_left
                        · (intro w hSw; (try dsimp only at hSw); (try simp only [List.getElem_toArray, List.getElem_cons_succ, List.getElem_cons_zero]); first | (go_simp; done) | (go_simp; with_reducible rfl))
                        try simp only [Act.put, List.getElem_toArray, List.getElem_cons_succ, List.getElem_cons_zero, List.setIfInBounds_toArray, List.set_cons_zero, List.set_cons_succ]
                        refine wpAnyH_done (by kernel_rfl) ?_ _
                        go_wp2_with fail
                        go_roundw
                        case rel =>
                          refine ⟨b + 1, by omega, by go_num, ?_, ?_⟩
                          · rw [HY.out]
                            exact ⟨wr.heap.size, by first | rfl | simp, own_two _ _ (by first | exact hsz | simpa using hsz) _ _⟩
                          · have h9 := HBW.out.alloc hsz (.cells #[.int .i64 a, .int .i64 b] 3)
                            exact ⟨h9.os, h9.tape, h9.output, h9.size, h9.block⟩
                        case measure => (simp [intOf]) <;> omega
                      · have hd1 : decide (D < E) = false := by simpa using hDE
                        have HY := Lib.hid (bstR_not (f := farF ws m) (I := I) (e := e) (a := a) (b := b) (o := bstA (farF ws m) I e m a) (by rw [ho]; unfold bet; simp only; rw [HD.out, HE.out]; exact hd1))
                        clear ho
                        go_wp2_with fail
                        refine wp_region_held_drew (S := (fun w' => w'.cell? ⟨T, a, none⟩ = some (.slice (some ⟨R a, 0, none⟩) m (C a)) ∧ w'.cell? ⟨R a, b, none⟩ = some (.int .i64 D) ∧ w'.cell? ⟨T, x, none⟩ = some (.slice (some ⟨R x, 0, none⟩) m (C x)) ∧ w'.cell? ⟨R x, y, none⟩ = some (.int .i64 E) ∧ w'.cell? ⟨g, 0, none⟩ = some (.int .i64 x) ∧ w'.cell? ⟨g, 1, none⟩ = some (.int .i64 y))) (by kernel_rfl) ?_ (fun hHeld => ?_)
                        · exact ⟨tp, rw_, tx, rx, g0, g1⟩
                        refine wpAnyH_take (i := 0) (v := ?_) rfl (by kernel_rfl) (by kernel_rfl) (by kernel_rfl) (fun _ _ _ h => h) (Or.inl ⟨by rfl, ?_⟩) (by assumption) ?_
                        rotate_left
                        · (intro w hSw; (try dsimp only at hSw); (try simp only [List.getElem_toArray, List.getElem_cons_succ, List.getElem_cons_zero]); first | (go_simp; done) | (go_simp; with_reducible rfl))
                        try simp only [Act.put, List.getElem_toArray, List.getElem_cons_succ, List.getElem_cons_zero, List.setIfInBounds_toArray, List.set_cons_zero, List.set_cons_succ]
                        refine wpAnyH_take (i := 1) (v := ?_) rfl (by kernel_rfl) (by kernel_rfl) (by kernel_rfl) (fun _ _ _ h => h) (Or.inl ⟨by rfl, ?_⟩) (by assumption) ?_
                        rotate_left
                        · (intro w hSw; (try dsimp only at hSw); (try simp only [List.getElem_toArray, List.getElem_cons_succ, List.getElem_cons_zero]); first | (go_simp; done) | (go_simp; with_reducible rfl))
                        try simp only [Act.put, List.getElem_toArray, List.getElem_cons_succ, List.getElem_cons_zero, List.setIfInBounds_toArray, List.set_cons_zero, List.set_cons_succ]
                        refine wpAnyH_take (i := 2) (v := ?_) rfl (by kernel_rfl) (by kernel_rfl) (by kernel_rfl) (fun _ _ _ h => h) (Or.inl ⟨by rfl, ?_⟩) (by assumption) ?_
                        rotate_left
                        · (intro w hSw; (try dsimp only at hSw); (try simp only [List.getElem_toArray, List.getElem_cons_succ, List.getElem_cons_zero]); first | (go_simp; done) | (go_simp; with_reducible rfl))
                        try simp only [Act.put, List.getElem_toArray, List.getElem_cons_succ, List.getElem_cons_zero, List.setIfInBounds_toArray, List.set_cons_zero, List.set_cons_succ]
                        refine wpAnyH_take (i := 3) (v := ?_) rfl (by kernel_rfl) (by kernel_rfl) (by kernel_rfl) (fun _ _ _ h => h) (Or.inl ⟨by rfl, ?_⟩) (by assumption) ?_
                        rotate_left
                        · (intro w hSw; (try dsimp only at hSw); (try simp only [List.getElem_toArray, List.getElem_cons_succ, List.getElem_cons_zero]); first | (go_simp; done) | (go_simp; with_reducible rfl))
                        try simp only [Act.put, List.getElem_toArray, List.getElem_cons_succ, List.getElem_cons_zero, List.setIfInBounds_toArray, List.set_cons_zero, List.set_cons_succ]
                        refine wpAnyH_take (i := 4) (v := ?_) rfl (by kernel_rfl) (by kernel_rfl) (by kernel_rfl) (fun _ _ _ h => h) (Or.inl ⟨by rfl, ?_⟩) (by assumption) ?_
                        rotate_left
                        · (intro w hSw; (try dsimp only at hSw); (try simp only [List.getElem_toArray, List.getElem_cons_succ, List.getElem_cons_zero]); first | (go_simp; done) | (go_simp; with_reducible rfl))
                        try simp only [Act.put, List.getElem_toArray, List.getElem_cons_succ, List.getElem_cons_zero, List.setIfInBounds_toArray, List.set_cons_zero, List.set_cons_succ]
                        refine wpAnyH_take (i := 5) (v := ?_) rfl (by kernel_rfl) (by kernel_rfl) (by kernel_rfl) (fun _ _ _ h => h) (Or.inl ⟨by rfl, ?_⟩) (by assumption) ?_
                        rotate_left
                        · (intro w hSw; (try dsimp only at hSw); (try simp only [List.getElem_toArray, List.getElem_cons_succ, List.getElem_cons_zero]); first | (go_simp; done) | (go_simp; with_reducible rfl))
                        try simp only [Act.put, List.getElem_toArray, List.getElem_cons_succ, List.getElem_cons_zero, List.setIfInBounds_toArray, List.set_cons_zero, List.set_cons_succ]
                        refine wpAnyH_take (i := 6) (v := ?_) rfl (by kernel_rfl) (by kernel_rfl) (by kernel_rfl) (fun _ _ _ h => h) (Or.inl ⟨by rfl, ?_⟩) (by assumption) ?_
                        rotate_left
                        · (intro w hSw; (try dsimp only at hSw); (try simp only [List.getElem_toArray, List.getElem_cons_succ, List.getElem_cons_zero]); first | (go_simp; done) | (go_simp; with_reducible rfl))
                        try simp only [Act.put, List.getElem_toArray, List.getElem_cons_succ, List.getElem_cons_zero, List.setIfInBounds_toArray, List.set_cons_zero, List.set_cons_succ]
                        refine wpAnyH_take (i := 7) (v := ?_) rfl (by kernel_rfl) (by kernel_rfl) (by kernel_rfl) (fun _ _ _ h => h) (Or.inl ⟨by rfl, ?_⟩) (by assumption) ?_
                        rotate_left
                        · (intro w hSw; (try dsimp only at hSw); (try simp only [List.getElem_toArray, List.getElem_cons_succ, List.getElem_cons_zero]); first | (go_simp; done) | (go_simp; with_reducible rfl))
                        try simp only [Act.put, List.getElem_toArray, List.getElem_cons_succ, List.getElem_cons_zero, List.setIfInBounds_toArray, List.set_cons_zero, List.set_cons_succ]
                        refine wpAnyH_take (i := 8) (v := ?_) rfl (by kernel_rfl) (by kernel_rfl) (by kernel_rfl) (fun _ _ _ h => h) (Or.inl ⟨by rfl, ?_⟩) (by assumption) ?_
                        rotate_left
                        · (intro w hSw; (try dsimp only at hSw); (try simp only [List.getElem_toArray, List.getElem_cons_succ, List.getElem_cons_zero]); first | (go_simp; done) | (go_simp; with_reducible rfl))
                        try simp only [Act.put, List.getElem_toArray, List.getElem_cons_succ, List.getElem_cons_zero, List.setIfInBounds_toArray, List.set_cons_zero, List.set_cons_succ]
                        refine wpAnyH_take (i := 9) (v := ?_) rfl (by kernel_rfl) (by kernel_rfl) (by kernel_rfl) (fun _ _ _ h => h) (Or.inl ⟨by rfl, ?_⟩) (by assumption) ?_
                        rotate_left
                        · (intro w hSw; (try dsimp only at hSw); (try simp only [List.getElem_toArray, List.getElem_cons_succ, List.getElem_cons_zero]); first | (go_simp; done) | (go_simp; with_reducible rfl))
                        try simp only [Act.put, List.getElem_toArray, List.getElem_cons_succ, List.getElem_cons_zero, List.setIfInBounds_toArray, List.set_cons_zero, List.set_cons_succ]
                        refine wpAnyH_take (i := 10) (v := ?_) rfl (by kernel_rfl) (by kernel_rfl) (by kernel_rfl) (fun _ _ _ h => h) (Or.inl ⟨by rfl, ?_⟩) (by assumption) ?_
                        rotate_left
                        · (intro w hSw; (try dsimp only at hSw); (try simp only [List.getElem_toArray, List.getElem_cons_succ, List.getElem_cons_zero]); first | (go_simp; done) | (go_simp; with_reducible rfl))
                        try simp only [Act.put, List.getElem_toArray, List.getElem_cons_succ, List.getElem_cons_zero, List.setIfInBounds_toArray, List.set_cons_zero, List.set_cons_succ]
                        refine wpAnyH_take (i := 11) (v := ?_) rfl (by kernel_rfl) (by kernel_rfl) (by kernel_rfl) (fun _ _ _ h => h) (Or.inl ⟨by rfl, ?_⟩) (by assumption) ?_
                        rotate_left
                        · (intro w hSw; (try dsimp only at hSw); (try simp only [List.getElem_toArray, List.getElem_cons_succ, List.getElem_cons_zero]); first | (go_simp; done) | (go_simp; with_reducible rfl))
                        try simp only [Act.put, List.getElem_toArray, List.getElem_cons_succ, List.getElem_cons_zero, List.setIfInBounds_toArray, List.set_cons_zero, List.set_cons_succ]
                        refine wpAnyH_take (i := 12) (v := ?_) rfl (by kernel_rfl) (by kernel_rfl) (by kernel_rfl) (fun _ _ _ h => h) (Or.inl ⟨by rfl, ?_⟩) (by assumption) ?_
                        rotate_left
                        · (intro w hSw; (try dsimp only at hSw); (try simp only [List.getElem_toArray, List.getElem_cons_succ, List.getElem_cons_zero]); first | (go_simp; done) | (go_simp; with_reducible rfl))
                        try simp only [Act.put, List.getElem_toArray, List.getElem_cons_succ, List.getElem_cons_zero, List.setIfInBounds_toArray, List.set_cons_zero, List.set_cons_succ]
                        refine wpAnyH_take (i := 13) (v := ?_) rfl (by kernel_rfl) (by kernel_rfl) (by kernel_rfl) (fun _ _ _ h => h) (Or.inl ⟨by rfl, ?_⟩) (by assumption) ?_
                        rotate_left
                        · (intro w hSw; (try dsimp only at hSw); (try simp only [List.getElem_toArray, List.getElem_cons_succ, List.getElem_cons_zero]); first | (go_simp; done) | (go_simp; with_reducible rfl))
                        try simp only [Act.put, List.getElem_toArray, List.getElem_cons_succ, List.getElem_cons_zero, List.setIfInBounds_toArray, List.set_cons_zero, List.set_cons_succ]
                        refine wpAnyH_take (i := 14) (v := ?_) rfl (by kernel_rfl) (by kernel_rfl) (by kernel_rfl) (fun _ _ _ h => h) (Or.inl ⟨by rfl, ?_⟩) (by assumption) ?_
                        rotate_left
                        · (intro w hSw; (try dsimp only at hSw); (try simp only [List.getElem_toArray, List.getElem_cons_succ, List.getElem_cons_zero]); first | (go_simp; done) | (go_simp; with_reducible rfl))
                        try simp only [Act.put, List.getElem_toArray, List.getElem_cons_succ, List.getElem_cons_zero, List.setIfInBounds_toArray, List.set_cons_zero, List.set_cons_succ]
                        refine wpAnyH_take (i := 15) (v := ?_) rfl (by kernel_rfl) (by kernel_rfl) (by kernel_rfl) (fun _ _ _ h => h) (Or.inl ⟨by rfl, ?_⟩) (by assumption) ?_
                        rotate_left
                        · (intro w hSw; (try dsimp only at hSw); (try simp only [List.getElem_toArray, List.getElem_cons_succ, List.getElem_cons_zero]); first | (go_simp; done) | (go_simp; with_reducible rfl))
                        try simp only [Act.put, List.getElem_toArray, List.getElem_cons_succ, List.getElem_cons_zero, List.setIfInBounds_toArray, List.set_cons_zero, List.set_cons_succ]
                        refine wpAnyH_take (i := 16) (v := ?_) rfl (by kernel_rfl) (by kernel_rfl) (by kernel_rfl) (fun _ _ _ h => h) (Or.inl ⟨by rfl, ?_⟩) (by assumption) ?_
                        rotate_left
                        · (intro w hSw; (try dsimp only at hSw); (try simp only [List.getElem_toArray, List.getElem_cons_succ, List.getElem_cons_zero]); first | (go_simp; done) | (go_simp; with_reducible rfl))
                        try simp only [Act.put, List.getElem_toArray, List.getElem_cons_succ, List.getElem_cons_zero, List.setIfInBounds_toArray, List.set_cons_zero, List.set_cons_succ]
                        refine wpAnyH_take (i := 17) (v := ?_) rfl (by kernel_rfl) (by kernel_rfl) (by kernel_rfl) (fun _ _ _ h => h) (Or.inl ⟨by rfl, ?_⟩) (by assumption) ?_
                        rotate_left
                        · (intro w hSw; (try dsimp only at hSw); (try simp only [List.getElem_toArray, List.getElem_cons_succ, List.getElem_cons_zero]); first | (go_simp; done) | (go_simp; with_reducible rfl))
                        try simp only [Act.put, List.getElem_toArray, List.getElem_cons_succ, List.getElem_cons_zero, List.setIfInBounds_toArray, List.set_cons_zero, List.set_cons_succ]
                        refine wpAnyH_take (i := 18) (v := ?_) rfl (by kernel_rfl) (by kernel_rfl) (by kernel_rfl) (fun _ _ _ h => h) (Or.inl ⟨by rfl, ?_⟩) (by assumption) ?_
                        rotate_left
                        · (intro w hSw; (try dsimp only at hSw); (try simp only [List.getElem_toArray, List.getElem_cons_succ, List.getElem_cons_zero]); first | (go_simp; done) | (go_simp; with_reducible rfl))
                        try simp only [Act.put, List.getElem_toArray, List.getElem_cons_succ, List.getElem_cons_zero, List.setIfInBounds_toArray, List.set_cons_zero, List.set_cons_succ]
                        refine wpAnyH_take (i := 19) (v := ?_) rfl (by kernel_rfl) (by kernel_rfl) (by kernel_rfl) (fun _ _ _ h => h) (Or.inl ⟨by rfl, ?_⟩) (by assumption) ?_
                        rotate_left
                        · (intro w hSw; (try dsimp only at hSw); (try simp only [List.getElem_toArray, List.getElem_cons_succ, List.getElem_cons_zero]); first | (go_simp; done) | (go_simp; with_reducible rfl))
                        try simp only [Act.put, List.getElem_toArray, List.getElem_cons_succ, List.getElem_cons_zero, List.setIfInBounds_toArray, List.set_cons_zero, List.set_cons_succ]
                        refine wpAnyH_take (i := 20) (v := ?_) rfl (by kernel_rfl) (by kernel_rfl) (by kernel_rfl) (fun _ _ _ h => h) (Or.inl ⟨by rfl, ?_⟩) (by assumption) ?_
                        rotate_left
                        · (intro w hSw; (try dsimp only at hSw); (try simp only [List.getElem_toArray, List.getElem_cons_succ, List.getElem_cons_zero]); first | (go_simp; done) | (go_simp; with_reducible rfl))
                        try simp only [Act.put, List.getElem_toArray, List.getElem_cons_succ, List.getElem_cons_zero, List.setIfInBounds_toArray, List.set_cons_zero, List.set_cons_succ]
                        refine wpAnyH_take (i := 21) (v := ?_) rfl (by kernel_rfl) (by kernel_rfl) (by kernel_rfl) (fun _ _ _ h => h) (Or.inl ⟨by rfl, ?_⟩) (by assumption) ?_
                        rotate_left
                        · (intro w hSw; (try dsimp only at hSw); (try simp only [List.getElem_toArray, List.getElem_cons_succ, List.getElem_cons_zero]); first | (go_simp; done) | (go_simp; with_reducible rfl))
                        try simp only [Act.put, List.getElem_toArray, List.getElem_cons_succ, List.getElem_cons_zero, List.setIfInBounds_toArray, List.set_cons_zero, List.set_cons_succ]
                        refine wpAnyH_take (i := 22) (v := ?_) rfl (by kernel_rfl) (by kernel_rfl) (by kernel_rfl) (fun _ _ _ h => h) (Or.inl ⟨by rfl, ?_⟩) (by assumption) ?_
                        rotate_left
                        · (intro w hSw; (try dsimp only at hSw); (try simp only [List.getElem_toArray, List.getElem_cons_succ, List.getElem_cons_zero]); first | (go_simp; done) | (go_simp; with_reducible rfl))
                        try simp only [Act.put, List.getElem_toArray, List.getElem_cons_succ, List.getElem_cons_zero, List.setIfInBounds_toArray, List.set_cons_zero, List.set_cons_succ]
                        refine wpAnyH_take (i := 23) (v := ?_) rfl (by kernel_rfl) (by kernel_rfl) (by kernel_rfl) (fun _ _ _ h => h) (Or.inl ⟨by rfl, ?_⟩) (by assumption) ?_
                        rotate_left
                        · (intro w hSw; (try dsimp only at hSw); (try simp only [List.getElem_toArray, List.getElem_cons_succ, List.getElem_cons_zero]); first | (go_simp; done) | (go_simp; with_reducible rfl))
                        try simp only [Act.put, List.getElem_toArray, List.getElem_cons_succ, List.getElem_cons_zero, List.setIfInBounds_toArray, List.set_cons_zero, List.set_cons_succ]
                        refine wpAnyH_done (by kernel_rfl) ?_ _
                        go_wp2_with fail
                        go_roundw
                        case rel => exact ⟨b + 1, by omega, by go_num, by rw [HY.out]; exact HBV.out, ⟨HBW.out.os, HBW.out.tape, HBW.out.output, HBW.out.size, HBW.out.block⟩⟩
                        case measure => (simp [intOf]) <;> omega
            · obtain rfl : b = m := by omega
              have HY : Hid (bstR (farF ws b) I e a (bstA (farF ws b) I e b a) b = bstA (farF ws b) I e b (a + 1)) := rfl
              go_wp2_with fail
              go_roundw
              case rel => exact ⟨a + 1, by omega, by go_num, by rw [← HY.out]; exact HBV.out, HBW.out⟩
              case measure => (simp [intOf]) <;> omega
        · obtain rfl : a = m := by omega
          cases ho : bstA (farF ws a) I e a a with
          | none =>
            have hbv := HBV.out
            rw [ho] at hbv
            obtain ⟨Ab, cb, rfl⟩ := hbv
            have hfin : lks (farF ws a) e a 6 I0 = none := by
              rw [HLK.out]
              cases d with
              | zero => rw [lks, if_neg hIe]; rfl
              | succ d => rw [lks_none hIe ho]; rfl
            have HFIN := Lib.hid hfin
            clear hfin ho
            have hbs2 := noRows
            go_wp2_with fail
            refine bodyPost_ret (v := .tuple #[.slice (some ⟨wr.heap.size, 0, none⟩) 0 0, .bool false]) (by simp [results, Tryd.results36, go_sem]) rfl ?_
            rw [HFIN.out]
            exact ⟨_, _, rfl, by have h9 := bstep (B := w.heap.size) (W := w) HB0.out (Nat.le_of_lt hlo') HBW.out; go_grown⟩
          | some p =>
            obtain ⟨x, y⟩ := p
            have hbv := HBV.out
            rw [ho] at hbv
            obtain ⟨g, rfl, hown⟩ := hbv
            have HOWN := Lib.hid hown
            have hbb := bstA_best (f := farF ws a) (I := I) (e := e) (m := a) a
            have hxy : x < a ∧ y < a ∧ okP (farF ws a) I e x y = true := by
              rcases hbb with ⟨h1, _⟩ | ⟨x', y', h1, h2, h3, _⟩
              · rw [ho] at h1; cases h1
              · rw [ho] at h1; injection h1 with h1; injection h1 with q1 q2
                subst q1; subst q2
                exact ⟨h3.1, h3.2, h2⟩
            obtain ⟨hx, hy, hok⟩ := hxy
            obtain ⟨o1, o2, o3, o4⟩ := okP_t hok
            have g1 : wr.cell? ⟨g, 1, none⟩ = some (.int .i64 y) := by have h9 := hown.cellAt 1 (by omega); simpa using h9
            have hgo := hown.lt g rfl
            have hy5 : y ≤ 5 := by omega
            have y0 : (0 : Int) ≤ (y : Int) := by omega
            have hpy := pow_bd (y : Int) 5 (by omega)
            rw [Int.toNat_natCast] at hpy
            have hor : bits .or .i64 I (2 ^ y) = ior I (2 ^ y) := bits_or _ _ i0 (by omega) (by omega) (by omega)
            have HOR := Lib.hid hor
            have hpl := pop_place (r := I) (j := (y : Int)) i0 (by omega) y0 (by omega) o3
            rw [Int.toNat_natCast] at hpl
            have HPY : Hid (IntKind.i64.wrap (2 ^ y) = 2 ^ y) := IntWalk.i64_in _ ⟨by omega, by omega⟩
            have HPY2 : Hid (wrap64 (2 ^ y) = 2 ^ y) := IntWalk.wrap64_in _ ⟨by omega, by omega⟩
            have hib := ior_bd I (2 ^ y) a HI1.out (by
              have h8 := Nat.pow_lt_pow_right (a := 2) (by omega) hy
              have q3 : ((2 : Int) ^ y) = ((2 ^ y : Nat) : Int) := by simp
              have q4 : ((2 : Int) ^ a) = ((2 ^ a : Nat) : Int) := by simp
              omega)
            have HSUB2 : Hid (∀ q, 0 ≤ q → bit (ior I (2 ^ y)) q = true → bit e q = true) := fun q hq h => by
              rw [bit_ior, bit_pow y q hq, Bool.or_eq_true, decide_eq_true_eq] at h
              rcases h with h | rfl
              · exact HSUB.out q hq h
              · exact o2
            have hpm := pop_sub HSUB2.out
            obtain ⟨K, hK⟩ : ∃ K, ior I (2 ^ y) = K := ⟨_, rfl⟩
            rw [hK] at HOR hpl hib HSUB2 hpm
            obtain ⟨d', rfl⟩ : ∃ d', d = d' + 1 := ⟨d - 1, by omega⟩
            have HLK2 : Hid (lks (farF ws a) e a 6 I0 = (lks (farF ws a) e a d' K).map (fun L => (Lp ++ [(x, y)]) ++ L)) := by
              show _ = _
              rw [HLK.out, lks_some hIe ho, hK]
              cases lks (farF ws a) e a d' K with
              | none => rfl
              | some L => simp
            have hin0 : intCells (lkF (Lp ++ [(x, y)]) Lp.length) 2 = [.int .i64 x, .int .i64 y] := by
              have h8 : (Lp ++ [(x, y)])[Lp.length]? = some (x, y) := by simp
              have h9 := lkF_at h8
              unfold intCells
              show [Value.int .i64 (lkF (Lp ++ [(x, y)]) Lp.length 0), Value.int .i64 (lkF (Lp ++ [(x, y)]) Lp.length 1)] = _
              rw [h9.1, h9.2]
            have HIN := Lib.hid hin0
            have HK := Lib.hid hK
            have hib0 := hib.1
            have HIB := Lib.hid hib.2
            clear hbb hok o1 o2 o3 o4 hown hpy hK hin0 ho hor hib
            obtain ⟨j1, hj1, hy0, hy1, hy2⟩ := info_parts intsInfo
            have hpw := HPY.out
            have hpw2 := HPY2.out
            have hor := HOR.out
            go_wp2_with (at_builtin; refine wpList_append_lies _ rfl _ _ _ rfl w1.heap.size 34 j1 _ 1 24 Tryd.underlying28 hj1 hy0 hy1 hy2 rfl (by clear hpw hpw2; omega) (.slice A1 Lp.length c1) Lp.length (rowCells 2 P Q Lp.length) rfl ((HRP.out.below HBW.out).own.alloc _) ⟨wr.heap.size, 0, none⟩ 1 1 [.slice (some ⟨g, 0, none⟩) 2 2] rfl rfl (World.news_of_block (cs := #[.slice (some ⟨g, 0, none⟩) 2 2]) (t := 34) (fr := (0, 0)) (heap_alloc_new wr _)) (by simp [Value.oneCell']) (by clear hpw hpw2; omega) (by clear hpw hpw2; unfold maxLen; omega) (by clear hpw hpw2; omega) (by clear hpw hpw2; simp; omega) (wr.heap.size + 1) (by simp) ?_; intro gg cc w5 hown5 hgrow5 hat5 hlt5)
            clear hpw hpw2 hor
            have hvl := HRP.out.own.lt
            have HM : Hid (RowsP w5 w1.heap.size 2 (Lp.length + 1) (.slice (some ⟨gg, 0, none⟩) (Lp.length + 1) cc) (fun i => if i = Lp.length then g else P i) (fun i => if i = Lp.length then 2 else Q i) (lkF (Lp ++ [(x, y)]))) :=
              RowsP.more (base' := wo.heap.size) (w1 := wr.alloc (.cells #[.slice (some ⟨g, 0, none⟩) 2 2] 34)) ((HRP.out.below HBW.out).congr (fun i j hi _ => lkF_snoc hi j)) (by rw [HIN.out]; exact HOWN.out) (by omega) hgo.1 hgo.2 (fun i hi => (HRP.out.rlo i hi).2) (fun k hk => (hvl k hk).2) ((Below.refl _ _).alloc (Nat.le_refl _) _) hgrow5 (by simpa using hat5) hown5
            have hkeep : ∀ k, k < w1.heap.size → w5.heap[k]? = wo.heap[k]? := fun k hk => ((hgrow5.block k (by simp; omega) (fun e => by have := (hvl k e.symm).1; omega)).trans (Below.heap_alloc _ _ _ (by omega))).trans (HBW.out.block k (by omega))
            have HB5 : Hid (Below w.heap.size w w5) := by
              have h9 := (bstep (B := w.heap.size) (W := w) HB0.out (Nat.le_of_lt hlo') HBW.out).alloc (by omega) (.cells #[.slice (some ⟨g, 0, none⟩) 2 2] 34)
              exact ⟨hgrow5.os.trans h9.os, hgrow5.tape.trans h9.tape, hgrow5.output.trans h9.output, Nat.le_trans h9.size hgrow5.size, fun i hi => (hgrow5.block i (by simp; omega) (fun e => by have := (hvl i e.symm).1; omega)).trans (h9.block i hi)⟩
            have x0 : w5.cell? ⟨w.heap.size, 0, none⟩ = some (.int .i64 a) := (World.cell?_of_block (w := wo) (hkeep w.heap.size hz1)).trans b0
            have x1 : w5.cell? ⟨w.heap.size, 1, none⟩ = some (.slice A ws.length cap) := (World.cell?_of_block (w := wo) (hkeep w.heap.size hz1)).trans b1
            have hs5 : wr.heap.size + 1 ≤ w5.heap.size := by have := hgrow5.size; simpa using this
            have HT5 := Lib.hid (HTB.out.keep (w' := w5) (fun k _ hk => hkeep k (by omega)) (by omega))
            clear hown5 hgrow5 hat5 hlt5 hvl hkeep
            go_wp2_with fail
            go_roundw
            case rel => exact ⟨Lp ++ [(x, y)], K, d', _, _, rfl, hib0, HIB.out, HSUB2.out, by omega, HLK2.out, by rw [List.length_append]; simp only [List.length_cons, List.length_nil]; omega, x0, x1, HB5.out, by omega, HT5.out, hhi, by rw [List.length_append]; exact HM.out⟩
            case measure => (simp [intOf]) <;> omega
end Go.Proofs.YtcpefijmcajebaaDoor
