/- EndLinks, EndTreeCost and EndTreeSet of the program. -/
import Derived.Test.YtcpefijmcajebaaDoorEnE
import Derived.Test.YtcpefijmcajebaaDoorTc
import Derived.Test.YtcpefijmcajebaaDoorMC
import Derived.Test.YtcpefijmcajebaaDoorMG
set_option linter.unusedSimpArgs false
set_option linter.unusedVariables false
attribute [local go_sem ↓] Go.wp_at_zero Go.wp_at_succ
namespace Go.Proofs.YtcpefijmcajebaaDoor
open Go.ChangeShapes Go.WideShapes Go.ChangeAt Go.RowKit

/-- the best link, as the program tells it -/
def lk1 : Option (Nat × Nat) → Int
  | none => 0
  | some p => p.1
def lk2 : Option (Nat × Nat) → Int
  | none => 0
  | some p => p.2
def lk3 : Option (Nat × Nat) → Bool
  | none => false
  | some _ => true
set_option maxRecDepth 100000 in
set_option maxHeartbeats 4000000 in
theorem nearestEnd_any (m lo hi T cT : Nat) (R C : Nat → Nat) (f : Nat → Nat → Int) (e I J : Int) (w : World) (h : TabM w lo hi T m R C f) (hm6 : m ≤ 6) (i0 : 0 ≤ I) (i1 : I < 64) (j0 : 0 ≤ J) (j1 : J < 64) (hJ : ∀ b : Nat, bit J b = (bit e b && !bit I b)) :
    Calls Tryd.prog 34 #[.slice (some ⟨T, 0, none⟩) m cT, .int .i64 I, .int .i64 J] w fun en w' => en = .returned (.tuple #[.int .i64 (lk1 (bstA f I e m m)), .int .i64 (lk2 (bstA f I e m m)), .bool (lk3 (bstA f I e m m))]) ∧ w = w' := by
  have H := Lib.hid h
  have HJ := Lib.hid hJ
  clear h hJ
  go_enter Tryd.func34, Tryd.ntmps34
  go_wp2_with fail
  go_loopw [6, 7, 8, 15] (fun x y z i wr => ∃ a : Nat, a ≤ m ∧ i = .int .i64 a ∧ x = .int .i64 (lk1 (bstA f I e m a)) ∧ y = .int .i64 (lk2 (bstA f I e m a)) ∧ z = .bool (lk3 (bstA f I e m a)) ∧ w = wr) (fun _ _ _ i _ => m - (intOf i).toNat)
  case atStart => exact ⟨0, Nat.zero_le _, rfl, rfl, rfl, rfl, rfl⟩
  case round =>
    obtain ⟨a, ha, rfl, hx, hy, hz, rfl⟩ := hrel
    have HX0 := Lib.hid hx
    have HY0 := Lib.hid hy
    have HZ0 := Lib.hid hz
    have a0 : (0 : Int) ≤ (a : Int) := by omega
    clear hx hy hz
    by_cases hla : a < m
    · have a1 : (a : Int) < (m : Int) := by omega
      have tp := H.out.top a hla
      go_wp2_with fail
      go_loopw [6, 7, 8, 22] (fun x y z j wr => ∃ b : Nat, b ≤ m ∧ j = .int .i64 b ∧ x = .int .i64 (lk1 (bstR f I e a (bstA f I e m a) b)) ∧ y = .int .i64 (lk2 (bstR f I e a (bstA f I e m a) b)) ∧ z = .bool (lk3 (bstR f I e a (bstA f I e m a) b)) ∧ w = wr) (fun _ _ _ j _ => m - (intOf j).toNat)
      case atStart => exact ⟨0, Nat.zero_le _, rfl, HX0.out, HY0.out, HZ0.out, rfl⟩
      case round =>
        clear HX0 HY0 HZ0
        obtain ⟨b, hbm, rfl, hx, hy, hz, rfl⟩ := hrel
        have b0 : (0 : Int) ≤ (b : Int) := by omega
        by_cases hlb : b < m
        · have b1 : (b : Int) < (m : Int) := by omega
          have rw_ := (H.out.row a b hla hlb).1
          obtain ⟨D, hD⟩ : ∃ D, f a b = D := ⟨_, rfl⟩
          rw [hD] at rw_
          have HD := Lib.hid hD
          clear hD
          cases hIa : bit I (a : Int)
          · have HIa := Lib.hid hIa
            have HS : Hid (bstR f I e a (bstA f I e m a) (b + 1) = bstR f I e a (bstA f I e m a) b) := bstR_no (by unfold okP; rw [hIa]; rfl)
            have HX := Lib.hid hx
            have HY := Lib.hid hy
            have HZ := Lib.hid hz
            clear hIa hx hy hz
            go_wp2_with fail
            refine (inSet_any I a a0 (by omega) i0 (by omega) _).mono ?_; rintro en w1 ⟨rfl, rfl⟩; rw [HIa.out]
            go_wp2_with fail
            go_roundw
            case rel => exact ⟨b + 1, by omega, by go_num, by rw [HS.out]; exact HX.out, by rw [HS.out]; exact HY.out, by rw [HS.out]; exact HZ.out, by first | rfl | trivial⟩
            case measure => (simp [intOf]) <;> omega
          · have HIa := Lib.hid hIa
            cases hJb : bit J (b : Int)
            · have HJb := Lib.hid hJb
              have HS : Hid (bstR f I e a (bstA f I e m a) (b + 1) = bstR f I e a (bstA f I e m a) b) := bstR_no (by unfold okP; rw [← HJ.out b, hJb, Bool.and_false]; rfl)
              have HX := Lib.hid hx
              have HY := Lib.hid hy
              have HZ := Lib.hid hz
              clear hIa hJb hx hy hz
              go_wp2_with fail
              refine (inSet_any I a a0 (by omega) i0 (by omega) _).mono ?_; rintro en w1 ⟨rfl, rfl⟩; rw [HIa.out]
              go_wp2_with fail
              refine (inSet_any J b b0 (by omega) j0 (by omega) _).mono ?_; rintro en w1 ⟨rfl, rfl⟩; rw [HJb.out]
              go_wp2_with fail
              go_roundw
              case rel => exact ⟨b + 1, by omega, by go_num, by rw [HS.out]; exact HX.out, by rw [HS.out]; exact HY.out, by rw [HS.out]; exact HZ.out, by first | rfl | trivial⟩
              case measure => (simp [intOf]) <;> omega
            · have HJb := Lib.hid hJb
              by_cases hD0 : D < 0
              · have HS : Hid (bstR f I e a (bstA f I e m a) (b + 1) = bstR f I e a (bstA f I e m a) b) := bstR_no (by unfold okP; rw [show decide (0 ≤ f a b) = false from by rw [HD.out]; simpa using hD0, Bool.and_false])
                have HX := Lib.hid hx
                have HY := Lib.hid hy
                have HZ := Lib.hid hz
                clear hIa hJb hx hy hz
                go_wp2_with fail
                refine (inSet_any I a a0 (by omega) i0 (by omega) _).mono ?_; rintro en w1 ⟨rfl, rfl⟩; rw [HIa.out]
                go_wp2_with fail
                refine (inSet_any J b b0 (by omega) j0 (by omega) _).mono ?_; rintro en w1 ⟨rfl, rfl⟩; rw [HJb.out]
                go_wp2_with fail
                go_roundw
                case rel => exact ⟨b + 1, by omega, by go_num, by rw [HS.out]; exact HX.out, by rw [HS.out]; exact HY.out, by rw [HS.out]; exact HZ.out, by first | rfl | trivial⟩
                case measure => (simp [intOf]) <;> omega
              · have hbo : bit e (b : Int) = true ∧ bit I (b : Int) = false := by
                  have h9 := HJ.out b
                  rw [hJb] at h9
                  cases h1 : bit e (b : Int) <;> cases h2 : bit I (b : Int) <;> rw [h1, h2] at h9 <;> first | exact ⟨rfl, rfl⟩ | cases h9
                have HOK := Lib.hid (okP_mk (f := f) (I := I) (e := e) hIa hbo.1 hbo.2 (by rw [HD.out]; omega))
                clear hIa hJb hbo
                cases ho : bstR f I e a (bstA f I e m a) b with
                | none =>
                  rw [ho] at hx hy hz
                  obtain rfl := hx.trans (show _ = Value.int .i64 0 from rfl)
                  obtain rfl := hy.trans (show _ = Value.int .i64 0 from rfl)
                  obtain rfl := hz.trans (show _ = Value.bool false from rfl)
                  have HS : Hid (bstR f I e a (bstA f I e m a) (b + 1) = some (a, b)) := bstR_yes HOK.out (by rw [ho]; rfl)
                  clear ho hx hy hz
                  go_wp2_with fail
                  refine (inSet_any I a a0 (by omega) i0 (by omega) _).mono ?_; rintro en w1 ⟨rfl, rfl⟩; rw [HIa.out]
                  go_wp2_with fail
                  refine (inSet_any J b b0 (by omega) j0 (by omega) _).mono ?_; rintro en w1 ⟨rfl, rfl⟩; rw [HJb.out]
                  go_wp2_with fail
                  go_roundw
                  case rel => exact ⟨b + 1, by omega, by go_num, by rw [HS.out]; rfl, by rw [HS.out]; rfl, by rw [HS.out]; rfl, by first | rfl | trivial⟩
                  case measure => (simp [intOf]) <;> omega
                | some p =>
                  obtain ⟨x, y⟩ := p
                  have hxy := bstR_lt (f := f) hla (Nat.le_of_lt hlb) ho
                  rw [ho] at hx hy hz
                  obtain rfl := hx.trans (show _ = Value.int .i64 (x : Int) from rfl)
                  obtain rfl := hy.trans (show _ = Value.int .i64 (y : Int) from rfl)
                  obtain rfl := hz.trans (show _ = Value.bool true from rfl)
                  have tx := H.out.top x hxy.1
                  have rx := (H.out.row x y hxy.1 hxy.2.1).1
                  obtain ⟨E, hE⟩ : ∃ E, f x y = E := ⟨_, rfl⟩
                  have HE := Lib.hid hE
                  rw [hE] at rx
                  have x0 : (0 : Int) ≤ (x : Int) := by omega
                  have y0 : (0 : Int) ≤ (y : Int) := by omega
                  have xm : (x : Int) < (m : Int) := by omega
                  have ym : (y : Int) < (m : Int) := by omega
                  clear hE hxy hx hy hz
                  by_cases hDE : D < E
                  · have hd1 : decide (D < E) = true := by simpa using hDE
                    have HS : Hid (bstR f I e a (bstA f I e m a) (b + 1) = some (a, b)) := bstR_yes HOK.out (by rw [ho]; unfold bet; simp only; rw [HD.out, HE.out]; exact hd1)
                    clear ho
                    go_wp2_with fail
                    refine (inSet_any I a a0 (by omega) i0 (by omega) _).mono ?_; rintro en w1 ⟨rfl, rfl⟩; rw [HIa.out]
                    go_wp2_with fail
                    refine (inSet_any J b b0 (by omega) j0 (by omega) _).mono ?_; rintro en w1 ⟨rfl, rfl⟩; rw [HJb.out]
                    go_wp2_with fail
                    go_roundw
                    case rel => exact ⟨b + 1, by omega, by go_num, by rw [HS.out]; rfl, by rw [HS.out]; rfl, by rw [HS.out]; rfl, by first | rfl | trivial⟩
                    case measure => (simp [intOf]) <;> omega
                  · have hd1 : decide (D < E) = false := by simpa using hDE
                    have HS : Hid (bstR f I e a (bstA f I e m a) (b + 1) = some (x, y)) := by show _ = _; rw [bstR_not (by rw [ho]; unfold bet; simp only; rw [HD.out, HE.out]; exact hd1), ho]
                    clear ho
                    go_wp2_with fail
                    refine (inSet_any I a a0 (by omega) i0 (by omega) _).mono ?_; rintro en w1 ⟨rfl, rfl⟩; rw [HIa.out]
                    go_wp2_with fail
                    refine (inSet_any J b b0 (by omega) j0 (by omega) _).mono ?_; rintro en w1 ⟨rfl, rfl⟩; rw [HJb.out]
                    go_wp2_with fail
                    go_roundw
                    case rel => exact ⟨b + 1, by omega, by go_num, by rw [HS.out]; rfl, by rw [HS.out]; rfl, by rw [HS.out]; rfl, by first | rfl | trivial⟩
                    case measure => (simp [intOf]) <;> omega
        · obtain rfl : b = m := by omega
          have HY : Hid (bstR f I e a (bstA f I e b a) b = bstA f I e b (a + 1)) := rfl
          have HX1 := Lib.hid hx
          have HY1 := Lib.hid hy
          have HZ1 := Lib.hid hz
          clear hx hy hz
          go_wp2_with fail
          go_roundw
          case rel => exact ⟨a + 1, by omega, by go_num, by rw [← HY.out]; exact HX1.out, by rw [← HY.out]; exact HY1.out, by rw [← HY.out]; exact HZ1.out, by first | rfl | trivial⟩
          case measure => (simp [intOf]) <;> omega
    · obtain rfl : a = m := by omega
      obtain rfl := HX0.out
      obtain rfl := HY0.out
      obtain rfl := HZ0.out
      go_wp2_with fail
      refine bodyPost_ret (v := .tuple #[.int .i64 (lk1 (bstA f I e a a)), .int .i64 (lk2 (bstA f I e a a)), .bool (lk3 (bstA f I e a a))]) (by simp [results, Tryd.results34, go_sem]) rfl ?_
      exact ⟨rfl, rfl⟩
theorem nearestEnd_none (m lo hi T cT : Nat) (R C : Nat → Nat) (f : Nat → Nat → Int) (e I J : Int) (w : World) (h : TabM w lo hi T m R C f) (hm6 : m ≤ 6) (i0 : 0 ≤ I) (i1 : I < 64) (j0 : 0 ≤ J) (j1 : J < 64) (hJ : ∀ b : Nat, bit J b = (bit e b && !bit I b)) (ho : bstA f I e m m = none) :
    Calls Tryd.prog 34 #[.slice (some ⟨T, 0, none⟩) m cT, .int .i64 I, .int .i64 J] w fun en w' => en = .returned (.tuple #[.int .i64 0, .int .i64 0, .bool false]) ∧ w = w' := by
  have := nearestEnd_any m lo hi T cT R C f e I J w h hm6 i0 i1 j0 j1 hJ
  rw [ho] at this
  exact this
theorem nearestEnd_some (m lo hi T cT : Nat) (R C : Nat → Nat) (f : Nat → Nat → Int) (e I J : Int) (w : World) (h : TabM w lo hi T m R C f) (hm6 : m ≤ 6) (i0 : 0 ≤ I) (i1 : I < 64) (j0 : 0 ≤ J) (j1 : J < 64) (hJ : ∀ b : Nat, bit J b = (bit e b && !bit I b)) {x y : Nat} (ho : bstA f I e m m = some (x, y)) :
    Calls Tryd.prog 34 #[.slice (some ⟨T, 0, none⟩) m cT, .int .i64 I, .int .i64 J] w fun en w' => en = .returned (.tuple #[.int .i64 x, .int .i64 y, .bool true]) ∧ w = w' := by
  have := nearestEnd_any m lo hi T cT R C f e I J w h hm6 i0 i1 j0 j1 hJ
  rw [ho] at this
  exact this
set_option maxRecDepth 100000 in
set_option maxHeartbeats 8000000 in
theorem EndLinks_any (n e : Int) (A : Option Addr) (cap : Nat) (ws : List Wy) (w : World) (hr : RW w w.heap.size A ws) :
    Calls Tryd.prog 9 #[.agg #[.int .i64 n, .slice A ws.length cap], .int .i64 e] w (NewLinks (endLinks n ws e) w) := by
  have HR := Lib.hid hr
  clear hr
  unfold endLinks
  cases hn : netOk n ws && plOk n e
  · have HN := Lib.hid hn
    rw [if_neg (by simp)]
    clear hn
    go_enter Tryd.func9, Tryd.ntmps9
    go_wp2_with fail
    refine (endsOk_any _ _ _ _ _ _ (HR.out.later (by go_grown))).mono ?_; rintro e w1 ⟨rfl, hb1⟩
    rw [HN.out]
    obtain ⟨hc1, hf1⟩ := bcell hb1
    have hz1_0 : w.heap.size < w1.heap.size := by have hq := hb1.size; (try simp at hq); omega
    have HK1 := Lib.hid hb1
    have HB1 := Lib.hid (bstep (B := w.heap.size) (W := w) (by (try have hp := HB0.out); go_grown) (by go_size) hb1); clear hb1
    go_wp2_with fail
    refine bodyPost_ret (v := .tuple #[.slice none 0 0, .bool false]) (by simp [results, Tryd.results9, go_sem]) rfl ?_
    exact ⟨_, _, rfl, HB1.out⟩
  · have HN := Lib.hid hn
    obtain ⟨hn1, hn2⟩ : netOk n ws = true ∧ plOk n e = true := by simpa using hn
    have HNO := Lib.hid hn1
    have hni := netOk_t hn1
    obtain ⟨e0, he1⟩ := plOk_t hn2
    obtain ⟨m, rfl⟩ := Int.eq_ofNat_of_zero_le (show 0 ≤ n by have := hni.lo; omega)
    rw [if_pos rfl, Int.toNat_natCast]
    rw [Int.toNat_natCast] at he1
    have hn6 := hni.hi
    have hn2' := hni.lo
    have hm6 : m ≤ 6 := by omega
    have hp6 := pow_bd (m : Int) 6 (by omega)
    rw [Int.toNat_natCast] at hp6
    have he64 : e < 64 := by omega
    have hst := st_rc hni e0 he1
    have hneg : IntKind.i64.wrap (-e) = -e := IntWalk.i64_in _ ⟨by omega, by omega⟩
    have hste : bits .and .i64 e (-e) = stE e := rfl
    obtain ⟨I0, hI0⟩ : ∃ I, stE e = I := ⟨_, rfl⟩
    rw [hI0] at hst hste
    obtain ⟨-, hst0, hst1, hst2, hst3⟩ := hst
    have hpe : pop e ≤ 6 := by
      have hpa := pop_sub (u := e) (s := allPl m) (fun q hq h => by rw [allPl_bit hq (by omega)]; have := set_sub e0 he1 h; simpa using this)
      rw [pop_allPl (by omega) (by omega)] at hpa
      omega
    have HL : Hid (lnks m ws e = lks (farF ws m) e m 6 I0) := by show _ = _; unfold lnks; rw [hI0]
    have HNG := Lib.hid hneg
    have HST := Lib.hid hste
    clear hn hn1 hn2 hni hI0 hp6 he1 hneg hste
    rw [HL.out]
    go_enter Tryd.func9, Tryd.ntmps9
    go_wp2_with fail
    refine (endsOk_any _ _ _ _ _ _ (HR.out.later (by go_grown))).mono ?_; rintro e w1 ⟨rfl, hb1⟩
    rw [HN.out]
    obtain ⟨hc1, hf1⟩ := bcell hb1
    have hz1_0 : w.heap.size < w1.heap.size := by have hq := hb1.size; (try simp at hq); omega
    have HK1 := Lib.hid hb1
    have HB1 := Lib.hid (bstep (B := w.heap.size) (W := w) (by (try have hp := HB0.out); go_grown) (by go_size) hb1); clear hb1
    go_wp2_with fail
    refine (FarTable_any m A cap ws _ (HR.out.later (by have := HB1.out; go_grown)) HNO.out).mono ?_; rintro en2 w2 ⟨T, hT, rfl, htab, hb2⟩
    have HB2 := Lib.hid (bstep (B := w.heap.size) (W := w) HB1.out (Nat.le_of_lt hz1_0) hb2)
    have hz2 : w.heap.size < w2.heap.size := Nat.lt_of_lt_of_le hz1_0 (by have := hb2.size; simpa using this)
    have HT2 := Lib.hid htab
    have hneg := HNG.out
    have hste := HST.out
    clear hb2 htab hT
    go_wp2_with fail
    clear hneg hste
    go_loopw [7, 8] (fun v i wr => ∃ (Lp : List (Nat × Nat)) (I : Int) (d : Nat) (P Q : Nat → Nat), i = .int .i64 I ∧ 0 ≤ I ∧ I < 2 ^ m ∧ (∀ q, 0 ≤ q → bit I q = true → bit e q = true) ∧ pop e ≤ pop I + d ∧ lks (farF ws m) e m 6 I0 = (lks (farF ws m) e m d I).map (fun L => Lp ++ L) ∧ (Lp.length : Int) + pop I0 = pop I ∧ Below w.heap.size w wr ∧ w2.heap.size ≤ wr.heap.size ∧ TabM wr T (T + 1 + m) T m (fun i => T + 1 + i) (fun _ => m) (farF ws m) ∧ T + 1 + m ≤ w2.heap.size ∧ RowsP wr w2.heap.size 2 Lp.length v P Q (lkF Lp)) (fun _ i _ => (10 - pop (intOf i)).toNat)
    case atStart =>
      refine ⟨[], I0, 6, fun _ => 0, fun _ => 0, rfl, hst0, hst1, hst2, hst3, ?_, by simp, HB2.out, by simp, HT2.out, HT2.out.his, ?_, fun i j h => by simp at h, fun i h => by simp at h, fun i j h => by simp at h, fun i h => by simp at h⟩
      · cases lks (farF ws m) e m 6 I0 with
        | none => rfl
        | some L => simp
      · exact World.ownsRow_nil _ _ _ _
    case round =>
      clear HT2
      obtain ⟨Lp, I, d, P, Q, rfl, i0, i1, hsub, hd, hlk, hlen, hb, hz, htab, hhi, hrows⟩ := hrel
      have HB0 := Lib.hid hb
      have HTB := Lib.hid htab
      have HRP := Lib.hid hrows
      have HLK := Lib.hid hlk
      have HSUB := Lib.hid hsub
      have HI1 := Lib.hid i1
      have i64 : I < 64 := by
        have hp := pow_bd (m : Int) 6 (by omega)
        rw [Int.toNat_natCast] at hp
        omega
      have hpI := pop_bd I
      have hlo' : w.heap.size < wr.heap.size := by omega
      obtain ⟨A1, c1, rfl⟩ := ownForm hrows.own
      clear hb htab hrows hlk hsub i1
      by_cases hIe : I = e
      · subst hIe
        have hfin : lks (farF ws m) I m 6 I0 = some Lp := by rw [HLK.out, lks_end]; simp
        have HFIN := Lib.hid hfin
        clear hfin
        go_wp2_with fail
        refine bodyPost_ret (v := .tuple #[.slice A1 Lp.length c1, .bool true]) (by simp [results, Tryd.results9, go_sem]) rfl ?_
        rw [HFIN.out]
        by_cases hL : Lp = []
        · exact ⟨A1, c1, rfl, .inl hL, HB0.out⟩
        · obtain ⟨T', cT', hv, htab'⟩ := HRP.out.tabR (List.length_pos_iff.2 hL)
          injection hv with hA1 _ hcT
          exact ⟨A1, c1, rfl, .inr ⟨T', P, Q, w2.heap.size, wr.heap.size, hA1, htab', by omega⟩, HB0.out⟩
      · have hne : (I != e) = true := by simpa using hIe
        have hJ : bits .andNot .i64 e I = idiff e I := bits_andNot _ _ e0 (by omega) i0 (by omega)
        have hJ0 := idiff_bd e I e0
        have hJb : ∀ b : Nat, bit (idiff e I) b = (bit e b && !bit I b) := fun b => bit_idiff e I b
        obtain ⟨J, hJJ⟩ : ∃ J, idiff e I = J := ⟨_, rfl⟩
        rw [hJJ] at hJ hJ0 hJb
        have HJb := Lib.hid hJb
        have j0 := hJ0.1
        have j64 : J < 64 := by omega
        clear hJb hJJ hJ0
        cases ho : bstA (farF ws m) I e m m with
        | none =>
          have hfin : lks (farF ws m) e m 6 I0 = none := by
            rw [HLK.out]
            cases d with
            | zero => rw [lks, if_neg hIe]; rfl
            | succ d => rw [lks_none hIe ho]; rfl
          have HFIN := Lib.hid hfin
          have HO := Lib.hid ho
          clear hfin ho
          go_wp2_with fail
          refine (nearestEnd_none m _ _ T m _ _ (farF ws m) e I J _ HTB.out hm6 i0 i64 j0 j64 HJb.out HO.out).mono ?_; rintro en3 w3 ⟨rfl, rfl⟩
          go_wp2_with fail
          refine bodyPost_ret (v := .tuple #[.slice none 0 0, .bool false]) (by simp [results, Tryd.results9, go_sem]) rfl ?_
          rw [HFIN.out]
          exact ⟨_, _, rfl, HB0.out⟩
        | some p =>
          obtain ⟨x, y⟩ := p
          have hbb := bstA_best (f := farF ws m) (I := I) (e := e) (m := m) m
          have hxy : x < m ∧ y < m ∧ okP (farF ws m) I e x y = true := by
            rcases hbb with ⟨h1, _⟩ | ⟨x', y', h1, h2, h3, _⟩
            · rw [ho] at h1; cases h1
            · rw [ho] at h1; injection h1 with h1; injection h1 with q1 q2
              subst q1; subst q2
              exact ⟨h3.1, h3.2, h2⟩
          obtain ⟨hx, hy, hok⟩ := hxy
          obtain ⟨o1, o2, o3, o4⟩ := okP_t hok
          have hy5 : y ≤ 5 := by omega
          have y0 : (0 : Int) ≤ (y : Int) := by omega
          have hpy := pow_bd (y : Int) 5 (by omega)
          rw [Int.toNat_natCast] at hpy
          have hor : bits .or .i64 I (2 ^ y) = ior I (2 ^ y) := bits_or _ _ i0 (by omega) (by omega) (by omega)
          have HOR := Lib.hid hor
          have hpl := pop_place (r := I) (j := (y : Int)) i0 (by omega) y0 (by omega) o3
          rw [Int.toNat_natCast] at hpl
          have HPY : Hid (IntKind.i64.wrap (2 ^ y) = 2 ^ y) := IntWalk.i64_in _ ⟨by omega, by omega⟩
          have HPY2 : Hid (wrap64 (2 ^ y) = 2 ^ y) := IntWalk.wrap64_in _ ⟨by omega, by omega⟩
          have hib := ior_bd I (2 ^ y) m HI1.out (by
            have h8 := Nat.pow_lt_pow_right (a := 2) (by omega) hy
            have q3 : ((2 : Int) ^ y) = ((2 ^ y : Nat) : Int) := by simp
            have q4 : ((2 : Int) ^ m) = ((2 ^ m : Nat) : Int) := by simp
            omega)
          have HSUB2 : Hid (∀ q, 0 ≤ q → bit (ior I (2 ^ y)) q = true → bit e q = true) := fun q hq h => by
            rw [bit_ior, bit_pow y q hq, Bool.or_eq_true, decide_eq_true_eq] at h
            rcases h with h | rfl
            · exact HSUB.out q hq h
            · exact o2
          have hpm := pop_sub HSUB2.out
          obtain ⟨K, hK⟩ : ∃ K, ior I (2 ^ y) = K := ⟨_, rfl⟩
          rw [hK] at HOR hpl hib HSUB2 hpm
          obtain ⟨d', rfl⟩ : ∃ d', d = d' + 1 := ⟨d - 1, by omega⟩
          have HLK2 : Hid (lks (farF ws m) e m 6 I0 = (lks (farF ws m) e m d' K).map (fun L => (Lp ++ [(x, y)]) ++ L)) := by
            show _ = _
            rw [HLK.out, lks_some hIe ho, hK]
            cases lks (farF ws m) e m d' K with
            | none => rfl
            | some L => simp
          have hin0 : intCells (lkF (Lp ++ [(x, y)]) Lp.length) 2 = [.int .i64 x, .int .i64 y] := by
            have h8 : (Lp ++ [(x, y)])[Lp.length]? = some (x, y) := by simp
            have h9 := lkF_at h8
            unfold intCells
            show [Value.int .i64 (lkF (Lp ++ [(x, y)]) Lp.length 0), Value.int .i64 (lkF (Lp ++ [(x, y)]) Lp.length 1)] = _
            rw [h9.1, h9.2]
          have HIN := Lib.hid hin0
          have HO := Lib.hid ho
          have hib0 := hib.1
          have HIB := Lib.hid hib.2
          clear hbb hok o1 o2 o3 o4 hpy hK hin0 ho hor hib
          go_wp2_with fail
          refine (nearestEnd_some m _ _ T m _ _ (farF ws m) e I J _ HTB.out hm6 i0 i64 j0 j64 HJb.out HO.out).mono ?_; rintro en3 w3 ⟨rfl, rfl⟩
          clear hJ
          obtain ⟨j1, hj1, hy0, hy1, hy2⟩ := info_parts intsInfo
          have HWA : Hid (Below wr.heap.size wr (wr.alloc (.cells #[.int .i64 x, .int .i64 y] 3))) := (Below.refl _ _).alloc (Nat.le_refl _) _
          have HNW : Hid (((wr.alloc (.cells #[.int .i64 x, .int .i64 y] 3)).alloc (.cells #[.slice (some ⟨wr.heap.size, 0, none⟩) 2 2] 34)).heap[wr.heap.size + 1]? = some (.cells #[.slice (some ⟨wr.heap.size, 0, none⟩) 2 2] 34)) := by
            show _ = _
            have h9 := heap_alloc_new (wr.alloc (.cells #[.int .i64 x, .int .i64 y] 3)) (.cells #[.slice (some ⟨wr.heap.size, 0, none⟩) 2 2] 34)
            simpa using h9
          have hpw := HPY.out
          have hpw2 := HPY2.out
          have hor := HOR.out
          go_wp2_with (at_builtin; refine wpList_append_lies _ rfl _ _ _ rfl w2.heap.size 34 j1 _ 1 24 Tryd.underlying28 hj1 hy0 hy1 hy2 rfl (by clear hpw hpw2; omega) (.slice A1 Lp.length c1) Lp.length (rowCells 2 P Q Lp.length) rfl ((HRP.out.below HWA.out).own.alloc _) ⟨wr.heap.size + 1, 0, none⟩ 1 1 [.slice (some ⟨wr.heap.size, 0, none⟩) 2 2] rfl rfl (World.news_of_block (cs := #[.slice (some ⟨wr.heap.size, 0, none⟩) 2 2]) (t := 34) (fr := (0, 0)) HNW.out) (by simp [Value.oneCell']) (by clear hpw hpw2; omega) (by clear hpw hpw2; unfold maxLen; omega) (by clear hpw hpw2; omega) (by clear hpw hpw2; simp; omega) (wr.heap.size + 2) (by simp) ?_; intro gg cc w5 hown5 hgrow5 hat5 hlt5)
          clear hpw hpw2 hor
          have hvl := HRP.out.own.lt
          have HM : Hid (RowsP w5 w2.heap.size 2 (Lp.length + 1) (.slice (some ⟨gg, 0, none⟩) (Lp.length + 1) cc) (fun i => if i = Lp.length then wr.heap.size else P i) (fun i => if i = Lp.length then 2 else Q i) (lkF (Lp ++ [(x, y)]))) :=
            RowsP.more (base' := wr.heap.size) (w := wr.alloc (.cells #[.int .i64 x, .int .i64 y] 3)) (w1 := (wr.alloc (.cells #[.int .i64 x, .int .i64 y] 3)).alloc (.cells #[.slice (some ⟨wr.heap.size, 0, none⟩) 2 2] 34)) ((HRP.out.below HWA.out).congr (fun i j hi _ => lkF_snoc hi j)) (by rw [HIN.out]; exact own_two _ _ (Nat.le_refl _) _ _) (by omega) (Nat.le_refl _) (by simp) (fun i hi => (HRP.out.rlo i hi).2) (fun k hk => (hvl k hk).2) ((Below.refl _ _).alloc (Nat.le_refl _) _) hgrow5 (by simpa using hat5) hown5
          have hkeep : ∀ k, k < w2.heap.size → w5.heap[k]? = wr.heap[k]? := fun k hk => ((hgrow5.block k (by simp; omega) (fun e => by have := (hvl k e.symm).1; omega)).trans (Below.heap_alloc _ _ _ (by simp; omega))).trans (Below.heap_alloc _ _ _ (by omega))
          have HB5 : Hid (Below w.heap.size w w5) := by
            have h9 := (HB0.out.alloc (by omega) (.cells #[.int .i64 x, .int .i64 y] 3)).alloc (by simp; omega) (.cells #[.slice (some ⟨wr.heap.size, 0, none⟩) 2 2] 34)
            exact ⟨hgrow5.os.trans h9.os, hgrow5.tape.trans h9.tape, hgrow5.output.trans h9.output, Nat.le_trans h9.size hgrow5.size, fun i hi => (hgrow5.block i (by simp; omega) (fun e => by have := (hvl i e.symm).1; omega)).trans (h9.block i hi)⟩
          have hs5 : wr.heap.size + 2 ≤ w5.heap.size := by have := hgrow5.size; simpa using this
          have HT5 := Lib.hid (HTB.out.keep (w' := w5) (fun k _ hk => hkeep k (by omega)) (by omega))
          have hpw := HPY.out
          have hpw2 := HPY2.out
          have hor := HOR.out
          clear hown5 hgrow5 hat5 hlt5 hvl hkeep
          go_wp2_with fail
          clear hpw hpw2 hor
          go_roundw
          case rel => exact ⟨Lp ++ [(x, y)], K, d', _, _, rfl, hib0, HIB.out, HSUB2.out, by omega, HLK2.out, by rw [List.length_append]; simp only [List.length_cons, List.length_nil]; omega, HB5.out, by omega, HT5.out, hhi, by rw [List.length_append]; exact HM.out⟩
          case measure => (simp [intOf]) <;> omega
set_option maxRecDepth 100000 in
set_option maxHeartbeats 4000000 in
theorem EndTreeCost_any (n e : Int) (A : Option Addr) (cap : Nat) (ws : List Wy) (w : World) (hr : RW w w.heap.size A ws) :
    Calls Tryd.prog 16 #[.agg #[.int .i64 n, .slice A ws.length cap], .int .i64 e] w fun en w' => en = .returned (.int .i64 (endTreeCost n ws e)) ∧ Below w.heap.size w w' := by
  have HR := Lib.hid hr
  clear hr
  cases hO : endLinks n ws e with
  | none =>
    rw [endTreeCost_none hO]
    have HO := Lib.hid hO
    clear hO
    go_enter Tryd.func16, Tryd.ntmps16
    go_wp2_with fail
    refine (EndLinks_any n e A cap ws _ (HR.out.later (by go_grown))).mono ?_
    rw [HO.out]
    rintro en w1 ⟨A1, c1, rfl, hb1⟩
    have HB1 := Lib.hid (bstep (B := w.heap.size) (W := w) (by go_grown) (by go_size) hb1)
    clear hb1
    go_wp2_with fail
    go_ret
    exact ⟨rfl, HB1.out⟩
  | some L =>
    rw [endTreeCost_some hO]
    have HO := Lib.hid hO
    obtain ⟨hn1, hn2, hln⟩ := endLinks_told hO
    have HNO := Lib.hid hn1
    have hni := netOk_t hn1
    obtain ⟨he0, he1⟩ := plOk_t hn2
    obtain ⟨m, rfl⟩ := Int.eq_ofNat_of_zero_le (show 0 ≤ n by have := hni.lo; omega)
    rw [Int.toNat_natCast] at he1 hln ⊢
    obtain ⟨hL6, hall⟩ := lnks_all hni he0 he1 hln
    have hsb := sumL_bd hall
    have HALL := Lib.hid hall
    have HSB := Lib.hid hsb
    clear hO hn1 hn2 hln hni he0 he1 hall hsb
    go_enter Tryd.func16, Tryd.ntmps16
    go_wp2_with fail
    refine (EndLinks_any m e A cap ws _ (HR.out.later (by go_grown))).mono ?_
    rw [HO.out]
    rintro en w1 ⟨A1, c1, rfl, hl, hb1⟩
    have k1 : w1.cell? ⟨w.heap.size, 0, none⟩ = some (.int .i64 m) ∧ w1.cell? ⟨w.heap.size, 1, none⟩ = some (.slice A ws.length cap) := by
      obtain ⟨hc1, hf1⟩ := bcell hb1
      exact ⟨by go_simp, by go_simp⟩
    have hz1 : w.heap.size < w1.heap.size := by have hq := hb1.size; (try simp at hq); omega
    have HB1 := Lib.hid (bstep (B := w.heap.size) (W := w) (by go_grown) (by go_size) hb1)
    clear hb1
    obtain ⟨k10, k11⟩ := k1
    go_wp2_with fail
    refine (FarTable_any m A cap ws _ (HR.out.later HB1.out) HNO.out).mono ?_; rintro en w2 ⟨T, hT, rfl, htab, hb2⟩
    have HB2 := Lib.hid (bstep (B := w.heap.size) (W := w) HB1.out (Nat.le_of_lt hz1) hb2)
    rcases hl with rfl | ⟨TL, RL, CL, lo', hi', rfl, htl, hlo'⟩
    · clear hb2 htab
      go_wp2_with fail
      refine wp_loop_rounds 1 ?_
      rw [rounds_succ]
      go_wp2_with fail
      go_ret
      exact ⟨rfl, HB2.out⟩
    · have HTL := Lib.hid (htl.below hb2)
      have HT := Lib.hid htab
      clear hb2 htab htl
      go_wp2_with fail
      go_loopw [8, 23] (fun c i wr => ∃ (k : Nat) (q : Int), k ≤ L.length ∧ c = .int .i64 q ∧ q = sumL (farF ws m) (L.take k) ∧ i = .int .i64 k ∧ wr.heap = w2.heap ∧ Below w.heap.size w wr) (fun _ i _ => L.length - (intOf i).toNat)
      case atStart => exact ⟨0, 0, Nat.zero_le _, rfl, rfl, rfl, rfl, HB2.out⟩
      case round =>
        obtain ⟨k, q, hk, rfl, hq, rfl, hheap, hb⟩ := hrel
        have HQ := Lib.hid hq
        have HB0 := Lib.hid hb
        have HHP := Lib.hid hheap
        have hqb := HSB.out k hk
        rw [← hq] at hqb
        clear hb hq
        have k0 : (0 : Int) ≤ (k : Int) := by omega
        by_cases hlk : k < L.length
        · have k1 : (k : Int) < (L.length : Int) := by omega
          obtain ⟨p, hp⟩ : ∃ p, L[k]? = some p := ⟨_, List.getElem?_eq_getElem hlk⟩
          obtain ⟨x, y⟩ := p
          obtain ⟨hx, hy, hf0, hf1, -⟩ := HALL.out k (x, y) hp
          have h9 := lkF_at hp
          have cl : ∀ ad, wr.cell? ad = w2.cell? ad := fun ad => by unfold World.cell?; rw [HHP.out]
          have tk : wr.cell? ⟨TL, k, none⟩ = some (.slice (some ⟨RL k, 0, none⟩) 2 (CL k)) := (cl _).trans (HTL.out.top k hlk)
          have g0 : wr.cell? ⟨RL k, 0, none⟩ = some (.int .i64 x) := by rw [cl, (HTL.out.row k 0 hlk (by omega)).1, h9.1]
          have g1 : wr.cell? ⟨RL k, 1, none⟩ = some (.int .i64 y) := by rw [cl, (HTL.out.row k 1 hlk (by omega)).1, h9.2]
          have tx : wr.cell? ⟨T, x, none⟩ = some (.slice (some ⟨T + 1 + x, 0, none⟩) m m) := (cl _).trans (HT.out.top x hx)
          have rx : wr.cell? ⟨T + 1 + x, y, none⟩ = some (.int .i64 (farF ws m x y)) := (cl _).trans (HT.out.row x y hx hy).1
          have HSN : Hid (q + farF ws m x y = sumL (farF ws m) (L.take (k + 1))) := by show _ = _; rw [sumL_take _ hp, ← HQ.out]
          obtain ⟨D, hD⟩ : ∃ D, farF ws m x y = D := ⟨_, rfl⟩
          simp only at hf0 hf1
          rw [hD] at rx hf0 hf1 HSN
          have x0 : (0 : Int) ≤ (x : Int) := by omega
          have y0 : (0 : Int) ≤ (y : Int) := by omega
          have xm : (x : Int) < (m : Int) := by omega
          have ym : (y : Int) < (m : Int) := by omega
          clear cl h9 hp hD
          have wq : IntKind.i64.wrap (q + D) = q + D := IntWalk.i64_in _ ⟨by omega, by omega⟩
          have wq2 : wrap64 (q + D) = q + D := IntWalk.wrap64_in _ ⟨by clear wq; omega, by clear wq; omega⟩
          clear hheap
          go_wp2_with fail
          refine wp_region_held_drew (S := (fun w' => w'.cell? ⟨RL k, 0, none⟩ = some (.int .i64 x) ∧ w'.cell? ⟨RL k, 1, none⟩ = some (.int .i64 y) ∧ w'.cell? ⟨T, x, none⟩ = some (.slice (some ⟨T + 1 + x, 0, none⟩) m m) ∧ w'.cell? ⟨T + 1 + x, y, none⟩ = some (.int .i64 D))) (by kernel_rfl) ?_ (fun hHeld => ?_)
          · exact ⟨g0, g1, tx, rx⟩
          refine wpAnyH_take (i := 0) (v := ?_) rfl (by kernel_rfl) (by kernel_rfl) (by kernel_rfl) (fun _ _ _ h => h) (Or.inl ⟨by rfl, ?_⟩) (by assumption) ?_
          rotate_left
          · (intro w hSw; (try dsimp only at hSw); (try simp only [List.getElem_toArray, List.getElem_cons_succ, List.getElem_cons_zero]); first | (go_simp; done) | (go_simp; with_reducible rfl))
          try simp only [Act.put, List.getElem_toArray, List.getElem_cons_succ, List.getElem_cons_zero, List.setIfInBounds_toArray, List.set_cons_zero, List.set_cons_succ]
          refine wpAnyH_take (i := 1) (v := ?_) rfl (by kernel_rfl) (by kernel_rfl) (by kernel_rfl) (fun _ _ _ h => h) (Or.inl ⟨by rfl, ?_⟩) (by assumption) ?_
          rotate_left
          · (intro w hSw; (try dsimp only at hSw); (try simp only [List.getElem_toArray, List.getElem_cons_succ, List.getElem_cons_zero]); first | (go_simp; done) | (go_simp; with_reducible rfl))
          try simp only [Act.put, List.getElem_toArray, List.getElem_cons_succ, List.getElem_cons_zero, List.setIfInBounds_toArray, List.set_cons_zero, List.set_cons_succ]
          refine wpAnyH_take (i := 2) (v := ?_) rfl (by kernel_rfl) (by kernel_rfl) (by kernel_rfl) (fun _ _ _ h => h) (Or.inl ⟨by rfl, ?_⟩) (by assumption) ?_
          rotate_left
          · (intro w hSw; (try dsimp only at hSw); (try simp only [List.getElem_toArray, List.getElem_cons_succ, List.getElem_cons_zero]); first | (go_simp; done) | (go_simp; with_reducible rfl))
          try simp only [Act.put, List.getElem_toArray, List.getElem_cons_succ, List.getElem_cons_zero, List.setIfInBounds_toArray, List.set_cons_zero, List.set_cons_succ]
          refine wpAnyH_take (i := 3) (v := ?_) rfl (by kernel_rfl) (by kernel_rfl) (by kernel_rfl) (fun _ _ _ h => h) (Or.inl ⟨by rfl, ?_⟩) (by assumption) ?_
          rotate_left
          · (intro w hSw; (try dsimp only at hSw); (try simp only [List.getElem_toArray, List.getElem_cons_succ, List.getElem_cons_zero]); first | (go_simp; done) | (go_simp; with_reducible rfl))
          try simp only [Act.put, List.getElem_toArray, List.getElem_cons_succ, List.getElem_cons_zero, List.setIfInBounds_toArray, List.set_cons_zero, List.set_cons_succ]
          refine wpAnyH_take (i := 4) (v := ?_) rfl (by kernel_rfl) (by kernel_rfl) (by kernel_rfl) (fun _ _ _ h => h) (Or.inl ⟨by rfl, ?_⟩) (by assumption) ?_
          rotate_left
          · (intro w hSw; (try dsimp only at hSw); (try simp only [List.getElem_toArray, List.getElem_cons_succ, List.getElem_cons_zero]); first | (go_simp; done) | (go_simp; with_reducible rfl))
          try simp only [Act.put, List.getElem_toArray, List.getElem_cons_succ, List.getElem_cons_zero, List.setIfInBounds_toArray, List.set_cons_zero, List.set_cons_succ]
          refine wpAnyH_take (i := 5) (v := ?_) rfl (by kernel_rfl) (by kernel_rfl) (by kernel_rfl) (fun _ _ _ h => h) (Or.inl ⟨by rfl, ?_⟩) (by assumption) ?_
          rotate_left
          · (intro w hSw; (try dsimp only at hSw); (try simp only [List.getElem_toArray, List.getElem_cons_succ, List.getElem_cons_zero]); first | (go_simp; done) | (go_simp; with_reducible rfl))
          try simp only [Act.put, List.getElem_toArray, List.getElem_cons_succ, List.getElem_cons_zero, List.setIfInBounds_toArray, List.set_cons_zero, List.set_cons_succ]
          refine wpAnyH_take (i := 6) (v := ?_) rfl (by kernel_rfl) (by kernel_rfl) (by kernel_rfl) (fun _ _ _ h => h) (Or.inl ⟨by rfl, ?_⟩) (by assumption) ?_
          rotate_left
          · (intro w hSw; (try dsimp only at hSw); (try simp only [List.getElem_toArray, List.getElem_cons_succ, List.getElem_cons_zero]); first | (go_simp; done) | (go_simp; with_reducible rfl))
          try simp only [Act.put, List.getElem_toArray, List.getElem_cons_succ, List.getElem_cons_zero, List.setIfInBounds_toArray, List.set_cons_zero, List.set_cons_succ]
          refine wpAnyH_take (i := 7) (v := ?_) rfl (by kernel_rfl) (by kernel_rfl) (by kernel_rfl) (fun _ _ _ h => h) (Or.inl ⟨by rfl, ?_⟩) (by assumption) ?_
          rotate_left
          · (intro w hSw; (try dsimp only at hSw); (try simp only [List.getElem_toArray, List.getElem_cons_succ, List.getElem_cons_zero]); first | (go_simp; done) | (go_simp; with_reducible rfl))
          try simp only [Act.put, List.getElem_toArray, List.getElem_cons_succ, List.getElem_cons_zero, List.setIfInBounds_toArray, List.set_cons_zero, List.set_cons_succ]
          refine wpAnyH_take (i := 8) (v := ?_) rfl (by kernel_rfl) (by kernel_rfl) (by kernel_rfl) (fun _ _ _ h => h) (Or.inl ⟨by rfl, ?_⟩) (by assumption) ?_
          rotate_left
          · (intro w hSw; (try dsimp only at hSw); (try simp only [List.getElem_toArray, List.getElem_cons_succ, List.getElem_cons_zero]); first | (go_simp; done) | (go_simp; with_reducible rfl))
          try simp only [Act.put, List.getElem_toArray, List.getElem_cons_succ, List.getElem_cons_zero, List.setIfInBounds_toArray, List.set_cons_zero, List.set_cons_succ]
          refine wpAnyH_take (i := 9) (v := ?_) rfl (by kernel_rfl) (by kernel_rfl) (by kernel_rfl) (fun _ _ _ h => h) (Or.inl ⟨by rfl, ?_⟩) (by assumption) ?_
          rotate_left
          · (intro w hSw; (try dsimp only at hSw); (try simp only [List.getElem_toArray, List.getElem_cons_succ, List.getElem_cons_zero]); first | (go_simp; done) | (go_simp; with_reducible rfl))
          try simp only [Act.put, List.getElem_toArray, List.getElem_cons_succ, List.getElem_cons_zero, List.setIfInBounds_toArray, List.set_cons_zero, List.set_cons_succ]
          refine wpAnyH_take (i := 10) (v := ?_) rfl (by kernel_rfl) (by kernel_rfl) (by kernel_rfl) (fun _ _ _ h => h) (Or.inl ⟨by rfl, ?_⟩) (by assumption) ?_
          rotate_left
          · (intro w hSw; (try dsimp only at hSw); (try simp only [List.getElem_toArray, List.getElem_cons_succ, List.getElem_cons_zero]); first | (go_simp; done) | (go_simp; with_reducible rfl))
          try simp only [Act.put, List.getElem_toArray, List.getElem_cons_succ, List.getElem_cons_zero, List.setIfInBounds_toArray, List.set_cons_zero, List.set_cons_succ]
          refine wpAnyH_take (i := 11) (v := ?_) rfl (by kernel_rfl) (by kernel_rfl) (by kernel_rfl) (fun _ _ _ h => h) (Or.inl ⟨by rfl, ?_⟩) (by assumption) ?_
          rotate_left
          · (intro w hSw; (try dsimp only at hSw); (try simp only [List.getElem_toArray, List.getElem_cons_succ, List.getElem_cons_zero]); first | (go_simp; done) | (go_simp; with_reducible rfl))
          try simp only [Act.put, List.getElem_toArray, List.getElem_cons_succ, List.getElem_cons_zero, List.setIfInBounds_toArray, List.set_cons_zero, List.set_cons_succ]
          refine wpAnyH_take (i := 12) (v := ?_) rfl (by kernel_rfl) (by kernel_rfl) (by kernel_rfl) (fun _ _ _ h => h) (Or.inl ⟨by rfl, ?_⟩) (by assumption) ?_
          rotate_left
          · (intro w hSw; (try dsimp only at hSw); (try simp only [List.getElem_toArray, List.getElem_cons_succ, List.getElem_cons_zero]); first | (go_simp; done) | (go_simp; with_reducible rfl))
          try simp only [Act.put, List.getElem_toArray, List.getElem_cons_succ, List.getElem_cons_zero, List.setIfInBounds_toArray, List.set_cons_zero, List.set_cons_succ]
          refine wpAnyH_take (i := 13) (v := ?_) rfl (by kernel_rfl) (by kernel_rfl) (by kernel_rfl) (fun _ _ _ h => h) (Or.inl ⟨by rfl, ?_⟩) (by assumption) ?_
          rotate_left
          · (intro w hSw; (try dsimp only at hSw); (try simp only [List.getElem_toArray, List.getElem_cons_succ, List.getElem_cons_zero]); first | (go_simp; done) | (go_simp; with_reducible rfl))
          try simp only [Act.put, List.getElem_toArray, List.getElem_cons_succ, List.getElem_cons_zero, List.setIfInBounds_toArray, List.set_cons_zero, List.set_cons_succ]
          refine wpAnyH_done (by kernel_rfl) ?_ _
          clear wq wq2 tk g0 g1 tx rx
          go_wp2_with fail
          go_roundw
          case rel => exact ⟨k + 1, q + D, by omega, by go_num, HSN.out, by go_num, HHP.out, ⟨HB0.out.os, HB0.out.tape, HB0.out.output, HB0.out.size, HB0.out.block⟩⟩
          case measure => (simp [intOf]) <;> omega
        · obtain rfl : k = L.length := by omega
          have hfin : q = sumL (farF ws m) L := by rw [HQ.out, List.take_length]
          have HFIN := Lib.hid hfin
          clear hheap hfin
          go_wp2_with fail
          go_ret
          exact ⟨ret_int HFIN.out, HB0.out⟩
set_option maxRecDepth 100000 in
set_option maxHeartbeats 4000000 in
theorem EndTreeSet_any (n e : Int) (A : Option Addr) (cap : Nat) (ws : List Wy) (w : World) (hr : RW w w.heap.size A ws) (hT : Tab w) :
    Calls Tryd.prog 19 #[.agg #[.int .i64 n, .slice A ws.length cap], .int .i64 e] w fun en w' => en = .returned (.int .i64 (endTreeSet n ws e)) ∧ Below w.heap.size w w' := by
  have HR := Lib.hid hr
  have HTD := Lib.hid hT
  clear hr hT
  cases hO : endLinks n ws e with
  | none =>
    rw [endTreeSet_none hO]
    have HO := Lib.hid hO
    clear hO
    go_enter Tryd.func19, Tryd.ntmps19
    go_wp2_with fail
    refine (EndLinks_any n e A cap ws _ (HR.out.later (by go_grown))).mono ?_
    rw [HO.out]
    rintro en w1 ⟨A1, c1, rfl, hb1⟩
    have HB1 := Lib.hid (bstep (B := w.heap.size) (W := w) (by go_grown) (by go_size) hb1)
    clear hb1
    go_wp2_with fail
    go_ret
    exact ⟨rfl, HB1.out⟩
  | some L =>
    rw [endTreeSet_some hO]
    have HO := Lib.hid hO
    obtain ⟨hn1, hn2, hln⟩ := endLinks_told hO
    have HNO := Lib.hid hn1
    have hni := netOk_t hn1
    have hl9 := hni.len
    obtain ⟨he0, he1⟩ := plOk_t hn2
    obtain ⟨m, rfl⟩ := Int.eq_ofNat_of_zero_le (show 0 ≤ n by have := hni.lo; omega)
    have hm6 : m ≤ 6 := by have := hni.hi; omega
    rw [Int.toNat_natCast] at he1 hln
    obtain ⟨hL6, hall⟩ := lnks_all hni he0 he1 hln
    have hub := uni_bd hall hni.len
    have hfb := full_bd ws.length hl9
    have HALL := Lib.hid hall
    have HUB : Hid (∀ k : Nat, k ≤ L.length → 0 ≤ uni ws (L.take k) 0 ∧ uni ws (L.take k) 0 ≤ 511) := fun k hk => by
      have := hub k hk
      omega
    clear hO hn1 hn2 hln hni he0 he1 hall hub hfb
    go_enter Tryd.func19, Tryd.ntmps19
    go_wp2_with fail
    refine (EndLinks_any m e A cap ws _ (HR.out.later (by go_grown))).mono ?_
    rw [HO.out]
    rintro en w1 ⟨A1, c1, rfl, hl, hb1⟩
    have k1 : w1.cell? ⟨w.heap.size, 0, none⟩ = some (.int .i64 m) ∧ w1.cell? ⟨w.heap.size, 1, none⟩ = some (.slice A ws.length cap) := by
      obtain ⟨hc1, hf1⟩ := bcell hb1
      exact ⟨by go_simp, by go_simp⟩
    have hz1 : w.heap.size < w1.heap.size := by have hq := hb1.size; (try simp at hq); omega
    have HB1 := Lib.hid (bstep (B := w.heap.size) (W := w) (by go_grown) (by go_size) hb1)
    clear hb1
    obtain ⟨k10, k11⟩ := k1
    rcases hl with rfl | ⟨TL, RL, CL, lo', hi', rfl, htl, hlo'⟩
    · go_wp2_with fail
      refine wp_loop_rounds 1 ?_
      rw [rounds_succ]
      go_wp2_with fail
      go_ret
      exact ⟨rfl, HB1.out⟩
    · have HTL := Lib.hid htl
      clear htl
      go_wp2_with fail
      go_loopw [7, 20] (fun c i wr => ∃ (k : Nat) (q : Int), k ≤ L.length ∧ c = .int .i64 q ∧ q = uni ws (L.take k) 0 ∧ i = .int .i64 k ∧ wr.cell? ⟨w.heap.size, 0, none⟩ = some (.int .i64 m) ∧ wr.cell? ⟨w.heap.size, 1, none⟩ = some (.slice A ws.length cap) ∧ Below w.heap.size w wr ∧ w.heap.size < wr.heap.size ∧ TabR wr lo' hi' TL L.length 2 RL CL (lkF L)) (fun _ i _ => L.length - (intOf i).toNat)
      case atStart => exact ⟨0, 0, Nat.zero_le _, rfl, rfl, rfl, k10, k11, HB1.out, hz1, HTL.out⟩
      case round =>
        clear k10 k11 HTL
        obtain ⟨k, q, hk, rfl, hq, rfl, b0, b1, hb, hz, htl⟩ := hrel
        have HQ := Lib.hid hq
        have HB0 := Lib.hid hb
        have HTL := Lib.hid htl
        have HRR := Lib.hid (HR.out.later hb)
        have HTR := Lib.hid (HTD.out.later hb)
        have hqb := HUB.out k hk
        rw [← hq] at hqb
        clear hb hq htl
        have k0 : (0 : Int) ≤ (k : Int) := by omega
        by_cases hlk : k < L.length
        · have k1 : (k : Int) < (L.length : Int) := by omega
          obtain ⟨p, hp⟩ : ∃ p, L[k]? = some p := ⟨_, List.getElem?_eq_getElem hlk⟩
          obtain ⟨x, y⟩ := p
          obtain ⟨hx, hy, -, -, hbe⟩ := HALL.out k (x, y) hp
          simp only at hx hy hbe
          have h9 := lkF_at hp
          have tk : wr.cell? ⟨TL, k, none⟩ = some (.slice (some ⟨RL k, 0, none⟩) 2 (CL k)) := HTL.out.top k hlk
          have g0 : wr.cell? ⟨RL k, 0, none⟩ = some (.int .i64 x) := by rw [(HTL.out.row k 0 hlk (by omega)).1, h9.1]
          have g1 : wr.cell? ⟨RL k, 1, none⟩ = some (.int .i64 y) := by rw [(HTL.out.row k 1 hlk (by omega)).1, h9.2]
          have hzR : RL k < wr.heap.size := Nat.lt_of_lt_of_le (HTL.out.rlo k hlk).2 HTL.out.his
          have hbb := best_bd ws (both (x : Int) y)
          have hpl := pow_bd (ws.length : Int) 9 (by omega)
          rw [Int.toNat_natCast] at hpl
          have hor2 : bits .or .i64 q (best ws (both (x : Int) y)) = ior q (best ws (both (x : Int) y)) := bits_or _ _ hqb.1 (by omega) hbe (by omega)
          have HSN : Hid (ior q (best ws (both (x : Int) y)) = uni ws (L.take (k + 1)) 0) := by show _ = _; rw [uni_take _ hp, ← HQ.out]
          have hpo : pathOf (m : Int) ws x y = best ws (both (x : Int) y) := by
            unfold pathOf; rw [if_pos]
            rw [HNO.out]; unfold hasPl; simp; omega
          obtain ⟨Z, hZ⟩ : ∃ Z, best ws (both (x : Int) y) = Z := ⟨_, rfl⟩
          rw [hZ] at hor2 HSN hpo
          have HZ := Lib.hid hpo
          obtain ⟨U, hU⟩ : ∃ U, ior q Z = U := ⟨_, rfl⟩
          rw [hU] at hor2 HSN
          clear h9 hp hbb hpl hpo hZ hU hbe hx hy
          go_wp2_with fail
          refine wp_region_held_drew (S := (fun w' => w'.cell? ⟨w.heap.size, 0, none⟩ = some (.int .i64 m) ∧ w'.cell? ⟨w.heap.size, 1, none⟩ = some (.slice A ws.length cap) ∧ w'.cell? ⟨RL k, 0, none⟩ = some (.int .i64 x) ∧ w'.cell? ⟨RL k, 1, none⟩ = some (.int .i64 y))) (by kernel_rfl) ?_ (fun hHeld => ?_)
          · exact ⟨b0, b1, g0, g1⟩
          refine wpAnyH_take (i := 0) (v := ?_) rfl (by kernel_rfl) (by kernel_rfl) (by kernel_rfl) (fun _ _ _ h => h) (Or.inl ⟨by rfl, ?_⟩) (by assumption) ?_
          rotate_left
          · (intro w hSw; (try dsimp only at hSw); (try simp only [List.getElem_toArray, List.getElem_cons_succ, List.getElem_cons_zero]); first | (go_simp; done) | (go_simp; with_reducible rfl))
          try simp only [Act.put, List.getElem_toArray, List.getElem_cons_succ, List.getElem_cons_zero, List.setIfInBounds_toArray, List.set_cons_zero, List.set_cons_succ]
          refine wpAnyH_take (i := 1) (v := ?_) rfl (by kernel_rfl) (by kernel_rfl) (by kernel_rfl) (fun _ _ _ h => h) (Or.inl ⟨by rfl, ?_⟩) (by assumption) ?_
          rotate_left
          · (intro w hSw; (try dsimp only at hSw); (try simp only [List.getElem_toArray, List.getElem_cons_succ, List.getElem_cons_zero]); first | (go_simp; done) | (go_simp; with_reducible rfl))
          try simp only [Act.put, List.getElem_toArray, List.getElem_cons_succ, List.getElem_cons_zero, List.setIfInBounds_toArray, List.set_cons_zero, List.set_cons_succ]
          refine wpAnyH_take (i := 2) (v := ?_) rfl (by kernel_rfl) (by kernel_rfl) (by kernel_rfl) (fun _ _ _ h => h) (Or.inl ⟨by rfl, ?_⟩) (by assumption) ?_
          rotate_left
          · (intro w hSw; (try dsimp only at hSw); (try simp only [List.getElem_toArray, List.getElem_cons_succ, List.getElem_cons_zero]); first | (go_simp; done) | (go_simp; with_reducible rfl))
          try simp only [Act.put, List.getElem_toArray, List.getElem_cons_succ, List.getElem_cons_zero, List.setIfInBounds_toArray, List.set_cons_zero, List.set_cons_succ]
          refine wpAnyH_take (i := 3) (v := ?_) rfl (by kernel_rfl) (by kernel_rfl) (by kernel_rfl) (fun _ _ _ h => h) (Or.inl ⟨by rfl, ?_⟩) (by assumption) ?_
          rotate_left
          · (intro w hSw; (try dsimp only at hSw); (try simp only [List.getElem_toArray, List.getElem_cons_succ, List.getElem_cons_zero]); first | (go_simp; done) | (go_simp; with_reducible rfl))
          try simp only [Act.put, List.getElem_toArray, List.getElem_cons_succ, List.getElem_cons_zero, List.setIfInBounds_toArray, List.set_cons_zero, List.set_cons_succ]
          refine wpAnyH_take (i := 4) (v := ?_) rfl (by kernel_rfl) (by kernel_rfl) (by kernel_rfl) (fun _ _ _ h => h) (Or.inl ⟨by rfl, ?_⟩) (by assumption) ?_
          rotate_left
          · (intro w hSw; (try dsimp only at hSw); (try simp only [List.getElem_toArray, List.getElem_cons_succ, List.getElem_cons_zero]); first | (go_simp; done) | (go_simp; with_reducible rfl))
          try simp only [Act.put, List.getElem_toArray, List.getElem_cons_succ, List.getElem_cons_zero, List.setIfInBounds_toArray, List.set_cons_zero, List.set_cons_succ]
          refine wpAnyH_take (i := 5) (v := ?_) rfl (by kernel_rfl) (by kernel_rfl) (by kernel_rfl) (fun _ _ _ h => h) (Or.inl ⟨by rfl, ?_⟩) (by assumption) ?_
          rotate_left
          · (intro w hSw; (try dsimp only at hSw); (try simp only [List.getElem_toArray, List.getElem_cons_succ, List.getElem_cons_zero]); first | (go_simp; done) | (go_simp; with_reducible rfl))
          try simp only [Act.put, List.getElem_toArray, List.getElem_cons_succ, List.getElem_cons_zero, List.setIfInBounds_toArray, List.set_cons_zero, List.set_cons_succ]
          refine wpAnyH_take (i := 6) (v := ?_) rfl (by kernel_rfl) (by kernel_rfl) (by kernel_rfl) (fun _ _ _ h => h) (Or.inl ⟨by rfl, ?_⟩) (by assumption) ?_
          rotate_left
          · (intro w hSw; (try dsimp only at hSw); (try simp only [List.getElem_toArray, List.getElem_cons_succ, List.getElem_cons_zero]); first | (go_simp; done) | (go_simp; with_reducible rfl))
          try simp only [Act.put, List.getElem_toArray, List.getElem_cons_succ, List.getElem_cons_zero, List.setIfInBounds_toArray, List.set_cons_zero, List.set_cons_succ]
          refine wpAnyH_take (i := 7) (v := ?_) rfl (by kernel_rfl) (by kernel_rfl) (by kernel_rfl) (fun _ _ _ h => h) (Or.inl ⟨by rfl, ?_⟩) (by assumption) ?_
          rotate_left
          · (intro w hSw; (try dsimp only at hSw); (try simp only [List.getElem_toArray, List.getElem_cons_succ, List.getElem_cons_zero]); first | (go_simp; done) | (go_simp; with_reducible rfl))
          try simp only [Act.put, List.getElem_toArray, List.getElem_cons_succ, List.getElem_cons_zero, List.setIfInBounds_toArray, List.set_cons_zero, List.set_cons_succ]
          refine wpAnyH_ready (rs := [8]) (by kernel_rfl) (by simp) ?_
          refine AllReadyH.cons rfl (fun K hK => ?_) AllReadyH.nil
          try simp only [List.getElem_toArray, List.getElem_cons_succ, List.getElem_cons_zero]
          go_simp
          go_at_call 41; refine (PathOf_any m x y A cap ws _ (HRR.out.drewNR _) (HTR.out.drewNR _)).mono ?_; rintro e4 w4 ⟨rfl, hb4⟩; rw [HZ.out]; have g4 : Below wr.heap.size wr w4 := und hb4; have k4 : _ ∧ _ ∧ _ ∧ _ := ⟨(g4.cell (p := ⟨w.heap.size, 0, none⟩) hz).trans b0, (g4.cell (p := ⟨w.heap.size, 1, none⟩) hz).trans b1, (g4.cell (p := ⟨RL k, 0, none⟩) hzR).trans g0, (g4.cell (p := ⟨RL k, 1, none⟩) hzR).trans g1⟩
          refine hK.out _ _ ?_ (fun hHeld => ?_)
          · exact k4
          clear hK K
          try simp only [Act.put, List.getElem_toArray, List.getElem_cons_succ, List.getElem_cons_zero, List.setIfInBounds_toArray, List.set_cons_zero, List.set_cons_succ]
          refine wpAnyH_take (i := 9) (v := ?_) rfl (by kernel_rfl) (by kernel_rfl) (by kernel_rfl) (fun _ _ _ h => h) (Or.inl ⟨by rfl, ?_⟩) (by assumption) ?_
          rotate_left
          · (intro w hSw; (try dsimp only at hSw); (try simp only [List.getElem_toArray, List.getElem_cons_succ, List.getElem_cons_zero]); first | (go_simp; done) | (go_simp; with_reducible rfl))
          try simp only [Act.put, List.getElem_toArray, List.getElem_cons_succ, List.getElem_cons_zero, List.setIfInBounds_toArray, List.set_cons_zero, List.set_cons_succ]
          refine wpAnyH_take (i := 10) (v := ?_) rfl (by kernel_rfl) (by kernel_rfl) (by kernel_rfl) (fun _ _ _ h => h) (Or.inl ⟨by rfl, ?_⟩) (by assumption) ?_
          rotate_left
          · (intro w hSw; (try dsimp only at hSw); (try simp only [List.getElem_toArray, List.getElem_cons_succ, List.getElem_cons_zero]); first | (go_simp; done) | (go_simp; with_reducible rfl))
          try simp only [Act.put, List.getElem_toArray, List.getElem_cons_succ, List.getElem_cons_zero, List.setIfInBounds_toArray, List.set_cons_zero, List.set_cons_succ]
          refine wpAnyH_done (by kernel_rfl) ?_ _
          clear hor2 tk g0 g1
          have HB4 := Lib.hid (bstep (B := w.heap.size) (W := w) HB0.out (Nat.le_of_lt hz) g4)
          have HT4 := Lib.hid (HTL.out.below g4)
          have z4 := Nat.lt_of_lt_of_le hz g4.size
          obtain ⟨k40, k41, -⟩ := k4
          clear g4 hb4
          go_wp2_with fail
          go_roundw
          case rel => exact ⟨k + 1, U, by omega, by go_num, HSN.out, by go_num, k40, k41, ⟨HB4.out.os, HB4.out.tape, HB4.out.output, HB4.out.size, HB4.out.block⟩, z4, HT4.out⟩
          case measure => (simp [intOf]) <;> omega
        · obtain rfl : k = L.length := by omega
          have hfin : q = uni ws L 0 := by rw [HQ.out, List.take_length]
          have HFIN := Lib.hid hfin
          clear hfin
          go_wp2_with fail
          go_ret
          exact ⟨ret_int HFIN.out, HB0.out⟩
end Go.Proofs.YtcpefijmcajebaaDoor
