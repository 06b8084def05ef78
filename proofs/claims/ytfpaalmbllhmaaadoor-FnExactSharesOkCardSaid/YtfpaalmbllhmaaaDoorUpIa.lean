/- The program's ways up: walkTree, UpWays. -/
import Derived.Test.YtfpaalmbllhmaaaDoorUpH
import Derived.Test.YtfpaalmbllhmaaaDoorUpE
import Derived.Test.YtfpaalmbllhmaaaDoorST
import Derived.Test.YtfpaalmbllhmaaaDoorMC
import Derived.Test.YtfpaalmbllhmaaaDoorME
set_option linter.unusedSimpArgs false
set_option linter.unusedVariables false
attribute [local go_sem ↓] Go.wp_at_zero Go.wp_at_succ
namespace Go.Proofs.YtfpaalmbllhmaaaDoor
open Go.ChangeShapes Go.WideShapes Go.ChangeAt Go.RowKit

theorem rowF_at0 {w : World} {lo hi g m : Nat} {f : Nat → Int} (h : RowF w lo hi (some ⟨g, 0, none⟩) m f) {j : Nat} (hj : j < m) : w.cell? ⟨g, j, none⟩ = some (.int .i64 (f j)) ∧ w.frozen? ⟨g, j, none⟩ = false := by
  obtain ⟨b, o, e, _, _, x0, x1⟩ := h.at_ j hj
  injection e with e; injection e with e1 e2; subst e1; subst e2
  rw [Nat.zero_add] at x0 x1
  exact ⟨x0, x1⟩
theorem rowF_put0 {w : World} {lo hi g m k : Nat} {f : Nat → Int} (h : RowF w lo hi (some ⟨g, 0, none⟩) m f) (hk : k < m) (x : Int) : RowF (w.setCell ⟨g, k, none⟩ (.int .i64 x)) lo hi (some ⟨g, 0, none⟩) m (fun j => if j = k then x else f j) := by
  have := h.put hk x
  rwa [Nat.zero_add] at this
theorem Only.keepc {lo hi : Nat} {w w' : World} (h : Only lo hi w w') {b o : Nat} {v : Value} (hb : b < w.heap.size) (hn : b < lo ∨ hi ≤ b) (hc : w.cell? ⟨b, o, none⟩ = some v) : w'.cell? ⟨b, o, none⟩ = some v := (World.cell?_of_block (w := w) (h.block b hb hn)).trans hc
/-- walked from f on: the row holds the ways up of all places that were walked -/
def Walked (ws : List Wy) (t : Int) (m g f : Nat) (F : Nat → Int) (w : World) (e : Ending) (w' : World) : Prop :=
  e = .returned (.tuple #[]) ∧ Only g (g + 1) w w' ∧ ∃ Q : Nat → Bool, Clo ws t f ws.length Q ∧ RowF w' g (g + 1) (some ⟨g, 0, none⟩) m (fun j => if Q j = true then up ws t j else F j)
set_option maxRecDepth 100000 in
set_option maxHeartbeats 4000000 in
theorem walkTree_any (m g cr cap : Nat) (t : Int) (A : Option Addr) (ws : List Wy) (ht : TreeFor (m : Int) ws t) : ∀ (N : Nat) (P : Int) (f : Nat) (F : Nat → Int) (w : World), 64 - P ≤ (N : Int) → 0 ≤ P → P < 2 ^ m → f < m → Path (m : Int) ws t P f → F f = up ws t f → RW w g A ws → RowF w g (g + 1) (some ⟨g, 0, none⟩) m F →
    Calls Tryd.prog 40 #[.agg #[.int .i64 m, .slice A ws.length cap], .int .i64 t, .int .i64 f, .slice (some ⟨g, 0, none⟩) m cr] w (Walked ws t m g f F w) := by
  have hl9 := ht.net.len
  have hn2 := ht.net.lo
  have hn6 := ht.net.hi
  have hm6 : m ≤ 6 := by omega
  have hfb := full_bd ws.length hl9
  have t0 := ht.lo
  have t1 : t ≤ 1048576 := by have := ht.hi; omega
  have h2m : (2 : Int) ^ m ≤ 64 := by
    have h9 := Nat.pow_le_pow_right (n := 2) (by omega) hm6
    have e9 : ((2 : Int) ^ m) = ((2 ^ m : Nat) : Int) := by simp
    omega
  have HT := Lib.hid ht
  clear ht hfb
  intro N
  induction N with
  | zero => intro P f F w hN h0 h1; exfalso; omega
  | succ N ih =>
    intro P f F w hN hP0 hP1 hfm hpath hF hr hrow
    have IH := Lib.hid ih
    have HR := Lib.hid hr
    have HPA := Lib.hid hpath
    have HF := Lib.hid hF
    have hgz : g < w.heap.size := hrow.top
    have f0 : (0 : Int) ≤ (f : Int) := by omega
    have f1 : (f : Int) < (m : Int) := by omega
    have HRO0 := Lib.hid hrow
    clear ih hr hpath hF hrow
    go_enter Tryd.func40, Tryd.ntmps40
    go_wp2_with fail
    go_loopw [14] (fun i wr => ∃ (q : Nat) (Q : Nat → Bool), q ≤ ws.length ∧ i = .int .i64 q ∧ Clo ws t f q Q ∧ wr.cell? ⟨w.heap.size, 0, none⟩ = some (.int .i64 m) ∧ wr.cell? ⟨w.heap.size, 1, none⟩ = some (.slice A ws.length cap) ∧ Only g (g + 1) w wr ∧ w.heap.size < wr.heap.size ∧ RowF wr g (g + 1) (some ⟨g, 0, none⟩) m (fun j => if Q j = true then up ws t j else F j)) (fun i _ => ws.length - (intOf i).toNat)
    case atStart => exact ⟨0, fun j => decide (j = f), Nat.zero_le _, rfl, Clo.start ws t f, by go_simp, by go_simp, Only.of ((Below.refl _ _).alloc (Nat.le_refl _) _), by simp, (rowF_alloc HRO0.out _).congr (fun j _ => by by_cases e : j = f <;> simp [e, HF.out])⟩
    case round =>
      obtain ⟨q, Q, hq, rfl, hclo, b0, b1, ho, hz, hrow⟩ := hrel
      have HCLO := Lib.hid hclo
      have HO := Lib.hid ho
      have HROW := Lib.hid hrow
      have hgz2 : g < wr.heap.size := hrow.top
      have HRW : Hid (RW wr g A ws) := HR.out.below (Below.only_ (Below.refl _ _) (Nat.le_refl _) (Nat.le_of_lt hgz) ho)
      clear hclo ho hrow
      by_cases hlq : q < ws.length
      · obtain ⟨x, hx⟩ : ∃ x, ws[q]? = some x := ⟨_, List.getElem?_eq_getElem hlq⟩
        obtain ⟨b, o, rfl, hB, c0, c1, c2⟩ := HRW.out q x hx
        have hbw : b < wr.heap.size := by omega
        have hxa := HT.out.net.at_ hx
        have HX := Lib.hid hx
        have hq0 : (0 : Int) ≤ (q : Int) := by omega
        have hq1 : (q : Int) < (ws.length : Int) := by omega
        have hq60 : (q : Int) ≤ 60 := by omega
        obtain ⟨r10, r11⟩ := rowF_at0 HROW.out hfm
        rw [if_pos HCLO.out.has] at r10
        obtain ⟨U, hU⟩ : ∃ U, up ws t f = U := ⟨_, rfl⟩
        have HU := Lib.hid hU
        rw [hU] at r10
        have HIS := Lib.hid (fun W => inSet_any t q hq0 hq60 t0 t1 W)
        have HWB := Lib.hid (bit_wayPl HT.out.net hx f)
        have hwb := wayPl_bd HT.out.net hx
        have HWP := Lib.hid (fun W => wayPlaces_any x hxa.1 (by omega) hxa.2.2.1 (by omega) W)
        have HIW := Lib.hid (fun W => inSet_any (wayPl x) f f0 (by omega) hwb.1 (by omega) W)
        clear hx hU
        cases hbt : bit t q
        · have HBT := Lib.hid hbt
          have HS := Lib.hid (HCLO.out.skip (fun y z _ hy _ _ => by rw [hbt] at hy; cases hy))
          clear hbt hwb hxa
          go_wp2_with fail
          refine (HIS.out _).mono ?_; rintro e w1 ⟨rfl, rfl⟩; rw [HBT.out]
          go_wp2_with fail
          go_roundw
          case rel => exact ⟨q + 1, Q, by omega, by go_num, HS.out, (World.cell?_alloc_lt _ _ _ hz).trans b0, (World.cell?_alloc_lt _ _ _ hz).trans b1, HO.out.trans (Only.of ((Below.refl _ _).alloc (Nat.le_refl _) _)), by simp; omega, rowF_alloc HROW.out _⟩
          case measure => (simp [intOf]) <;> omega
        · have HBT := Lib.hid hbt
          by_cases hUq : U = (q : Int)
          · subst hUq
            have HS := Lib.hid (HCLO.out.skip (fun y z _ _ _ hu => hu HU.out))
            clear hbt hwb hxa
            go_wp2_with fail
            refine (HIS.out _).mono ?_; rintro e w1 ⟨rfl, rfl⟩; rw [HBT.out]
            go_wp2_with fail
            go_roundw
            case rel => exact ⟨q + 1, Q, by omega, by go_num, HS.out, (World.cell?_alloc_lt _ _ _ hz).trans b0, (World.cell?_alloc_lt _ _ _ hz).trans b1, HO.out.trans (Only.of ((Below.refl _ _).alloc (Nat.le_refl _) _)), by simp; omega, rowF_alloc HROW.out _⟩
            case measure => (simp [intOf]) <;> omega
          · have d1 : ((q : Int) == U) = false := by rw [beq_eq_false_iff_ne]; exact fun e => hUq e.symm
            have HUQ := Lib.hid (show up ws t f ≠ q by rw [HU.out]; exact hUq)
            have hzw0 : w.heap.size < wr.heap.size + 1 := by omega
            by_cases htouch : (f : Int) = x.a ∨ (f : Int) = x.b
            · have HTO : Hid (bit (wayPl x) (f : Int) = true) := by show _ = _; rw [HWB.out]; rcases htouch with h | h <;> simp [h]
              obtain ⟨z, hzz, hends⟩ : ∃ z : Nat, x.a + x.b - (f : Int) = (z : Int) ∧ Ends x (f : Int) (z : Int) := by
                refine ⟨(x.a + x.b - (f : Int)).toNat, by omega, ?_⟩
                unfold Ends
                omega
              have hzb := hends.bd HT.out.net HX.out
              have hzm : z < m := by omega
              have z0 : (0 : Int) ≤ (z : Int) := by omega
              have z1 : (z : Int) < (m : Int) := by omega
              have hzf : z ≠ f := by omega
              have HE := Lib.hid hends
              obtain ⟨hup, hzP⟩ := HPA.out.ups HT.out HX.out hbt hends HUQ.out
              have HUZ : Hid (up ws t z = q) := up_is HT.out.net (by omega) (HT.out.all z (by omega) (by omega)) hup
              have HPZ := Lib.hid (HPA.out.step HT.out HX.out hbt hends HUQ.out)
              have hlt2 := now_more hP0 hzP
              have hlt3 : ior P (2 ^ z) < 2 ^ m := by
                have := ior_lt (k := m) hP1 (shl_lt (a := (z : Int)) (n := (m : Int)) z0 z1)
                rwa [Int.toNat_natCast] at this
              have HW1 : Hid (IntKind.i64.wrap (x.a + x.b) = x.a + x.b) := IntWalk.i64_in _ ⟨by omega, by omega⟩
              have HW2 : Hid (wrap64 (x.a + x.b) = x.a + x.b) := IntWalk.wrap64_in _ ⟨by omega, by omega⟩
              have HW3 : Hid (IntKind.i64.wrap (x.a + x.b - (f : Int)) = (z : Int)) := by show _ = _; rw [← hzz]; exact IntWalk.i64_in _ ⟨by omega, by omega⟩
              have HW4 : Hid (wrap64 (x.a + x.b - (f : Int)) = (z : Int)) := by show _ = _; rw [← hzz]; exact IntWalk.wrap64_in _ ⟨by omega, by omega⟩
              obtain ⟨P', hP'⟩ : ∃ P', ior P (2 ^ z) = P' := ⟨_, rfl⟩
              rw [hP'] at HPZ hlt2 hlt3
              clear hbt hwb hxa hends hup hzP hzz hP' htouch HWB
              go_wp2_with fail
              refine (HIS.out _).mono ?_; rintro e w1 ⟨rfl, rfl⟩; rw [HBT.out]
              go_wp2_with fail
              refine (HWP.out _).mono ?_; rintro e w2 ⟨rfl, hb2⟩
              have HK2 := Lib.hid hb2
              have hs2 : wr.heap.size + 1 ≤ w2.heap.size := by have := hb2.size; simpa using this
              clear hb2
              go_wp2_with fail
              refine (HIW.out _).mono ?_; rintro e w3 ⟨rfl, rfl⟩; rw [HTO.out]
              have k0 : w2.cell? ⟨w.heap.size, 0, none⟩ = some (.int .i64 m) := (HK2.out.cell (p := ⟨w.heap.size, 0, none⟩) (by simp; omega)).trans ((World.cell?_alloc_lt _ _ _ hz).trans b0)
              have k1 : w2.cell? ⟨w.heap.size, 1, none⟩ = some (.slice (some ⟨b, o, none⟩) ws.length cap) := (HK2.out.cell (p := ⟨w.heap.size, 1, none⟩) (by simp; omega)).trans ((World.cell?_alloc_lt _ _ _ hz).trans b1)
              have y0 : w2.cell? ⟨wr.heap.size, 0, none⟩ = some (.int .i64 x.a) := (HK2.out.cell (p := ⟨wr.heap.size, 0, none⟩) (by simp)).trans (cell_of_row _ _ 0 _ _ (0, 0) (heap_alloc_new wr _))
              have y1 : w2.cell? ⟨wr.heap.size, 1, none⟩ = some (.int .i64 x.b) := (HK2.out.cell (p := ⟨wr.heap.size, 1, none⟩) (by simp)).trans (cell_of_row _ _ 1 _ _ (0, 0) (heap_alloc_new wr _))
              have HROW2 := Lib.hid ((rowF_alloc HROW.out (.cells #[.int .i64 x.a, .int .i64 x.b, .int .i64 x.c] 33)).below HK2.out)
              obtain ⟨s0, s1⟩ := rowF_at0 HROW2.out hzm
              obtain ⟨V, hV⟩ : ∃ V, (if Q z = true then up ws t z else F z) = V := ⟨_, rfl⟩
              rw [hV] at s0
              have HV := Lib.hid hV
              have HO2 : Hid (Only g (g + 1) w (w2.setCell ⟨g, z, none⟩ (.int .i64 q))) := ((HO.out.trans (Only.of ((Below.refl _ _).alloc (Nat.le_refl _) _))).trans (Only.of HK2.out)).setCell (p := ⟨g, z, none⟩) ⟨Nat.le_refl _, Nat.lt_succ_self _⟩ _
              have HBG : Hid (Below g wr (w2.setCell ⟨g, z, none⟩ (.int .i64 q))) := (bstep ((Below.refl g wr).alloc (Nat.le_of_lt hgz2) _) (by simp; omega) HK2.out).setCell (p := ⟨g, z, none⟩) (by show g ≤ g; omega) _
              have HRO3 := Lib.hid (rowF_put0 HROW2.out hzm (q : Int))
              have hw1 := HW1.out
              have hw2 := HW2.out
              have hw3 := HW3.out
              have hw4 := HW4.out
              have q0 : (w2.setCell ⟨g, z, none⟩ (.int .i64 q)).cell? ⟨w.heap.size, 0, none⟩ = some (.int .i64 m) := (setc_keep (by omega)).trans k0
              have q1 : (w2.setCell ⟨g, z, none⟩ (.int .i64 q)).cell? ⟨w.heap.size, 1, none⟩ = some (.slice (some ⟨b, o, none⟩) ws.length cap) := (setc_keep (by omega)).trans k1
              clear hV
              go_wp2_with fail
              clear hw1 hw2 hw3 hw4
              refine (IH.out P' z _ (w2.setCell ⟨g, z, none⟩ (.int .i64 q)) (by omega) (by omega) hlt3 hzm HPZ.out (by show (if z = z then (q : Int) else _) = _; rw [if_pos rfl]; exact HUZ.out.symm) (HRW.out.below HBG.out) HRO3.out).mono ?_; rintro e w4 ⟨rfl, ho4, Q2, hclo2, hrow4⟩
              have HO4 := Lib.hid ho4
              have HC4 := Lib.hid hclo2
              have HR4 := Lib.hid hrow4
              have hs4 : w2.heap.size ≤ w4.heap.size := by have := ho4.size; simpa [World.setCell] using this
              have x0 := ho4.keepc (b := w.heap.size) (by simp [World.setCell]; omega) (.inr (by omega)) q0
              have x1 := ho4.keepc (b := w.heap.size) (by simp [World.setCell]; omega) (.inr (by omega)) q1
              clear ho4 hclo2 hrow4 q0 q1 k0 k1 y0 y1 s0 s1
              go_wp2_with fail
              go_roundw
              case rel =>
                refine ⟨q + 1, fun j => Q j || Q2 j, by omega, by go_num, HCLO.out.step HT.out.net HX.out HE.out HUZ.out HC4.out, x0, x1, HO2.out.trans HO4.out, by omega, HR4.out.congr (fun j _ => ?_)⟩
                have h2 := HC4.out.has
                have h3 := HUZ.out
                by_cases e2 : Q2 j = true
                · simp [e2]
                · have e3 : j ≠ z := fun e => e2 (by rw [e]; exact h2)
                  simp [e2, e3]
              case measure => (simp [intOf]) <;> omega
            · have HTO : Hid (bit (wayPl x) (f : Int) = false) := by show _ = _; rw [HWB.out]; simp; omega
              have HS := Lib.hid (HCLO.out.skip (fun y z hy _ he _ => by
                have h9 := HX.out.symm.trans hy
                obtain rfl := Option.some.inj h9
                apply htouch
                rcases he with ⟨h, _⟩ | ⟨h, _⟩
                · exact .inl h
                · exact .inr h))
              clear hbt hwb hxa htouch HWB
              go_wp2_with fail
              refine (HIS.out _).mono ?_; rintro e w1 ⟨rfl, rfl⟩; rw [HBT.out]
              go_wp2_with fail
              refine (HWP.out _).mono ?_; rintro e w2 ⟨rfl, hb2⟩
              have HK2 := Lib.hid hb2
              have hs2 : wr.heap.size + 1 ≤ w2.heap.size := by have := hb2.size; simpa using this
              clear hb2
              go_wp2_with fail
              refine (HIW.out _).mono ?_; rintro e w3 ⟨rfl, rfl⟩; rw [HTO.out]
              have k0 : w2.cell? ⟨w.heap.size, 0, none⟩ = some (.int .i64 m) := (HK2.out.cell (p := ⟨w.heap.size, 0, none⟩) (by simp; omega)).trans ((World.cell?_alloc_lt _ _ _ hz).trans b0)
              have k1 : w2.cell? ⟨w.heap.size, 1, none⟩ = some (.slice (some ⟨b, o, none⟩) ws.length cap) := (HK2.out.cell (p := ⟨w.heap.size, 1, none⟩) (by simp; omega)).trans ((World.cell?_alloc_lt _ _ _ hz).trans b1)
              have HROW2 := Lib.hid ((rowF_alloc HROW.out (.cells #[.int .i64 x.a, .int .i64 x.b, .int .i64 x.c] 33)).below HK2.out)
              go_wp2_with fail
              go_roundw
              case rel => exact ⟨q + 1, Q, by omega, by go_num, HS.out, k0, k1, (HO.out.trans (Only.of ((Below.refl _ _).alloc (Nat.le_refl _) _))).trans (Only.of HK2.out), by omega, HROW2.out⟩
              case measure => (simp [intOf]) <;> omega
      · obtain rfl : q = ws.length := by omega
        go_wp2_with fail
        go_end0
        exact ⟨rfl, HO.out, Q, HCLO.out, HROW.out⟩
set_option maxRecDepth 100000 in
set_option maxHeartbeats 4000000 in
theorem UpWays_any (n : Int) (A : Option Addr) (cap : Nat) (ws : List Wy) (w : World) (hr : RW w w.heap.size A ws) (hT : Tab w) :
    Calls Tryd.prog 13 #[.agg #[.int .i64 n, .slice A ws.length cap]] w (NewInts (upWays n ws) w) := by
  have HR := Lib.hid hr
  have HTT := Lib.hid hT
  clear hr hT
  unfold upWays
  by_cases h : spanTreeOf n ws < 0
  · rw [if_pos h]
    obtain ⟨tr, htr⟩ : ∃ tr, spanTreeOf n ws = tr := ⟨_, rfl⟩
    have HT := Lib.hid htr
    rw [htr] at h
    clear htr
    go_enter Tryd.func13, Tryd.ntmps13
    go_wp2_with fail
    refine (SpanTree_any _ _ _ _ _ (HR.out.later (by go_grown)) (HTT.out.later (by go_grown))).mono ?_; rintro e w1 ⟨rfl, hb1⟩
    rw [HT.out]
    obtain ⟨hc1, hf1⟩ := bcell hb1
    have hz1_0 : w.heap.size < w1.heap.size := by have hq := hb1.size; (try simp at hq); omega
    have HK1 := Lib.hid hb1
    have HB1 := Lib.hid (bstep (B := w.heap.size) (W := w) (by (try have hp := HB0.out); go_grown) (by go_size) hb1); clear hb1
    go_wp2_with fail
    go_ret
    exact newInts_nil rfl HB1.out
  · rw [if_neg h]
    obtain ⟨ht, hno⟩ := treeFor (n := n) (ws := ws) (by omega)
    obtain ⟨m, rfl⟩ := Int.eq_ofNat_of_zero_le (show 0 ≤ n by have := ht.net.lo; omega)
    rw [Int.toNat_natCast]
    obtain ⟨tr, htr⟩ : ∃ tr, spanTreeOf (m : Int) ws = tr := ⟨_, rfl⟩
    have HT := Lib.hid htr
    rw [htr] at h ht ⊢
    have HTF := Lib.hid ht
    have hn2 := ht.net.lo
    have hn6 := ht.net.hi
    have hm6 : m ≤ 6 := by omega
    have hm0 : (0 : Int) < (m : Int) := by omega
    have h12 : (1 : Int) < 2 ^ m := by have := one_lt ht.net; rwa [Int.toNat_natCast] at this
    have HLE := Lib.hid (upRow_len ws tr m)
    have HLA : Hid (∀ j, j < m → (upRow ws tr m).getD j 0 = up ws tr j) := fun j hj => upRow_at ws tr m hj
    obtain ⟨L, hL⟩ : ∃ L, upRow ws tr m = L := ⟨_, rfl⟩
    rw [hL] at HLE HLA ⊢
    have hmk := fun W => mkInts' W m hm6
    have hrep : (Array.replicate m (Value.int .i64 0))[0]? = some (.int .i64 0) := by rw [Array.getElem?_replicate, if_pos (by omega)]
    clear htr ht hno hL
    go_enter Tryd.func13, Tryd.ntmps13
    go_wp2_with fail
    refine (SpanTree_any _ _ _ _ _ (HR.out.later (by go_grown)) (HTT.out.later (by go_grown))).mono ?_; rintro e w1 ⟨rfl, hb1⟩
    rw [HT.out]
    obtain ⟨hc1, hf1⟩ := bcell hb1
    have hz1_0 : w.heap.size < w1.heap.size := by have hq := hb1.size; (try simp at hq); omega
    have HK1 := Lib.hid hb1
    have HB1 := Lib.hid (bstep (B := w.heap.size) (W := w) (by (try have hp := HB0.out); go_grown) (by go_size) hb1); clear hb1
    have k1 : w1.cell? ⟨w.heap.size, 0, none⟩ = some (.int .i64 m) ∧ w1.cell? ⟨w.heap.size, 1, none⟩ = some (.slice A ws.length cap) := ⟨by go_simp, by go_simp⟩
    clear hc1 hf1
    obtain ⟨b0, b1⟩ := k1
    go_wp2_with fail
    clear hmk
    have HN0 := Lib.hid (new_rowF w1 m 3)
    obtain ⟨s0, s1⟩ := rowF_at0 HN0.out (j := 0) (by omega)
    have HN1 := Lib.hid (rowF_put0 HN0.out (k := 0) (by omega) (-1))
    have HBW : Hid (Below w1.heap.size w1 ((w1.alloc (.cells (Array.replicate m (.int .i64 0)) 3)).setCell ⟨w1.heap.size, 0, none⟩ (.int .i64 (-1)))) := ((Below.refl _ _).alloc (Nat.le_refl _) _).setCell (p := ⟨w1.heap.size, 0, none⟩) (Nat.le_refl _) _
    have HB2 : Hid (Below w.heap.size w ((w1.alloc (.cells (Array.replicate m (.int .i64 0)) 3)).setCell ⟨w1.heap.size, 0, none⟩ (.int .i64 (-1)))) := bstep HB1.out (Nat.le_of_lt hz1_0) HBW.out
    have HRW : Hid (RW ((w1.alloc (.cells (Array.replicate m (.int .i64 0)) 3)).setCell ⟨w1.heap.size, 0, none⟩ (.int .i64 (-1))) w1.heap.size A ws) := ((HR.out.below HB1.out).more (Nat.le_of_lt hz1_0)).below HBW.out
    have hm64 : (64 : Int) - 1 ≤ ((64 : Nat) : Int) := by omega
    obtain ⟨W2, hW2⟩ : ∃ W2, ((w1.alloc (.cells (Array.replicate m (.int .i64 0)) 3)).setCell ⟨w1.heap.size, 0, none⟩ (.int .i64 (-1))) = W2 := ⟨_, rfl⟩
    have hW3 : w1.alloc (.cells ((Array.replicate m (.int .i64 0)).setIfInBounds 0 (.int .i64 (-1))) 3) = W2 := by rw [← hW2, World.setCell_alloc_new]
    have HW3 := Lib.hid hW3
    rw [hW2] at HN1 HBW HB2 HRW
    have HWALK : Hid (Calls Tryd.prog 40 #[.agg #[.int .i64 m, .slice A ws.length cap], .int .i64 tr, .int .i64 0, .slice (some ⟨w1.heap.size, 0, none⟩) m m] W2 (Walked ws tr m w1.heap.size 0 (fun j => if j = 0 then -1 else 0) W2)) :=
      walkTree_any m w1.heap.size m cap tr A ws HTF.out 64 1 0 _ _ hm64 (by omega) h12 (by omega) (Path.start HTF.out.net tr) (by
        show (if (0 : Nat) = 0 then (-1 : Int) else 0) = up ws tr ((0 : Nat) : Int)
        rw [if_pos rfl]; exact (up_src HTF.out.net tr).symm) HRW.out HN1.out
    clear hW2 hW3
    rw [HW3.out]
    refine HWALK.out.mono ?_
    rintro e w2 ⟨rfl, ho2, Q, hclo, hrow⟩
    have HB3 := Lib.hid (Below.only_ HB2.out (Nat.le_of_lt hz1_0) HB2.out.size ho2)
    have HEND : Hid (RowF w2 w1.heap.size (w1.heap.size + 1) (some ⟨w1.heap.size, 0, none⟩) m (fun j => L.getD j 0)) := hrow.congr (fun j hj => by rw [if_pos (hclo.all HTF.out (by omega)), HLA.out j hj])
    clear ho2 hclo hrow
    go_wp2_with fail
    go_ret
    exact ⟨some ⟨w1.heap.size, 0, none⟩, m, by rw [HLE.out] <;> rfl, by rw [HLE.out]; exact (HEND.out.wider (Nat.le_of_lt hz1_0)).upto HEND.out.top, HB3.out⟩
end Go.Proofs.YtfpaalmbllhmaaaDoor
