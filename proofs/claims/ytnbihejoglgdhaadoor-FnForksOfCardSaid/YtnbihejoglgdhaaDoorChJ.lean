/- DegreeRow and ForksOf of the program. -/
import Derived.Test.YtnbihejoglgdhaaDoorChC
import Derived.Test.YtnbihejoglgdhaaDoorChD
import Derived.Test.YtnbihejoglgdhaaDoorMC
import Derived.Test.YtnbihejoglgdhaaDoorMD
set_option linter.unusedSimpArgs false
set_option linter.unusedVariables false
namespace Go.Proofs.YtnbihejoglgdhaaDoor
open Go.ChangeShapes Go.WideShapes Go.ChangeAt Go.RowKit

theorem RowF.alloc {w : World} {lo hi : Nat} {A : Option Addr} {m : Nat} {f : Nat → Int} (h : RowF w lo hi A m f) (o : Obj) : RowF (w.alloc o) lo hi A m f := h.below ((Below.refl _ _).alloc (Nat.le_refl _) o)
set_option maxRecDepth 100000 in
set_option maxHeartbeats 4000000 in
theorem DegreeRow_any (n s : Int) (A : Option Addr) (cap : Nat) (ws : List Wy) (w : World) (hr : RW w w.heap.size A ws) :
    Calls Tryd.prog 58 #[.agg #[.int .i64 n, .slice A ws.length cap], .int .i64 s] w (NewDeg n ws s w) := by
  have HR := Lib.hid hr
  clear hr
  cases hn : setOk n ws s
  · have HN := Lib.hid hn
    have HL : Hid (degLen n ws s = 0) := by show _ = _; unfold degLen; rw [hn]; simp
    clear hn
    go_enter Tryd.func58, Tryd.ntmps58
    go_wp2_with fail
    refine (waysOk_any _ _ _ _ _ _ (HR.out.later (by go_grown))).mono ?_; rintro e w1 ⟨rfl, hb1⟩
    rw [HN.out]
    obtain ⟨hc1, hf1⟩ := bcell hb1
    have hz1_0 : w.heap.size < w1.heap.size := by have hq := hb1.size; (try simp at hq); omega
    have HK1 := Lib.hid hb1
    have HB1 := Lib.hid (bstep (B := w.heap.size) (W := w) (by (try have hp := HB0.out); go_grown) (by go_size) hb1); clear hb1
    go_wp2_with fail
    go_ret
    exact newDeg_none HL.out rfl HB1.out
  · have HN := Lib.hid hn
    obtain ⟨hnet, hs0, hs1, hs2⟩ := setOk_t hn
    have HS := Lib.hid hnet
    have hl9 := hnet.len
    have hn2 := hnet.lo
    have hn6 := hnet.hi
    obtain ⟨m, rfl⟩ := Int.eq_ofNat_of_zero_le (show 0 ≤ n by omega)
    have hm6 : m ≤ 6 := by omega
    have HL : degLen (m : Int) ws s = m := by unfold degLen; rw [hn]; simp
    have hmk := fun W => mkInts' W m hm6
    unfold NewDeg
    rw [HL]
    clear hn hnet HL
    go_enter Tryd.func58, Tryd.ntmps58
    go_wp2_with fail
    refine (waysOk_any _ _ _ _ _ _ (HR.out.later (by go_grown))).mono ?_; rintro e w1 ⟨rfl, hb1⟩
    rw [HN.out]
    obtain ⟨hc1, hf1⟩ := bcell hb1
    have hz1_0 : w.heap.size < w1.heap.size := by have hq := hb1.size; (try simp at hq); omega
    have HK1 := Lib.hid hb1
    have HB1 := Lib.hid (bstep (B := w.heap.size) (W := w) (by (try have hp := HB0.out); go_grown) (by go_size) hb1); clear hb1
    have k1 : w1.cell? ⟨w.heap.size, 0, none⟩ = some (.int .i64 m) ∧ w1.cell? ⟨w.heap.size, 1, none⟩ = some (.slice A ws.length cap) := ⟨by go_simp, by go_simp⟩
    clear hc1 hf1
    obtain ⟨b0, b1⟩ := k1
    go_wp2_with fail
    clear hmk
    obtain ⟨T, hT⟩ : ∃ T, w1.heap.size = T := ⟨_, rfl⟩
    have HTT := Lib.hid hT
    have c0' : (w1.alloc (.cells (Array.replicate m (.int .i64 0)) 3)).cell? ⟨w.heap.size, 0, none⟩ = some (.int .i64 m) := (World.cell?_alloc_lt _ _ _ hz1_0).trans b0
    have c1' : (w1.alloc (.cells (Array.replicate m (.int .i64 0)) 3)).cell? ⟨w.heap.size, 1, none⟩ = some (.slice A ws.length cap) := (World.cell?_alloc_lt _ _ _ hz1_0).trans b1
    have HN1 := Lib.hid (show RowF (w1.alloc (.cells (Array.replicate m (.int .i64 0)) 3)) T (T + 1) (some ⟨T, 0, none⟩) m (fun j => dgTo ws s j 0) by
      have h := (new_rowF w1 m 3).congr (g := fun j => dgTo ws s j 0) (fun j _ => rfl)
      rw [hT] at h; exact h)
    have HB2 := Lib.hid (HB1.out.alloc (Nat.le_of_lt hz1_0) (.cells (Array.replicate m (.int .i64 0)) 3))
    rw [hT] at hz1_0 ⊢
    clear hT
    go_wp2_with fail
    go_loopw [18] (fun i wr => ∃ k : Nat, k ≤ ws.length ∧ i = .int .i64 k ∧ Below w.heap.size w wr ∧ RowF wr T (T + 1) (some ⟨T, 0, none⟩) m (fun j => dgTo ws s j k)) (fun i _ => ws.length - (intOf i).toNat)
    case atStart => exact ⟨0, Nat.zero_le _, rfl, HB2.out, HN1.out⟩
    case round =>
      clear b0 b1 c0' c1'
      obtain ⟨k, hk, rfl, hb, hrow⟩ := hrel
      have htop : T < wr.heap.size := hrow.top
      have hz : w.heap.size < wr.heap.size := by omega
      by_cases hlt : k < ws.length
      · obtain ⟨x, hx⟩ : ∃ x, ws[k]? = some x := ⟨_, List.getElem?_eq_getElem hlt⟩
        obtain ⟨b, o, rfl, hB, c0, c1, c2⟩ := HR.out.below hb k x hx
        have HX := Lib.hid hx
        have hxa := HS.out.at_ hx
        obtain ⟨ia, hia⟩ : ∃ ia : Nat, x.a = ia := ⟨x.a.toNat, by omega⟩
        obtain ⟨ib, hib⟩ : ∃ ib : Nat, x.b = ib := ⟨x.b.toNat, by omega⟩
        have hiam : ia < m := by omega
        have hibm : ib < m := by omega
        have hne : ia ≠ ib := by omega
        have ha0 : (0 : Int) ≤ (ia : Int) := by omega
        have hb0 : (0 : Int) ≤ (ib : Int) := by omega
        have ha1 : (ia : Int) < (m : Int) := by omega
        have hb1 : (ib : Int) < (m : Int) := by omega
        rw [hia] at c0
        rw [hib] at c1
        have HIA := Lib.hid hia
        have HIB := Lib.hid hib
        have HNE := Lib.hid hne
        have hk0 : (0 : Int) ≤ (k : Int) := by omega
        have hk1 : (k : Int) < (ws.length : Int) := by omega
        have hk60 : (k : Int) ≤ 60 := by omega
        have HB0 := Lib.hid hb
        have HROW := Lib.hid hrow
        have HIS := Lib.hid (fun W => inSet_any s k hk0 hk60 hs0 (by omega) W)
        clear hx hxa hia hib hb hrow hne
        cases hbit : bit s k
        · have HBT := Lib.hid hbit
          clear hbit
          go_wp2_with fail
          refine (HIS.out _).mono ?_; rintro e w' ⟨rfl, rfl⟩; rw [HBT.out]
          go_wp2_with fail
          go_roundw
          case rel => exact ⟨k + 1, by omega, by go_num, HB0.out.alloc (Nat.le_of_lt hz) _, (HROW.out.congr (fun j _ => (dgTo_no HX.out (fun h => by rw [HBT.out] at h; cases h.1)).symm)).alloc _⟩
          case measure => simp [intOf]; omega
        · have HBT := Lib.hid hbit
          clear hbit
          obtain ⟨D1, hD1⟩ : ∃ D, dgTo ws s ia k = D := ⟨_, rfl⟩
          obtain ⟨D2, hD2⟩ : ∃ D, dgTo ws s ib k = D := ⟨_, rfl⟩
          have hdb1 := dgTo_bd ws s ia k
          have hdb2 := dgTo_bd ws s ib k
          rw [hD1] at hdb1
          rw [hD2] at hdb2
          have HD1 := Lib.hid hD1
          have HD2 := Lib.hid hD2
          have r1 : wr.cell? ⟨T, ia, none⟩ = some (.int .i64 D1) ∧ wr.frozen? ⟨T, ia, none⟩ = false := by
            obtain ⟨bq, oq, hq, _, _, x0, x1⟩ := HROW.out.at_ ia hiam
            injection hq with hq; injection hq with hq1 hq2; subst hq1; subst hq2
            rw [Nat.zero_add] at x0 x1
            exact ⟨x0.trans (by rw [HD1.out]), x1⟩
          have r2 : wr.cell? ⟨T, ib, none⟩ = some (.int .i64 D2) ∧ wr.frozen? ⟨T, ib, none⟩ = false := by
            obtain ⟨bq, oq, hq, _, _, x0, x1⟩ := HROW.out.at_ ib hibm
            injection hq with hq; injection hq with hq1 hq2; subst hq1; subst hq2
            rw [Nat.zero_add] at x0 x1
            exact ⟨x0.trans (by rw [HD2.out]), x1⟩
          obtain ⟨r10, r11⟩ := r1
          obtain ⟨r20, r21⟩ := r2
          have q3 : (wr.setCell ⟨T, ia, none⟩ (.int .i64 (D1 + 1))).cell? ⟨T, ib, none⟩ = some (.int .i64 D2) := (World.cell?_setCell_other _ _ _ _ (by intro e; simp only [Addr.mk.injEq] at e; exact HNE.out e.2.1)).trans r20
          have q4 : (wr.setCell ⟨T, ia, none⟩ (.int .i64 (D1 + 1))).frozen? ⟨T, ib, none⟩ = false := by rw [World.frozen?_setCell]; exact r21
          have hw1 : IntKind.i64.wrap (D1 + 1) = D1 + 1 := IntWalk.i64_in _ ⟨by omega, by omega⟩
          have hw2 : IntKind.i64.wrap (D2 + 1) = D2 + 1 := IntWalk.i64_in _ ⟨by clear hw1; omega, by clear hw1; omega⟩
          have HROW2 := Lib.hid (HROW.out.deg HX.out HBT.out HIA.out HIB.out HNE.out hiam hibm)
          rw [HD1.out, HD2.out] at HROW2
          have HB2 : Hid (Below w.heap.size w ((wr.setCell ⟨T, ia, none⟩ (.int .i64 (D1 + 1))).setCell ⟨T, ib, none⟩ (.int .i64 (D2 + 1)))) := by
            have h9 := HB0.out
            exact ⟨h9.os, h9.tape, h9.output, by have := h9.size; simpa [World.setCell] using this, fun i hi => ((Below.heap_setCell _ _ _ _ (by show i ≠ T; omega)).trans (Below.heap_setCell _ _ _ _ (by show i ≠ T; omega))).trans (h9.block i hi)⟩
          have HZ2 : Hid (w.heap.size ≤ ((wr.setCell ⟨T, ia, none⟩ (.int .i64 (D1 + 1))).setCell ⟨T, ib, none⟩ (.int .i64 (D2 + 1))).heap.size) := by
            show _ ≤ _
            have := HB2.out.size; exact this
          clear hD1 hD2
          go_wp2_with fail
          refine (HIS.out _).mono ?_; rintro e w' ⟨rfl, rfl⟩; rw [HBT.out]
          go_wp2_with fail
          go_roundw
          case rel => exact ⟨k + 1, by omega, by go_num, HB2.out.alloc HZ2.out _, HROW2.out.alloc _⟩
          case measure => simp [intOf]; omega
      · have hkl : k = ws.length := by omega
        subst hkl
        have HB0 := Lib.hid hb
        have HROW := Lib.hid hrow
        clear hb hrow
        go_wp2_with fail
        go_ret
        exact ⟨_, _, rfl, ⟨fun j hj => by
          obtain ⟨b, o, ha, hl, hh, hc, hf⟩ := HROW.out.at_ j hj
          exact ⟨b, o, ha, by have := HTT.out; omega, by omega, hc, hf⟩, Nat.le_refl _⟩, HB0.out⟩
set_option maxRecDepth 100000 in
set_option maxHeartbeats 2000000 in
theorem ForksOf_any (n s : Int) (A : Option Addr) (cap : Nat) (ws : List Wy) (w : World) (hr : RW w w.heap.size A ws) :
    Calls Tryd.prog 27 #[.agg #[.int .i64 n, .slice A ws.length cap], .int .i64 s] w fun e w' => e = .returned (.int .i64 (forksOf n ws s)) ∧ Below w.heap.size w w' := by
  have HR := Lib.hid hr
  clear hr
  unfold forksOf
  cases hn : setOk n ws s
  · have HN := Lib.hid hn
    clear hn
    go_enter Tryd.func27, Tryd.ntmps27
    go_wp2_with fail
    refine (waysOk_any _ _ _ _ _ _ (HR.out.later (by go_grown))).mono ?_; rintro e w1 ⟨rfl, hb1⟩
    rw [HN.out]
    obtain ⟨hc1, hf1⟩ := bcell hb1
    have hz1_0 : w.heap.size < w1.heap.size := by have hq := hb1.size; (try simp at hq); omega
    have HK1 := Lib.hid hb1
    have HB1 := Lib.hid (bstep (B := w.heap.size) (W := w) (by (try have hp := HB0.out); go_grown) (by go_size) hb1); clear hb1
    go_wp2_with fail
    go_ret
    exact ⟨rfl, HB1.out⟩
  · have HN := Lib.hid hn
    obtain ⟨hnet, hs0, hs1, hs2⟩ := setOk_t hn
    have HS := Lib.hid hnet
    have hl9 := hnet.len
    have hn2 := hnet.lo
    have hn6 := hnet.hi
    obtain ⟨m, rfl⟩ := Int.eq_ofNat_of_zero_le (show 0 ≤ n by omega)
    have hm6 : m ≤ 6 := by omega
    have HL : Hid (degLen (m : Int) ws s = m) := by show _ = _; unfold degLen; rw [hn]; simp
    have HFK : Hid (fkTo ws s m = fks (m : Int) ws s) := by show _ = _; unfold fks; rw [Int.toNat_natCast]
    rw [if_pos rfl]
    obtain ⟨R, hR⟩ : ∃ R, fks (m : Int) ws s = R := ⟨_, rfl⟩
    rw [hR] at HFK ⊢
    clear hn hnet hR
    go_enter Tryd.func27, Tryd.ntmps27
    go_wp2_with fail
    refine (waysOk_any _ _ _ _ _ _ (HR.out.later (by go_grown))).mono ?_; rintro e w1 ⟨rfl, hb1⟩
    rw [HN.out]
    obtain ⟨hc1, hf1⟩ := bcell hb1
    have hz1_0 : w.heap.size < w1.heap.size := by have hq := hb1.size; (try simp at hq); omega
    have HK1 := Lib.hid hb1
    have HB1 := Lib.hid (bstep (B := w.heap.size) (W := w) (by (try have hp := HB0.out); go_grown) (by go_size) hb1); clear hb1
    have k1 : w1.cell? ⟨w.heap.size, 0, none⟩ = some (.int .i64 m) ∧ w1.cell? ⟨w.heap.size, 1, none⟩ = some (.slice A ws.length cap) := ⟨by go_simp, by go_simp⟩
    clear hc1 hf1
    obtain ⟨b0, b1⟩ := k1
    go_wp2_with fail
    refine (DegreeRow_any (m : Int) s A cap ws _ (HR.out.later HB1.out)).mono ?_; rintro e2 w2 ⟨A1, c1, rfl, hrow, hb2⟩
    have HB2 := Lib.hid (bstep (B := w.heap.size) (W := w) HB1.out (Nat.le_of_lt hz1_0) hb2)
    rw [HL.out] at hrow ⊢
    have HRO := Lib.hid hrow
    clear hb2 hrow b0 b1
    go_wp2_with fail
    go_loopw [5, 16] (fun c i wr => ∃ p : Nat, p ≤ m ∧ c = .int .i64 (fkTo ws s p) ∧ i = .int .i64 p ∧ w2 = wr) (fun _ i _ => m - (intOf i).toNat)
    case atStart => exact ⟨0, Nat.zero_le _, rfl, rfl, rfl⟩
    case round =>
      obtain ⟨p, hpm, rfl, rfl, rfl⟩ := hrel
      have hfk := fkTo_bd ws s p
      have hpw := pow_bd (p : Int) 6 (by omega)
      rw [Int.toNat_natCast] at hpw
      have hf64 : fkTo ws s p < 64 := by omega
      have hf0 := hfk.1
      by_cases hlp : p < m
      · have hp1 : (p : Int) < (m : Int) := by omega
        have hp0 : (0 : Int) ≤ (p : Int) := by omega
        obtain ⟨bq, oq, rfl, _, _, x0, x1⟩ := HRO.out.at_ p hlp
        (try dsimp only at x0)
        obtain ⟨D, hD⟩ : ∃ D, dg ws s (p : Int) = D := ⟨_, rfl⟩
        have HY1 := Lib.hid (fkTo_yes (ws := ws) (s := s) (p := p))
        have HY2 := Lib.hid (fkTo_not (ws := ws) (s := s) (p := p))
        rw [hD] at x0 HY1 HY2
        have HO := Lib.hid (bits_or (fkTo ws s p) (2 ^ p) hf0 (by omega) (by omega) (by omega))
        have hw1 : IntKind.i64.wrap (2 ^ p) = 2 ^ p := IntWalk.i64_in _ ⟨by omega, by omega⟩
        have hw2 : wrap64 (2 ^ p) = 2 ^ p := IntWalk.wrap64_in _ ⟨by omega, by omega⟩
        clear hfk hpw hD
        by_cases h3 : 3 ≤ D
        · have HY := Lib.hid (HY1.out h3)
          go_wp2_with fail
          go_roundw
          case rel => refine ⟨p + 1, by omega, ?_, ?_, ?_⟩ <;> first | trivial | rfl | (rw [HY.out, HO.out]; done) | go_num
          case measure => simp [intOf]; omega
        · have HY := Lib.hid (HY2.out h3)
          go_wp2_with fail
          go_roundw
          case rel => refine ⟨p + 1, by omega, ?_, ?_, ?_⟩ <;> first | trivial | rfl | (rw [HY.out]; done) | go_num
          case measure => simp [intOf]; omega
      · have hpe : p = m := by omega
        subst hpe
        clear hfk hpw
        go_wp2_with fail
        go_ret
        exact ⟨ret_int HFK.out, HB2.out⟩
end Go.Proofs.YtnbihejoglgdhaaDoor
