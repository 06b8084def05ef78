/- The program's shares: BirdShares, GroupCost, SharesOk. -/
import Derived.Test.YtfpaalmbllhmaaaDoorUpIa
import Derived.Test.YtfpaalmbllhmaaaDoorUpF
import Derived.Test.YtfpaalmbllhmaaaDoorUpA
import Derived.Test.YtfpaalmbllhmaaaDoorChIa
import Derived.Test.YtfpaalmbllhmaaaDoorMG
set_option linter.unusedSimpArgs false
set_option linter.unusedVariables false
attribute [local go_sem ↓] Go.wp_at_zero Go.wp_at_succ
namespace Go.Proofs.YtfpaalmbllhmaaaDoor
open Go.ChangeShapes Go.WideShapes Go.ChangeAt Go.RowKit

theorem upWays_pos (n : Int) (ws : List Wy) (j : Nat) (h : j < (upWays n ws).length) (h0 : j ≠ 0) : ∃ q : Nat, q < ws.length ∧ (upWays n ws).getD j 0 = q := by
  unfold upWays at *
  by_cases ht : spanTreeOf n ws < 0
  · rw [if_pos ht] at h; simp at h
  · rw [if_neg ht] at h ⊢
    obtain ⟨hf, -⟩ := treeFor (n := n) (ws := ws) (by omega)
    rw [upRow_len] at h
    rw [upRow_at ws _ _ h]
    obtain ⟨k, h1, h2, _⟩ := up_ex hf.net hf.indep (v := (j : Int)) (by omega) (by omega) (hf.all j (by omega) (by omega))
    exact ⟨k, h1, h2⟩
theorem birdShares_zero (n : Int) (ws : List Wy) (h : 0 < (upWays n ws).length) : (birdShares n ws).getD 0 0 = 0 := by
  rw [birdShares_at n ws 0 h]
  apply shOf_no
  unfold upWays at *
  by_cases ht : spanTreeOf n ws < 0
  · rw [if_pos ht] at h; simp at h
  · rw [if_neg ht] at h ⊢
    obtain ⟨hf, -⟩ := treeFor (n := n) (ws := ws) (by omega)
    rw [upRow_len] at h
    rw [upRow_at ws _ _ h, show ((0 : Nat) : Int) = 0 from rfl, up_src hf.net]
    omega
set_option maxRecDepth 100000 in
set_option maxHeartbeats 4000000 in
theorem BirdShares_any (n : Int) (A : Option Addr) (cap : Nat) (ws : List Wy) (w : World) (hr : RW w w.heap.size A ws) (hT : Tab w) :
    Calls Tryd.prog 19 #[.agg #[.int .i64 n, .slice A ws.length cap]] w (NewInts (birdShares n ws) w) := by
  have HR := Lib.hid hr
  have HTT := Lib.hid hT
  have HAT := Lib.hid (birdShares_at n ws)
  have HUP := Lib.hid (upWays_pos n ws)
  have HZ := Lib.hid (birdShares_zero n ws)
  have hl6 := upWays_len n ws
  have hlk := birdShares_len n ws
  obtain ⟨L, hL⟩ : ∃ L, upWays n ws = L := ⟨_, rfl⟩
  obtain ⟨KL, hK⟩ : ∃ K, birdShares n ws = K := ⟨_, rfl⟩
  rw [hL] at HAT HUP HZ hl6 hlk
  rw [hK] at HAT HZ hlk ⊢
  obtain ⟨m, hm⟩ : ∃ m, L.length = m := ⟨_, rfl⟩
  rw [hm] at HAT HUP HZ hl6 hlk
  have HLK := Lib.hid hlk
  have HLM := Lib.hid hm
  have HL := Lib.hid hL
  clear hr hT hL hK hlk hm
  unfold NewInts
  rw [HLK.out]
  go_enter Tryd.func19, Tryd.ntmps19
  go_wp2_with fail
  refine (UpWays_any n A cap ws _ (HR.out.later (by go_grown)) (HTT.out.later (by go_grown))).mono ?_; rintro e1 w1 ⟨A1, c1, rfl, hrow, hb1⟩
  rw [HL.out, HLM.out] at hrow ⊢
  have k0 : w1.cell? ⟨w.heap.size, 0, none⟩ = some (.int .i64 n) := (hb1.cell (p := ⟨w.heap.size, 0, none⟩) (by simp)).trans (cell_of_row _ _ 0 _ _ (0, 0) (heap_alloc_new w _))
  have k1 : w1.cell? ⟨w.heap.size, 1, none⟩ = some (.slice A ws.length cap) := (hb1.cell (p := ⟨w.heap.size, 1, none⟩) (by simp)).trans (cell_of_row _ _ 1 _ _ (0, 0) (heap_alloc_new w _))
  have HB1 := Lib.hid (bstep (B := w.heap.size) (W := w) (by go_grown) (by go_size) hb1)
  have hz1 : w.heap.size + 1 ≤ w1.heap.size := by have := hb1.size; simp at this; omega
  have HRO : Hid (RowF w1 (w.heap.size + 1) w1.heap.size A1 m (fun j => if j < 0 then KL.getD j 0 else L.getD j 0)) := by
    have h9 := hrow.congr (g := fun j => if j < 0 then KL.getD j 0 else L.getD j 0) (fun j _ => by simp)
    have e9 : (w.alloc (.cells #[.int .i64 n, .slice A ws.length cap] 25)).heap.size = w.heap.size + 1 := by simp
    rw [e9] at h9; exact h9
  obtain ⟨hh, hhe⟩ : ∃ h, w1.heap.size = h := ⟨_, rfl⟩
  rw [hhe] at HRO hz1
  have HHE : hh ≤ w1.heap.size := by omega
  clear hrow hb1 hhe
  go_wp2_with fail
  go_loopw [10] (fun i wr => ∃ k : Nat, k ≤ m ∧ i = .int .i64 k ∧ wr.cell? ⟨w.heap.size, 0, none⟩ = some (.int .i64 n) ∧ wr.cell? ⟨w.heap.size, 1, none⟩ = some (.slice A ws.length cap) ∧ Below w.heap.size w wr ∧ hh ≤ wr.heap.size ∧ RowF wr (w.heap.size + 1) hh A1 m (fun j => if j < k then KL.getD j 0 else L.getD j 0)) (fun i _ => m - (intOf i).toNat)
  case atStart => exact ⟨0, Nat.zero_le _, rfl, k0, k1, HB1.out, HHE, HRO.out⟩
  case round =>
    clear k0 k1 HB1 HHE HRO
    obtain ⟨k, hk, rfl, b0, b1, hb, hz, hrow⟩ := hrel
    have HB0 := Lib.hid hb
    have HRO := Lib.hid hrow
    clear hb hrow
    by_cases hlt : k < m
    · have hk0 : (0 : Int) ≤ (k : Int) := by omega
      have hk1 : (k : Int) < (m : Int) := by omega
      obtain ⟨g, o, rfl, hg1, hg2, r0, r1⟩ := HRO.out.at_ k hlt
      rw [if_neg (by omega)] at r0
      have HPUT := Lib.hid (fun x => HRO.out.put (k := k) hlt x)
      by_cases hkz : k = 0
      · subst hkz
        have HKZ : Hid (KL.getD 0 0 = 0) := HZ.out hlt
        obtain ⟨x, hx⟩ : ∃ x, L.getD 0 0 = x := ⟨_, rfl⟩
        rw [hx] at r0
        have HROW2 := Lib.hid ((HPUT.out 0).congr (g := fun j => if j < 0 + 1 then KL.getD j 0 else L.getD j 0) (fun j _ => by
          by_cases e : j = 0
          · subst e; simp only [if_pos rfl, if_pos (Nat.lt_succ_self 0)]; exact HKZ.out.symm
          · rw [if_neg e, if_neg (by omega), if_neg (by omega)]))
        have HB2 := Lib.hid (HB0.out.setCell (p := ⟨g, o + 0, none⟩) (by show w.heap.size ≤ g; omega) (.int .i64 0))
        have q0 : (wr.setCell ⟨g, o + 0, none⟩ (.int .i64 0)).cell? ⟨w.heap.size, 0, none⟩ = some (.int .i64 n) := (setc_keep (by omega)).trans b0
        have q1 : (wr.setCell ⟨g, o + 0, none⟩ (.int .i64 0)).cell? ⟨w.heap.size, 1, none⟩ = some (.slice A ws.length cap) := (setc_keep (by omega)).trans b1
        rw [Nat.add_zero] at r0 r1 HROW2 HB2 q0 q1
        clear hx
        go_wp2_with fail
        go_roundw
        case rel => exact ⟨0 + 1, by omega, by go_num, q0, q1, HB2.out, by simpa [World.setCell] using hz, HROW2.out⟩
        case measure => (simp [intOf]) <;> omega
      · obtain ⟨q, hq1, hq2⟩ := HUP.out k hlt hkz
        obtain ⟨x, hx⟩ : ∃ x, ws[q]? = some x := ⟨_, List.getElem?_eq_getElem hq1⟩
        obtain ⟨b, ob, rfl, hB, c0, c1', c2⟩ := HR.out.below HB0.out q x hx
        have HKV : Hid (KL.getD k 0 = x.c) := by show _ = _; rw [HAT.out k hlt, hq2]; exact shOf_at hx
        rw [hq2] at r0
        have hqq0 : (0 : Int) ≤ (q : Int) := by omega
        have hqq1 : (q : Int) < (ws.length : Int) := by omega
        have hkz2 : ((k : Int) == 0) = false := by rw [beq_eq_false_iff_ne]; omega
        have HROW2 := Lib.hid ((HPUT.out x.c).congr (g := fun j => if j < k + 1 then KL.getD j 0 else L.getD j 0) (fun j _ => by
          by_cases e : j = k
          · subst e; rw [if_pos rfl, if_pos (Nat.lt_succ_self _)]; exact HKV.out.symm
          · rw [if_neg e]
            by_cases e2 : j < k
            · rw [if_pos e2, if_pos (by omega)]
            · rw [if_neg e2, if_neg (by omega)]))
        have HB2 := Lib.hid (HB0.out.setCell (p := ⟨g, o + k, none⟩) (by show w.heap.size ≤ g; omega) (.int .i64 x.c))
        have q0 : (wr.setCell ⟨g, o + k, none⟩ (.int .i64 x.c)).cell? ⟨w.heap.size, 0, none⟩ = some (.int .i64 n) := (setc_keep (by omega)).trans b0
        have q1 : (wr.setCell ⟨g, o + k, none⟩ (.int .i64 x.c)).cell? ⟨w.heap.size, 1, none⟩ = some (.slice (some ⟨b, ob, none⟩) ws.length cap) := (setc_keep (by omega)).trans b1
        clear hx hq2
        go_wp2_with fail
        go_roundw
        case rel => exact ⟨k + 1, by omega, by go_num, q0, q1, HB2.out, by simpa [World.setCell] using hz, HROW2.out⟩
        case measure => (simp [intOf]) <;> omega
    · obtain rfl : k = m := by omega
      go_wp2_with fail
      go_ret
      exact ⟨A1, c1, rfl, ((HRO.out.congr (g := fun j => KL.getD j 0) (fun j hj => by rw [if_pos hj])).wider (Nat.le_succ _)).upto hz, HB0.out⟩
theorem bits_and1 (g : Int) (hg : InI g) : bits .and .i64 g 1 = g % 2 := by
  obtain ⟨h1, h2⟩ := hg
  have hb : bits .and .i64 g 1 = IntKind.i64.wrap (((BitVec.ofInt 64 g).toNat &&& (BitVec.ofInt 64 1).toNat : Nat) : Int) := by
    show IntKind.i64.wrap ((BitVec.ofInt 64 g &&& BitVec.ofInt 64 1).toNat : Int) = _
    rw [BitVec.toNat_and]
  have ea : ((BitVec.ofInt 64 g).toNat : Int) = g % 18446744073709551616 := by
    rw [BitVec.toNat_ofInt]
    have : (((2 ^ 64 : Nat) : Int)) = 18446744073709551616 := by decide
    rw [this]; omega
  have e1 : (BitVec.ofInt 64 1).toNat = 1 := by decide
  rw [hb, e1, Nat.and_one_is_mod]
  obtain ⟨a, ha⟩ : ∃ a, (BitVec.ofInt 64 g).toNat = a := ⟨_, rfl⟩
  rw [ha] at ea ⊢
  rw [IntKind.wrap_i64]
  omega
theorem group_on {n : Int} {ws : List Wy} {g : Int} (hg : InI g) (h0 : g % 2 = 0) : spanOn n ws (bits .or .i64 g 1) = groupCost n ws g := by
  cases hn : netOk n ws
  · rw [groupCost_no (by rw [hn]; rfl)]
    unfold spanOn
    rw [hn]; rfl
  · have hni := netOk_t hn
    have h1 : plOk n 1 = true := plOk_mk (by omega) (one_lt hni)
    have hor := or_plOk (n := n) (e := g) (c := 1) hni.hi hg (inI (by omega) (by omega))
    rw [h1, Bool.and_true] at hor
    cases hp : plOk n g
    · rw [groupCost_no (by rw [hp]; simp)]
      unfold spanOn
      rw [hn, hor, hp]; rfl
    · obtain ⟨g0, g1⟩ := plOk_t hp
      have hg64 := plOk_lt hni.hi hp
      rw [groupCost_is hn hp ((even_bit g0).2 h0)]
      have e : bits .or .i64 g 1 = ior g 1 := bits_or _ _ g0 (by omega) (by omega) (by omega)
      rw [e] at hor ⊢
      unfold spanOn
      rw [hn, hor, hp]; rfl
theorem inSet0_any (g : Int) (hg : InI g) (w : World) :
    Calls Tryd.prog 53 #[.int .i64 g, .int .i64 0] w fun e w' => e = .returned (.bool (g % 2 == 1)) ∧ w = w' := by
  have HG := Lib.hid (bits_and1 g hg)
  go_enter Tryd.func53, Tryd.ntmps53
  go_wp2
  go_ret
  exact ⟨ret_bool (by simp [HG.out]), rfl⟩
set_option maxHeartbeats 1000000 in
theorem GroupCost_any (n g : Int) (A : Option Addr) (cap : Nat) (ws : List Wy) (w : World) (hr : RW w w.heap.size A ws) (hT : Tab w) (hg : InI g) :
    Calls Tryd.prog 24 #[.agg #[.int .i64 n, .slice A ws.length cap], .int .i64 g] w fun en w' => en = .returned (.int .i64 (groupCost n ws g)) ∧ Below w.heap.size w w' := by
  have HR := Lib.hid hr
  have HT := Lib.hid hT
  have HIS := Lib.hid (fun W => inSet0_any g hg W)
  clear hr hT
  by_cases h0 : g % 2 = 0
  · have HGO := Lib.hid (group_on (n := n) (ws := ws) hg h0)
    have HD : Hid ((g % 2 == 1) = false) := by show _ = _; rw [h0]; rfl
    clear h0 hg
    go_enter Tryd.func24, Tryd.ntmps24
    go_wp2_with fail
    refine (HIS.out _).mono ?_; rintro e w1 ⟨rfl, rfl⟩; rw [HD.out]
    go_wp2_with fail
    refine (SpanOn_any _ _ _ _ _ _ (HR.out.later (by go_grown)) (HT.out.later (by go_grown))).mono ?_; rintro e w1 ⟨rfl, hb1⟩; rw [HGO.out]
    have HB1 := Lib.hid (bstep (B := w.heap.size) (W := w) (by go_grown) (by go_size) hb1)
    clear hb1
    go_wp2_with fail
    go_ret
    exact ⟨rfl, HB1.out⟩
  · have HD : Hid ((g % 2 == 1) = true) := by show _ = _; rw [show g % 2 = 1 from by omega]; rfl
    have HGN : Hid (groupCost n ws g = -1) := by
      by_cases hc : 0 ≤ groupCost n ws g
      · obtain ⟨-, hp, hb, -⟩ := groupCost_t hc
        exact absurd ((even_bit (plOk_t hp).1).1 hb) h0
      · apply groupCost_no
        cases hx : (netOk n ws && plOk n g && !bit g 0) with
        | false => rfl
        | true =>
          simp only [Bool.and_eq_true, Bool.not_eq_true'] at hx
          exact absurd ((even_bit (plOk_t hx.1.2).1).1 hx.2) h0
    rw [HGN.out]
    clear h0 hg
    go_enter Tryd.func24, Tryd.ntmps24
    go_wp2_with fail
    refine (HIS.out _).mono ?_; rintro e w1 ⟨rfl, rfl⟩; rw [HD.out]
    go_wp2_with fail
    go_ret
    exact ⟨rfl, by go_grown⟩
/-- some of the first groups pays more than it would alone -/
noncomputable def betTo (n : Int) (ws : List Wy) (row : List Int) : Nat → Bool
  | 0 => false
  | k + 1 => betTo n ws row k || (decide (0 ≤ groupCost n ws k) && decide (groupCost n ws k < payTo row k row.length))
theorem betTo_iff {n : Int} {ws : List Wy} {row : List Int} : ∀ N, betTo n ws row N = true ↔ ∃ j : Nat, j < N ∧ 0 ≤ groupCost n ws j ∧ groupCost n ws j < payTo row j row.length
  | 0 => by simp [betTo]
  | k + 1 => by
    rw [betTo, Bool.or_eq_true, betTo_iff k]
    simp only [Bool.and_eq_true, decide_eq_true_eq]
    constructor
    · rintro (⟨j, h1, h2⟩ | h)
      · exact ⟨j, by omega, h2⟩
      · exact ⟨k, by omega, h⟩
    · rintro ⟨j, h1, h2⟩
      by_cases e : j = k
      · subst e; exact .inr h2
      · exact .inl ⟨j, by omega, h2⟩
theorem shares_as {n : Int} {ws : List Wy} {L : List Int} {N : Nat} (hno : netOk n ws = true) (hl : (L.length : Int) = n) (h0 : L.getD 0 0 = 0) (ha : L.all shareIn = true) (hN : (N : Int) = 2 ^ n.toNat) :
    sharesOk n ws L = (decide (payTo L (allPl n) L.length = spanCostOf n ws) && !betTo n ws L N) := by
  have hni := netOk_t hno
  rw [Bool.eq_iff_iff, Bool.and_eq_true, decide_eq_true_eq, Bool.not_eq_true']
  constructor
  · intro hs
    refine ⟨shares_sum hs, ?_⟩
    cases hb : betTo n ws L N with
    | false => rfl
    | true =>
      exfalso
      obtain ⟨j, h1, h2, h3⟩ := (betTo_iff N).1 hb
      obtain ⟨-, h4, h5, -⟩ := groupCost_t h2
      have := ((sharesOk_iff.1 hs).grp j h4 h5).1 h2
      omega
  · rintro ⟨hp, hb⟩
    have hpb := payTo_bd ha (allPl n) L.length
    refine sharesOk_iff.2 ⟨by omega, hl, h0, ha, fun g hg hbit => ⟨fun hc => ?_, fun he => ?_⟩⟩
    · obtain ⟨g0, g1⟩ := plOk_t hg
      by_cases hlt : groupCost n ws g < payTo L g L.length
      · exfalso
        have : betTo n ws L N = true := (betTo_iff N).2 ⟨g.toNat, by omega, by rw [Int.toNat_of_nonneg g0]; exact hc, by rw [Int.toNat_of_nonneg g0]; exact hlt⟩
        rw [hb] at this; cases this
      · omega
    · rw [he, ← pay_most hni h0 _ (by omega)]; exact hp
set_option maxHeartbeats 1000000 in
theorem groupPays_any (g : Int) (g0 : 0 ≤ g) (g1 : g ≤ 1048576) (b o cr m : Nat) (L : List Int) (hm : L.length = m) (hm6 : m ≤ 6) (hs : L.all shareIn = true) (w : World) (hi : RI w w.heap.size (some ⟨b, o, none⟩) L) :
    Calls Tryd.prog 49 #[.slice (some ⟨b, o, none⟩) m cr, .int .i64 g] w fun en w' => en = .returned (.int .i64 (payTo L g m)) ∧ Below w.heap.size w w' := by
  have HI := Lib.hid hi
  have HM := Lib.hid hm
  have HBD := Lib.hid (payTo_bd hs g)
  have HIN := Lib.hid (fun j => share_in hs j)
  clear hi hm hs
  go_enter Tryd.func49, Tryd.ntmps49
  go_wp2_with fail
  go_loopw [5, 10] (fun c i wr => ∃ k : Nat, k ≤ m ∧ i = .int .i64 k ∧ c = .int .i64 (payTo L g k) ∧ w = wr) (fun _ i _ => m - (intOf i).toNat)
  case atStart => exact ⟨0, Nat.zero_le _, rfl, rfl, rfl⟩
  case round =>
    obtain ⟨k, hk, rfl, rfl, rfl⟩ := hrel
    by_cases hlt : k < m
    · have hk0 : (0 : Int) ≤ (k : Int) := by omega
      have hk1 : (k : Int) < (m : Int) := by omega
      have hk60 : (k : Int) ≤ 60 := by omega
      obtain ⟨b', o', e9, -, c9⟩ := HI.out.at_ (j := k) (by have := HM.out; omega)
      injection e9 with e9; injection e9 with e91 e92; subst e91; subst e92
      have hbd := HBD.out k
      have hin := HIN.out k
      have HY := Lib.hid (fun h => payTo_yes (L := L) (g := g) (k := k) h)
      have HX := Lib.hid (fun h => payTo_no (L := L) (g := g) (k := k) h)
      obtain ⟨x, hx⟩ : ∃ x, L.getD k 0 = x := ⟨_, rfl⟩
      obtain ⟨p, hp⟩ : ∃ p, payTo L g k = p := ⟨_, rfl⟩
      rw [hx] at c9 hin HY
      rw [hp] at hbd HY HX ⊢
      have HIS := Lib.hid (fun W => inSet_any g k hk0 hk60 g0 g1 W)
      have HW1 : Hid (IntKind.i64.wrap (p + x) = p + x) := IntWalk.i64_in _ ⟨by omega, by omega⟩
      have HW2 : Hid (wrap64 (p + x) = p + x) := IntWalk.wrap64_in _ ⟨by omega, by omega⟩
      clear hx hp
      cases hb : bit g k
      · have HBT := Lib.hid hb
        have HS := Lib.hid (HX.out hb)
        clear hb
        go_wp2_with fail
        refine (HIS.out _).mono ?_; rintro e w1 ⟨rfl, rfl⟩; rw [HBT.out]
        go_wp2_with fail
        go_roundw
        case rel => exact ⟨k + 1, by omega, by go_num, by rw [HS.out], by first | rfl | trivial⟩
        case measure => (simp [intOf]) <;> omega
      · have HBT := Lib.hid hb
        have HS := Lib.hid (HY.out hb)
        have hw1 := HW1.out
        have hw2 := HW2.out
        clear hb
        go_wp2_with fail
        refine (HIS.out _).mono ?_; rintro e w1 ⟨rfl, rfl⟩; rw [HBT.out]
        go_wp2_with fail
        clear hw1 hw2
        go_roundw
        case rel => exact ⟨k + 1, by omega, by go_num, by rw [HS.out], by first | rfl | trivial⟩
        case measure => (simp [intOf]) <;> omega
    · obtain rfl : k = m := by omega
      go_wp2_with fail
      go_ret
      exact ⟨rfl, Below.refl _ _⟩
set_option maxHeartbeats 2000000 in
theorem someGroupBetters_any (m : Nat) (A : Option Addr) (cap : Nat) (ws : List Wy) (b o cr : Nat) (L : List Int) (hm : L.length = m) (hn : NetIs (m : Int) ws) (hs : L.all shareIn = true) (N : Nat) (hN : (N : Int) = 2 ^ m) (w : World) (hr : RW w w.heap.size A ws) (hT : Tab w) (hi : RI w w.heap.size (some ⟨b, o, none⟩) L) :
    Calls Tryd.prog 50 #[.agg #[.int .i64 m, .slice A ws.length cap], .slice (some ⟨b, o, none⟩) m cr] w fun en w' => en = .returned (.bool (betTo (m : Int) ws L N)) ∧ Below w.heap.size w w' := by
  have HR := Lib.hid hr
  have HT := Lib.hid hT
  have HI := Lib.hid hi
  have HM := Lib.hid hm
  have HS := Lib.hid hs
  have hn2 := hn.lo
  have hn6 := hn.hi
  have hm6 : m ≤ 6 := by omega
  have hpm := pow_bd (m : Int) 6 (by omega)
  rw [Int.toNat_natCast, ← hN] at hpm
  have HAL : Hid (allPl (m : Int) = (N : Int) - 1) := by show _ = _; unfold allPl; rw [Int.toNat_natCast, hN]
  clear hr hT hi hm hs hn hN
  go_enter Tryd.func50, Tryd.ntmps50
  go_wp2_with fail
  refine (allPlaces_any _ _ (by omega) (by omega) _).mono ?_; rintro e w1 ⟨rfl, hb1⟩
  rw [HAL.out]
  obtain ⟨hc1, hf1⟩ := bcell hb1
  have hz1_0 : w.heap.size < w1.heap.size := by have hq := hb1.size; (try simp at hq); omega
  have HK1 := Lib.hid hb1
  have HB1 := Lib.hid (bstep (B := w.heap.size) (W := w) (by (try have hp := HB0.out); go_grown) (by go_size) hb1); clear hb1
  have k10 : w1.cell? ⟨w.heap.size, 0, none⟩ = some (.int .i64 m) ∧ w1.cell? ⟨w.heap.size, 1, none⟩ = some (.slice A ws.length cap) := ⟨by go_simp, by go_simp⟩
  obtain ⟨k10, k11⟩ := k10
  have HWN1 : Hid (IntKind.i64.wrap ((N : Int) - 1 + 1) = (N : Int)) := by show _ = _; rw [show (N : Int) - 1 + 1 = (N : Int) from by omega]; exact IntWalk.i64_in _ ⟨by omega, by omega⟩
  have HWN2 : Hid (wrap64 ((N : Int) - 1 + 1) = (N : Int)) := by show _ = _; rw [show (N : Int) - 1 + 1 = (N : Int) from by omega]; exact IntWalk.wrap64_in _ ⟨by omega, by omega⟩
  have hwn1 := HWN1.out
  have hwn2 := HWN2.out
  clear hc1 hf1
  go_wp2_with fail
  clear hwn1 hwn2
  go_loopw [10] (fun i wr => ∃ k : Nat, k ≤ N ∧ i = .int .i64 k ∧ betTo (m : Int) ws L k = false ∧ wr.cell? ⟨w.heap.size, 0, none⟩ = some (.int .i64 m) ∧ wr.cell? ⟨w.heap.size, 1, none⟩ = some (.slice A ws.length cap) ∧ Below w.heap.size w wr ∧ w.heap.size < wr.heap.size) (fun i _ => N - (intOf i).toNat)
  case atStart => exact ⟨0, Nat.zero_le _, rfl, rfl, k10, k11, HB1.out, hz1_0⟩
  case round =>
    clear k10 k11 HB1 HK1
    obtain ⟨k, hk, rfl, hbt, b0, b1, hb, hz⟩ := hrel
    have HBT := Lib.hid hbt
    have HB0 := Lib.hid hb
    clear hbt hb
    by_cases hlt : k < N
    · have hk0 : (0 : Int) ≤ (k : Int) := by omega
      have hk1 : (k : Int) < (N : Int) := by omega
      have hkm : (k : Int) ≤ 1048576 := by omega
      have HGI : InI (k : Int) := inI (by omega) (by omega)
      have HST : Hid (betTo (m : Int) ws L (k + 1) = (decide (0 ≤ groupCost (m : Int) ws k) && decide (groupCost (m : Int) ws k < payTo L k m))) := by show _ = _; rw [betTo, HBT.out, Bool.false_or, HM.out]
      have HUPTO : Hid (betTo (m : Int) ws L (k + 1) = true → betTo (m : Int) ws L N = true) := fun h => by
        obtain ⟨j, h1, h2⟩ := (betTo_iff _).1 h
        exact (betTo_iff _).2 ⟨j, by omega, h2⟩
      obtain ⟨G, hG⟩ : ∃ G, groupCost (m : Int) ws k = G := ⟨_, rfl⟩
      obtain ⟨P, hP⟩ : ∃ P, payTo L k m = P := ⟨_, rfl⟩
      rw [hG, hP] at HST
      have HG := Lib.hid hG
      have HP := Lib.hid hP
      clear hG hP
      by_cases hg0 : G < 0
      · have HNX : Hid (betTo (m : Int) ws L (k + 1) = false) := by show _ = _; rw [HST.out, decide_eq_false (by omega)]; rfl
        go_wp2_with fail
        refine (GroupCost_any _ _ _ _ _ _ (HR.out.later HB0.out) (HT.out.later HB0.out) HGI).mono ?_; rintro e w1 ⟨rfl, hb1⟩
        rw [HG.out]
        obtain ⟨hc1, hf1⟩ := bcell hb1
        have hz1_0 : w.heap.size < w1.heap.size := by have hq := hb1.size; (try simp at hq); omega
        have HK1 := Lib.hid hb1
        have HB1 := Lib.hid (bstep (B := w.heap.size) (W := w) (by (try have hp := HB0.out); go_grown) (by go_size) hb1); clear hb1
        have k2 : w1.cell? ⟨w.heap.size, 0, none⟩ = some (.int .i64 m) ∧ w1.cell? ⟨w.heap.size, 1, none⟩ = some (.slice A ws.length cap) := keep2 HK1.out ⟨b0, b1⟩ hz
        clear hc1 hf1
        go_wp2_with fail
        go_roundw
        case rel => exact ⟨k + 1, by omega, by go_num, HNX.out, k2.1, k2.2, HB1.out, hz1_0⟩
        case measure => (simp [intOf]) <;> omega
      · by_cases hgp : G < P
        · have HYE : Hid (betTo (m : Int) ws L N = true) := HUPTO.out (by rw [HST.out, decide_eq_true (by omega), decide_eq_true hgp]; rfl)
          go_wp2_with fail
          refine (GroupCost_any _ _ _ _ _ _ (HR.out.later HB0.out) (HT.out.later HB0.out) HGI).mono ?_; rintro e w1 ⟨rfl, hb1⟩
          rw [HG.out]
          obtain ⟨hc1, hf1⟩ := bcell hb1
          have hz1_0 : w.heap.size < w1.heap.size := by have hq := hb1.size; (try simp at hq); omega
          have HK1 := Lib.hid hb1
          have HB1 := Lib.hid (bstep (B := w.heap.size) (W := w) (by (try have hp := HB0.out); go_grown) (by go_size) hb1); clear hb1
          go_wp2_with fail
          refine (groupPays_any _ hk0 hkm b o cr m L HM.out hm6 HS.out _ (HI.out.later HB1.out)).mono ?_; rintro e w2 ⟨rfl, hb2⟩
          rw [HP.out]
          obtain ⟨hc2, hf2⟩ := bcell hb2
          have hz2_0 : w.heap.size < w2.heap.size := by have hq := hb2.size; (try simp at hq); omega
          have HK2 := Lib.hid hb2
          have HB2 := Lib.hid (bstep (B := w.heap.size) (W := w) (by have hp := HB1.out; go_grown) (by go_size) hb2); clear hb2
          clear hc1 hf1 hc2 hf2
          go_wp2_with fail
          go_ret
          exact ⟨ret_bool HYE.out.symm, HB2.out⟩
        · have HNX : Hid (betTo (m : Int) ws L (k + 1) = false) := by show _ = _; rw [HST.out, decide_eq_false hgp, Bool.and_false]
          go_wp2_with fail
          refine (GroupCost_any _ _ _ _ _ _ (HR.out.later HB0.out) (HT.out.later HB0.out) HGI).mono ?_; rintro e w1 ⟨rfl, hb1⟩
          rw [HG.out]
          obtain ⟨hc1, hf1⟩ := bcell hb1
          have hz1_0 : w.heap.size < w1.heap.size := by have hq := hb1.size; (try simp at hq); omega
          have HK1 := Lib.hid hb1
          have HB1 := Lib.hid (bstep (B := w.heap.size) (W := w) (by (try have hp := HB0.out); go_grown) (by go_size) hb1); clear hb1
          go_wp2_with fail
          refine (groupPays_any _ hk0 hkm b o cr m L HM.out hm6 HS.out _ (HI.out.later HB1.out)).mono ?_; rintro e w2 ⟨rfl, hb2⟩
          rw [HP.out]
          obtain ⟨hc2, hf2⟩ := bcell hb2
          have hz2_0 : w.heap.size < w2.heap.size := by have hq := hb2.size; (try simp at hq); omega
          have HK2 := Lib.hid hb2
          have HB2 := Lib.hid (bstep (B := w.heap.size) (W := w) (by have hp := HB1.out; go_grown) (by go_size) hb2); clear hb2
          have k2 : w2.cell? ⟨w.heap.size, 0, none⟩ = some (.int .i64 m) ∧ w2.cell? ⟨w.heap.size, 1, none⟩ = some (.slice A ws.length cap) := keep2 HK2.out (keep2 HK1.out ⟨b0, b1⟩ hz) hz1_0
          clear hc1 hf1 hc2 hf2
          go_wp2_with fail
          go_roundw
          case rel => exact ⟨k + 1, by omega, by go_num, HNX.out, k2.1, k2.2, HB2.out, hz2_0⟩
          case measure => (simp [intOf]) <;> omega
    · obtain rfl : k = N := by omega
      go_wp2_with fail
      go_ret
      exact ⟨ret_bool HBT.out.symm, HB0.out⟩
set_option maxRecDepth 100000 in
set_option maxHeartbeats 4000000 in
theorem SharesOk_any (n : Int) (A : Option Addr) (cap : Nat) (ws : List Wy) (Ar : Option Addr) (cr : Nat) (L : List Int) (w : World) (hr : RW w w.heap.size A ws) (hT : Tab w) (hi : RI w w.heap.size Ar L) :
    Calls Tryd.prog 22 #[.agg #[.int .i64 n, .slice A ws.length cap], .slice Ar L.length cr] w fun en w' => en = .returned (.bool (sharesOk n ws L)) ∧ Below w.heap.size w w' := by
  have HR := Lib.hid hr
  have HT := Lib.hid hT
  have HRI := Lib.hid hi
  clear hr hT hi
  cases hno : netOk n ws
  · have HN := Lib.hid hno
    rw [sharesOk_no0 (by unfold spanCostOf; rw [hno]; simp)]
    clear hno
    go_enter Tryd.func22, Tryd.ntmps22
    go_wp2_with fail
    refine (NetOk_any _ _ _ _ _ (HR.out.later (by go_grown))).mono ?_; rintro e w1 ⟨rfl, hb1⟩
    rw [HN.out]
    obtain ⟨hc1, hf1⟩ := bcell hb1
    have hz1_0 : w.heap.size < w1.heap.size := by have hq := hb1.size; (try simp at hq); omega
    have HK1 := Lib.hid hb1
    have HB1 := Lib.hid (bstep (B := w.heap.size) (W := w) (by (try have hp := HB0.out); go_grown) (by go_size) hb1); clear hb1
    go_wp2_with fail
    go_ret
    exact ⟨rfl, HB1.out⟩
  · have HN := Lib.hid hno
    have hni := netOk_t hno
    have hn2 := hni.lo
    have hn6 := hni.hi
    by_cases h1 : (L.length : Int) = n
    · obtain ⟨b, o, hAr, -, -⟩ := HRI.out.at_ (j := 0) (by omega)
      obtain ⟨m, hLm⟩ : ∃ m, L.length = m := ⟨_, rfl⟩
      have HLM := Lib.hid hLm
      rw [hLm] at h1 ⊢
      subst h1
      subst hAr
      have hm0 : (0 : Int) < (m : Int) := by omega
      obtain ⟨r0, hr0⟩ : ∃ r, L.getD 0 0 = r := ⟨_, rfl⟩
      have HR0 := Lib.hid hr0
      have HNET := Lib.hid hni
      have HNO0 : Hid (r0 ≠ 0 → sharesOk (m : Int) ws L = false) := fun h => sharesOk_no2 (by rw [hr0]; exact h)
      have HNO3 : Hid (L.all shareIn = false → sharesOk (m : Int) ws L = false) := sharesOk_no3
      have hab := allPl_bd hni
      obtain ⟨N, hN⟩ : ∃ N : Nat, (N : Int) = 2 ^ m := ⟨2 ^ m, by simp⟩
      have HNN := Lib.hid hN
      have HAS : Hid (r0 = 0 → L.all shareIn = true → sharesOk (m : Int) ws L = (decide (payTo L (allPl (m : Int)) m = spanCostOf (m : Int) ws) && !betTo (m : Int) ws L N)) := fun h h3 => by
        have := shares_as (n := (m : Int)) (ws := ws) (L := L) (N := N) hno (by rw [hLm]) (by rw [hr0]; exact h) h3 (by rw [Int.toNat_natCast]; exact hN)
        rwa [hLm] at this
      obtain ⟨an, han⟩ : ∃ a, sharesOk (m : Int) ws L = a := ⟨_, rfl⟩
      rw [han] at HNO0 HNO3 HAS ⊢
      clear hno hni hr0 han hLm hN
      have HQ0 : Hid (∀ w', Below w.heap.size w w' → w'.cell? ⟨b, o, none⟩ = some (.int .i64 r0)) := fun w' hb => by
        obtain ⟨b', o', e9, -, c9⟩ := (HRI.out.later hb).at_ (j := 0) (by have := HLM.out; omega)
        injection e9 with e9; injection e9 with e91 e92; subst e91; subst e92
        rw [HR0.out] at c9; simpa using c9
      by_cases h2 : r0 = 0
      · subst h2
        go_enter Tryd.func22, Tryd.ntmps22
        go_wp2_with fail
        refine (NetOk_any _ _ _ _ _ (HR.out.later (by go_grown))).mono ?_; rintro e w1 ⟨rfl, hb1⟩
        rw [HN.out]
        obtain ⟨hc1, hf1⟩ := bcell hb1
        have hz1_0 : w.heap.size < w1.heap.size := by have hq := hb1.size; (try simp at hq); omega
        have HK1 := Lib.hid hb1
        have HB1 := Lib.hid (bstep (B := w.heap.size) (W := w) (by (try have hp := HB0.out); go_grown) (by go_size) hb1); clear hb1
        have q0 := HQ0.out _ HB1.out
        have k10 : w1.cell? ⟨w.heap.size, 0, none⟩ = some (.int .i64 m) ∧ w1.cell? ⟨w.heap.size, 1, none⟩ = some (.slice A ws.length cap) := ⟨by go_simp, by go_simp⟩
        obtain ⟨k10, k11⟩ := k10
        clear hc1 hf1
        go_wp2_with fail
        clear q0
        go_loopw [25] (fun i wr => ∃ k : Nat, k ≤ m ∧ i = .int .i64 k ∧ (L.take k).all shareIn = true ∧ wr = w1) (fun i _ => m - (intOf i).toNat)
        case atStart => exact ⟨0, Nat.zero_le _, rfl, rfl, rfl⟩
        case round =>
          obtain ⟨k, hk, rfl, hall, rfl⟩ := hrel
          have hk0 : (0 : Int) ≤ (k : Int) := by omega
          by_cases hlk : k < m
          · have hkL : k < L.length := by have := HLM.out; omega
            have hk2 : (k : Int) < (m : Int) := by omega
            have qk : wr.cell? ⟨b, o + k, none⟩ = some (.int .i64 (L.getD k 0)) := by
              obtain ⟨b', o', e9, -, c9⟩ := (HRI.out.later HB1.out).at_ hkL
              injection e9 with e9; injection e9 with e91 e92; subst e91; subst e92
              exact c9
            have HTK := Lib.hid (shares_take hkL)
            have HFA : Hid (shareIn (L.getD k 0) = false → L.all shareIn = false) := shares_false hkL
            rw [hall, Bool.true_and] at HTK
            obtain ⟨x, hx⟩ : ∃ x, L.getD k 0 = x := ⟨_, rfl⟩
            rw [hx] at qk HTK HFA
            clear hx hall
            by_cases hx0 : x < 0
            · have HF : Hid (an = false) := HNO3.out (HFA.out (by unfold shareIn; rw [decide_eq_false (by omega)]; rfl))
              clear HTK HFA
              go_wp2_with fail
              go_ret
              exact ⟨ret_bool HF.out.symm, HB1.out⟩
            · by_cases hx1 : 81 < x
              · have HF : Hid (an = false) := HNO3.out (HFA.out (by unfold shareIn; rw [show decide (x ≤ 81) = false from decide_eq_false (by omega), Bool.and_false]))
                clear HTK HFA
                go_wp2_with fail
                go_ret
                exact ⟨ret_bool HF.out.symm, HB1.out⟩
              · have HT2 : Hid ((L.take (k + 1)).all shareIn = true) := by show _ = _; rw [HTK.out]; unfold shareIn; rw [decide_eq_true (by omega), decide_eq_true (by omega)]; rfl
                clear HTK HFA
                go_wp2_with fail
                go_roundw
                case rel => exact ⟨k + 1, by omega, by go_num, HT2.out, by first | rfl | trivial⟩
                case measure => (simp [intOf]) <;> omega
          · obtain rfl : k = m := by omega
            have HALL : Hid (L.all shareIn = true) := by show _ = _; rw [← HLM.out, List.take_length] at hall; exact hall
            have HAN := Lib.hid (HAS.out (by first | rfl | trivial) HALL.out)
            clear hall
            have HRR := Lib.hid (HR.out.later HB1.out)
            have HTR := Lib.hid (HT.out.later HB1.out)
            have HIR := Lib.hid (HRI.out.later HB1.out)
            obtain ⟨PA, hPA⟩ : ∃ P, payTo L (allPl (k : Int)) k = P := ⟨_, rfl⟩
            obtain ⟨SC, hSC⟩ : ∃ S, spanCostOf (k : Int) ws = S := ⟨_, rfl⟩
            obtain ⟨BT, hBT⟩ : ∃ B, betTo (k : Int) ws L N = B := ⟨_, rfl⟩
            rw [hPA, hSC, hBT] at HAN
            have HPA := Lib.hid hPA
            have HSC := Lib.hid hSC
            have HBT := Lib.hid hBT
            clear hPA hSC hBT
            have hal0 : 0 ≤ allPl (k : Int) := by omega
            have hal1 : allPl (k : Int) ≤ 1048576 := by omega
            have hk6 : k ≤ 6 := by omega
            by_cases hpe : PA = SC
            · subst hpe
              have HAN2 : Hid (an = !BT) := by show _ = _; rw [HAN.out, decide_eq_true rfl, Bool.true_and]
              clear hab hn2 hn6
              go_wp2_with fail
              refine wp_region_held_drew (S := (fun w' => w'.cell? ⟨w.heap.size, 0, none⟩ = some (.int .i64 k) ∧ w'.cell? ⟨w.heap.size, 1, none⟩ = some (.slice A ws.length cap))) (by kernel_rfl) ?_ (fun hHeld => ?_)
              · exact ⟨k10, k11⟩
              refine wpAnyH_take (i := 0) (v := ?_) rfl (by kernel_rfl) (by kernel_rfl) (by kernel_rfl) (fun _ _ _ h => h) (Or.inl ⟨by rfl, ?_⟩) (by assumption) ?_
              rotate_left
              · (intro w hSw; (try dsimp only at hSw); (try simp only [List.getElem_toArray, List.getElem_cons_succ, List.getElem_cons_zero]); first | (go_simp; done) | (go_simp; with_reducible rfl))
              try simp only [Act.put, List.getElem_toArray, List.getElem_cons_succ, List.getElem_cons_zero, List.setIfInBounds_toArray, List.set_cons_zero, List.set_cons_succ]
              refine wpAnyH_take (i := 1) (v := ?_) rfl (by kernel_rfl) (by kernel_rfl) (by kernel_rfl) (fun _ _ _ h => h) (Or.inl ⟨by rfl, ?_⟩) (by assumption) ?_
              rotate_left
              · (intro w hSw; (try dsimp only at hSw); (try simp only [List.getElem_toArray, List.getElem_cons_succ, List.getElem_cons_zero]); first | (go_simp; done) | (go_simp; with_reducible rfl))
              try simp only [Act.put, List.getElem_toArray, List.getElem_cons_succ, List.getElem_cons_zero, List.setIfInBounds_toArray, List.set_cons_zero, List.set_cons_succ]
              refine wpAnyH_take (i := 4) (v := ?_) rfl (by kernel_rfl) (by kernel_rfl) (by kernel_rfl) (fun _ _ _ h => h) (Or.inl ⟨by rfl, ?_⟩) (by assumption) ?_
              rotate_left
              · (intro w hSw; (try dsimp only at hSw); (try simp only [List.getElem_toArray, List.getElem_cons_succ, List.getElem_cons_zero]); first | (go_simp; done) | (go_simp; with_reducible rfl))
              try simp only [Act.put, List.getElem_toArray, List.getElem_cons_succ, List.getElem_cons_zero, List.setIfInBounds_toArray, List.set_cons_zero, List.set_cons_succ]
              refine wpAnyH_ready (rs := [2]) (by kernel_rfl) (by simp) ?_
              refine AllReadyH.cons rfl (fun K hK => ?_) AllReadyH.nil
              try simp only [List.getElem_toArray, List.getElem_cons_succ, List.getElem_cons_zero]
              go_simp
              go_at_call 47; refine (allPlaces_any _ _ (by omega) (by omega) _).mono ?_; rintro e11 w11 ⟨rfl, hb11⟩; have gg11 : Below wr.heap.size wr w11 := und hb11; have g11 := gg11; have k11 := keep2 gg11 ⟨k10, k11⟩ hz1_0; have z11 := Nat.lt_of_lt_of_le hz1_0 gg11.size; have r11 := Lib.hid (HRR.out.later g11); have t11 := Lib.hid (HTR.out.later g11)
              refine hK.out _ _ ?_ (fun hHeld => ?_)
              · exact k11
              clear hK K
              try simp only [Act.put, List.getElem_toArray, List.getElem_cons_succ, List.getElem_cons_zero, List.setIfInBounds_toArray, List.set_cons_zero, List.set_cons_succ]
              refine wpAnyH_ready (rs := [3]) (by kernel_rfl) (by simp) ?_
              refine AllReadyH.cons rfl (fun K hK => ?_) AllReadyH.nil
              try simp only [List.getElem_toArray, List.getElem_cons_succ, List.getElem_cons_zero]
              go_simp
              go_at_call 49; refine (groupPays_any _ hal0 hal1 b o cr k L HLM.out hk6 HALL.out w11 (HIR.out.later g11)).mono ?_; rintro e12 w12 ⟨rfl, hb12⟩; rw [HPA.out]; have gg12 : Below w11.heap.size w11 w12 := hb12; have g12 : Below wr.heap.size wr w12 := bstep g11 g11.size gg12; have k12 := keep2 gg12 k11 z11; have z12 := Nat.lt_of_lt_of_le z11 gg12.size; have r12 := Lib.hid (HRR.out.later g12); have t12 := Lib.hid (HTR.out.later g12)
              refine hK.out _ _ ?_ (fun hHeld => ?_)
              · exact k12
              clear hK K
              try simp only [Act.put, List.getElem_toArray, List.getElem_cons_succ, List.getElem_cons_zero, List.setIfInBounds_toArray, List.set_cons_zero, List.set_cons_succ]
              refine wpAnyH_ready (rs := [5]) (by kernel_rfl) (by simp) ?_
              refine AllReadyH.cons rfl (fun K hK => ?_) AllReadyH.nil
              try simp only [List.getElem_toArray, List.getElem_cons_succ, List.getElem_cons_zero]
              go_simp
              go_at_call 21; refine (SpanCost_any _ _ _ _ w12 (r12.out) (t12.out)).mono ?_; rintro e13 w13 ⟨rfl, hb13⟩; rw [HSC.out]; have gg13 : Below w12.heap.size w12 w13 := hb13; have g13 : Below wr.heap.size wr w13 := bstep g12 g12.size gg13; have k13 := keep2 gg13 k12 z12; have z13 := Nat.lt_of_lt_of_le z12 gg13.size; have r13 := Lib.hid (HRR.out.later g13); have t13 := Lib.hid (HTR.out.later g13)
              refine hK.out _ _ ?_ (fun hHeld => ?_)
              · exact k13
              clear hK K
              try simp only [Act.put, List.getElem_toArray, List.getElem_cons_succ, List.getElem_cons_zero, List.setIfInBounds_toArray, List.set_cons_zero, List.set_cons_succ]
              refine wpAnyH_take (i := 6) (v := ?_) rfl (by kernel_rfl) (by kernel_rfl) (by kernel_rfl) (fun _ _ _ h => h) (Or.inl ⟨by rfl, ?_⟩) (by assumption) ?_
              rotate_left
              · (intro w hSw; (try dsimp only at hSw); (try simp only [List.getElem_toArray, List.getElem_cons_succ, List.getElem_cons_zero]); first | (go_simp; done) | (go_simp; with_reducible rfl))
              try simp only [Act.put, List.getElem_toArray, List.getElem_cons_succ, List.getElem_cons_zero, List.setIfInBounds_toArray, List.set_cons_zero, List.set_cons_succ]
              refine wpAnyH_take (i := 7) (v := ?_) rfl (by kernel_rfl) (by kernel_rfl) (by kernel_rfl) (fun _ _ _ h => h) (Or.inl ⟨by rfl, ?_⟩) (by assumption) ?_
              rotate_left
              · (intro w hSw; (try dsimp only at hSw); (try simp only [List.getElem_toArray, List.getElem_cons_succ, List.getElem_cons_zero]); first | (go_simp; done) | (go_simp; with_reducible rfl))
              try simp only [Act.put, List.getElem_toArray, List.getElem_cons_succ, List.getElem_cons_zero, List.setIfInBounds_toArray, List.set_cons_zero, List.set_cons_succ]
              refine wpAnyH_take (i := 8) (v := ?_) rfl (by kernel_rfl) (by kernel_rfl) (by kernel_rfl) (fun _ _ _ h => h) (Or.inl ⟨by rfl, ?_⟩) (by assumption) ?_
              rotate_left
              · (intro w hSw; (try dsimp only at hSw); (try simp only [List.getElem_toArray, List.getElem_cons_succ, List.getElem_cons_zero]); first | (go_simp; done) | (go_simp; with_reducible rfl))
              try simp only [Act.put, List.getElem_toArray, List.getElem_cons_succ, List.getElem_cons_zero, List.setIfInBounds_toArray, List.set_cons_zero, List.set_cons_succ]
              refine wpAnyH_take (i := 9) (v := ?_) rfl (by kernel_rfl) (by kernel_rfl) (by kernel_rfl) (fun _ _ _ h => h) (Or.inl ⟨by rfl, ?_⟩) (by assumption) ?_
              rotate_left
              · (intro w hSw; (try dsimp only at hSw); (try simp only [List.getElem_toArray, List.getElem_cons_succ, List.getElem_cons_zero]); first | (go_simp; done) | (go_simp; with_reducible rfl))
              try simp only [Act.put, List.getElem_toArray, List.getElem_cons_succ, List.getElem_cons_zero, List.setIfInBounds_toArray, List.set_cons_zero, List.set_cons_succ]
              refine wpAnyH_ready (rs := [10]) (by kernel_rfl) (by simp) ?_
              refine AllReadyH.cons rfl (fun K hK => ?_) AllReadyH.nil
              try simp only [List.getElem_toArray, List.getElem_cons_succ, List.getElem_cons_zero]
              go_simp
              go_at_call 50; refine (someGroupBetters_any k A cap ws b o cr L HLM.out HNET.out HALL.out N HNN.out w13 (r13.out) (t13.out) (HIR.out.later g13)).mono ?_; rintro e14 w14 ⟨rfl, hb14⟩; rw [HBT.out]; have gg14 : Below w13.heap.size w13 w14 := hb14; have g14 : Below wr.heap.size wr w14 := bstep g13 g13.size gg14; have k14 := keep2 gg14 k13 z13; have z14 := Nat.lt_of_lt_of_le z13 gg14.size; have r14 := Lib.hid (HRR.out.later g14); have t14 := Lib.hid (HTR.out.later g14)
              refine hK.out _ _ ?_ (fun hHeld => ?_)
              · exact k14
              clear hK K
              try simp only [Act.put, List.getElem_toArray, List.getElem_cons_succ, List.getElem_cons_zero, List.setIfInBounds_toArray, List.set_cons_zero, List.set_cons_succ]
              refine wpAnyH_take (i := 11) (v := ?_) rfl (by kernel_rfl) (by kernel_rfl) (by kernel_rfl) (fun _ _ _ h => h) (Or.inl ⟨by rfl, ?_⟩) (by assumption) ?_
              rotate_left
              · (intro w hSw; (try dsimp only at hSw); (try simp only [List.getElem_toArray, List.getElem_cons_succ, List.getElem_cons_zero]); first | (go_simp; done) | (go_simp; with_reducible rfl))
              try simp only [Act.put, List.getElem_toArray, List.getElem_cons_succ, List.getElem_cons_zero, List.setIfInBounds_toArray, List.set_cons_zero, List.set_cons_succ]
              refine wpAnyH_take (i := 12) (v := ?_) rfl (by kernel_rfl) (by kernel_rfl) (by kernel_rfl) (fun _ _ _ h => h) (Or.inl ⟨by rfl, ?_⟩) (by assumption) ?_
              rotate_left
              · (intro w hSw; (try dsimp only at hSw); (try simp only [List.getElem_toArray, List.getElem_cons_succ, List.getElem_cons_zero]); first | (go_simp; done) | (go_simp; with_reducible rfl))
              try simp only [Act.put, List.getElem_toArray, List.getElem_cons_succ, List.getElem_cons_zero, List.setIfInBounds_toArray, List.set_cons_zero, List.set_cons_succ]
              refine wpAnyH_take (i := 13) (v := ?_) rfl (by kernel_rfl) (by kernel_rfl) (by kernel_rfl) (fun _ _ _ h => h) (Or.inl ⟨by rfl, ?_⟩) (by assumption) ?_
              rotate_left
              · (intro w hSw; (try dsimp only at hSw); (try simp only [List.getElem_toArray, List.getElem_cons_succ, List.getElem_cons_zero]); first | (go_simp; done) | (go_simp; with_reducible rfl))
              try simp only [Act.put, List.getElem_toArray, List.getElem_cons_succ, List.getElem_cons_zero, List.setIfInBounds_toArray, List.set_cons_zero, List.set_cons_succ]
              refine wpAnyH_done (by kernel_rfl) ?_ _
              have HB9 := Lib.hid (bstep (B := w.heap.size) (W := w) HB1.out (Nat.le_of_lt hz1_0) g14)
              go_wp2_with fail
              go_ret
              exact ⟨ret_bool HAN2.out.symm, ⟨HB9.out.os, HB9.out.tape, HB9.out.output, HB9.out.size, HB9.out.block⟩⟩
            · have HAN2 : Hid (an = false) := by show _ = _; rw [HAN.out, decide_eq_false hpe, Bool.false_and]
              have hpe2 : (PA == SC) = false := by rw [beq_eq_false_iff_ne]; exact hpe
              clear hab hn2 hn6 hpe
              go_wp2_with fail
              refine wp_region_held_drew (S := (fun w' => w'.cell? ⟨w.heap.size, 0, none⟩ = some (.int .i64 k) ∧ w'.cell? ⟨w.heap.size, 1, none⟩ = some (.slice A ws.length cap))) (by kernel_rfl) ?_ (fun hHeld => ?_)
              · exact ⟨k10, k11⟩
              refine wpAnyH_take (i := 0) (v := ?_) rfl (by kernel_rfl) (by kernel_rfl) (by kernel_rfl) (fun _ _ _ h => h) (Or.inl ⟨by rfl, ?_⟩) (by assumption) ?_
              rotate_left
              · (intro w hSw; (try dsimp only at hSw); (try simp only [List.getElem_toArray, List.getElem_cons_succ, List.getElem_cons_zero]); first | (go_simp; done) | (go_simp; with_reducible rfl))
              try simp only [Act.put, List.getElem_toArray, List.getElem_cons_succ, List.getElem_cons_zero, List.setIfInBounds_toArray, List.set_cons_zero, List.set_cons_succ]
              refine wpAnyH_take (i := 1) (v := ?_) rfl (by kernel_rfl) (by kernel_rfl) (by kernel_rfl) (fun _ _ _ h => h) (Or.inl ⟨by rfl, ?_⟩) (by assumption) ?_
              rotate_left
              · (intro w hSw; (try dsimp only at hSw); (try simp only [List.getElem_toArray, List.getElem_cons_succ, List.getElem_cons_zero]); first | (go_simp; done) | (go_simp; with_reducible rfl))
              try simp only [Act.put, List.getElem_toArray, List.getElem_cons_succ, List.getElem_cons_zero, List.setIfInBounds_toArray, List.set_cons_zero, List.set_cons_succ]
              refine wpAnyH_take (i := 4) (v := ?_) rfl (by kernel_rfl) (by kernel_rfl) (by kernel_rfl) (fun _ _ _ h => h) (Or.inl ⟨by rfl, ?_⟩) (by assumption) ?_
              rotate_left
              · (intro w hSw; (try dsimp only at hSw); (try simp only [List.getElem_toArray, List.getElem_cons_succ, List.getElem_cons_zero]); first | (go_simp; done) | (go_simp; with_reducible rfl))
              try simp only [Act.put, List.getElem_toArray, List.getElem_cons_succ, List.getElem_cons_zero, List.setIfInBounds_toArray, List.set_cons_zero, List.set_cons_succ]
              refine wpAnyH_ready (rs := [2]) (by kernel_rfl) (by simp) ?_
              refine AllReadyH.cons rfl (fun K hK => ?_) AllReadyH.nil
              try simp only [List.getElem_toArray, List.getElem_cons_succ, List.getElem_cons_zero]
              go_simp
              go_at_call 47; refine (allPlaces_any _ _ (by omega) (by omega) _).mono ?_; rintro e11 w11 ⟨rfl, hb11⟩; have gg11 : Below wr.heap.size wr w11 := und hb11; have g11 := gg11; have k11 := keep2 gg11 ⟨k10, k11⟩ hz1_0; have z11 := Nat.lt_of_lt_of_le hz1_0 gg11.size; have r11 := Lib.hid (HRR.out.later g11); have t11 := Lib.hid (HTR.out.later g11)
              refine hK.out _ _ ?_ (fun hHeld => ?_)
              · exact k11
              clear hK K
              try simp only [Act.put, List.getElem_toArray, List.getElem_cons_succ, List.getElem_cons_zero, List.setIfInBounds_toArray, List.set_cons_zero, List.set_cons_succ]
              refine wpAnyH_ready (rs := [3]) (by kernel_rfl) (by simp) ?_
              refine AllReadyH.cons rfl (fun K hK => ?_) AllReadyH.nil
              try simp only [List.getElem_toArray, List.getElem_cons_succ, List.getElem_cons_zero]
              go_simp
              go_at_call 49; refine (groupPays_any _ hal0 hal1 b o cr k L HLM.out hk6 HALL.out w11 (HIR.out.later g11)).mono ?_; rintro e12 w12 ⟨rfl, hb12⟩; rw [HPA.out]; have gg12 : Below w11.heap.size w11 w12 := hb12; have g12 : Below wr.heap.size wr w12 := bstep g11 g11.size gg12; have k12 := keep2 gg12 k11 z11; have z12 := Nat.lt_of_lt_of_le z11 gg12.size; have r12 := Lib.hid (HRR.out.later g12); have t12 := Lib.hid (HTR.out.later g12)
              refine hK.out _ _ ?_ (fun hHeld => ?_)
              · exact k12
              clear hK K
              try simp only [Act.put, List.getElem_toArray, List.getElem_cons_succ, List.getElem_cons_zero, List.setIfInBounds_toArray, List.set_cons_zero, List.set_cons_succ]
              refine wpAnyH_ready (rs := [5]) (by kernel_rfl) (by simp) ?_
              refine AllReadyH.cons rfl (fun K hK => ?_) AllReadyH.nil
              try simp only [List.getElem_toArray, List.getElem_cons_succ, List.getElem_cons_zero]
              go_simp
              go_at_call 21; refine (SpanCost_any _ _ _ _ w12 (r12.out) (t12.out)).mono ?_; rintro e13 w13 ⟨rfl, hb13⟩; rw [HSC.out]; have gg13 : Below w12.heap.size w12 w13 := hb13; have g13 : Below wr.heap.size wr w13 := bstep g12 g12.size gg13; have k13 := keep2 gg13 k12 z12; have z13 := Nat.lt_of_lt_of_le z12 gg13.size; have r13 := Lib.hid (HRR.out.later g13); have t13 := Lib.hid (HTR.out.later g13)
              refine hK.out _ _ ?_ (fun hHeld => ?_)
              · exact k13
              clear hK K
              try simp only [Act.put, List.getElem_toArray, List.getElem_cons_succ, List.getElem_cons_zero, List.setIfInBounds_toArray, List.set_cons_zero, List.set_cons_succ]
              refine wpAnyH_take (i := 6) (v := ?_) rfl (by kernel_rfl) (by kernel_rfl) (by kernel_rfl) (fun _ _ _ h => h) (Or.inl ⟨by rfl, ?_⟩) (by assumption) ?_
              rotate_left
              · (intro w hSw; (try dsimp only at hSw); (try simp only [List.getElem_toArray, List.getElem_cons_succ, List.getElem_cons_zero]); first | (go_simp; done) | (go_simp; with_reducible rfl))
              try simp only [Act.put, List.getElem_toArray, List.getElem_cons_succ, List.getElem_cons_zero, List.setIfInBounds_toArray, List.set_cons_zero, List.set_cons_succ]
              refine wpAnyH_take (i := 7) (v := ?_) rfl (by kernel_rfl) (by kernel_rfl) (by kernel_rfl) (fun _ _ _ h => h) (Or.inl ⟨by rfl, ?_⟩) (by assumption) ?_
              rotate_left
              · (intro w hSw; (try dsimp only at hSw); (try simp only [List.getElem_toArray, List.getElem_cons_succ, List.getElem_cons_zero]); first | (go_simp; done) | (go_simp; with_reducible rfl))
              try simp only [Act.put, List.getElem_toArray, List.getElem_cons_succ, List.getElem_cons_zero, List.setIfInBounds_toArray, List.set_cons_zero, List.set_cons_succ]
              refine wpAnyH_take (i := 8) (v := undef) rfl (by kernel_rfl) (by kernel_rfl) (by kernel_rfl) (fun _ _ _ h => h) (Or.inr ⟨by rfl, rfl⟩) (by assumption) ?_
              try simp only [Act.put, List.getElem_toArray, List.getElem_cons_succ, List.getElem_cons_zero, List.setIfInBounds_toArray, List.set_cons_zero, List.set_cons_succ]
              refine wpAnyH_take (i := 9) (v := undef) rfl (by kernel_rfl) (by kernel_rfl) (by kernel_rfl) (fun _ _ _ h => h) (Or.inr ⟨by rfl, rfl⟩) (by assumption) ?_
              try simp only [Act.put, List.getElem_toArray, List.getElem_cons_succ, List.getElem_cons_zero, List.setIfInBounds_toArray, List.set_cons_zero, List.set_cons_succ]
              refine wpAnyH_take (i := 10) (v := undef) rfl (by kernel_rfl) (by kernel_rfl) (by kernel_rfl) (fun _ _ _ h => h) (Or.inr ⟨by rfl, rfl⟩) (by assumption) ?_
              try simp only [Act.put, List.getElem_toArray, List.getElem_cons_succ, List.getElem_cons_zero, List.setIfInBounds_toArray, List.set_cons_zero, List.set_cons_succ]
              refine wpAnyH_take (i := 11) (v := undef) rfl (by kernel_rfl) (by kernel_rfl) (by kernel_rfl) (fun _ _ _ h => h) (Or.inr ⟨by rfl, rfl⟩) (by assumption) ?_
              try simp only [Act.put, List.getElem_toArray, List.getElem_cons_succ, List.getElem_cons_zero, List.setIfInBounds_toArray, List.set_cons_zero, List.set_cons_succ]
              refine wpAnyH_take (i := 12) (v := ?_) rfl (by kernel_rfl) (by kernel_rfl) (by kernel_rfl) (fun _ _ _ h => h) (Or.inl ⟨by rfl, ?_⟩) (by assumption) ?_
              rotate_left
              · (intro w hSw; (try dsimp only at hSw); (try simp only [List.getElem_toArray, List.getElem_cons_succ, List.getElem_cons_zero]); first | (go_simp; done) | (go_simp; with_reducible rfl))
              try simp only [Act.put, List.getElem_toArray, List.getElem_cons_succ, List.getElem_cons_zero, List.setIfInBounds_toArray, List.set_cons_zero, List.set_cons_succ]
              refine wpAnyH_take (i := 13) (v := ?_) rfl (by kernel_rfl) (by kernel_rfl) (by kernel_rfl) (fun _ _ _ h => h) (Or.inl ⟨by rfl, ?_⟩) (by assumption) ?_
              rotate_left
              · (intro w hSw; (try dsimp only at hSw); (try simp only [List.getElem_toArray, List.getElem_cons_succ, List.getElem_cons_zero]); first | (go_simp; done) | (go_simp; with_reducible rfl))
              try simp only [Act.put, List.getElem_toArray, List.getElem_cons_succ, List.getElem_cons_zero, List.setIfInBounds_toArray, List.set_cons_zero, List.set_cons_succ]
              refine wpAnyH_done (by kernel_rfl) ?_ _
              have HB9 := Lib.hid (bstep (B := w.heap.size) (W := w) HB1.out (Nat.le_of_lt hz1_0) g13)
              go_wp2_with fail
              go_ret
              exact ⟨ret_bool HAN2.out.symm, ⟨HB9.out.os, HB9.out.tape, HB9.out.output, HB9.out.size, HB9.out.block⟩⟩
      · have HF : Hid (an = false) := HNO0.out h2
        have h2b : (r0 != 0) = true := by simpa using h2
        go_enter Tryd.func22, Tryd.ntmps22
        go_wp2_with fail
        refine (NetOk_any _ _ _ _ _ (HR.out.later (by go_grown))).mono ?_; rintro e w1 ⟨rfl, hb1⟩
        rw [HN.out]
        obtain ⟨hc1, hf1⟩ := bcell hb1
        have hz1_0 : w.heap.size < w1.heap.size := by have hq := hb1.size; (try simp at hq); omega
        have HK1 := Lib.hid hb1
        have HB1 := Lib.hid (bstep (B := w.heap.size) (W := w) (by (try have hp := HB0.out); go_grown) (by go_size) hb1); clear hb1
        have q0 := HQ0.out _ HB1.out
        have k10 : w1.cell? ⟨w.heap.size, 0, none⟩ = some (.int .i64 m) := by go_simp
        clear hc1 hf1
        go_wp2_with fail
        go_ret
        exact ⟨ret_bool HF.out.symm, HB1.out⟩
    · have HF : Hid (sharesOk n ws L = false) := sharesOk_no1 h1
      have h1b : ((L.length : Int) != n) = true := by simpa using h1
      rw [HF.out]
      clear hno hni h1
      go_enter Tryd.func22, Tryd.ntmps22
      go_wp2_with fail
      refine (NetOk_any _ _ _ _ _ (HR.out.later (by go_grown))).mono ?_; rintro e w1 ⟨rfl, hb1⟩
      rw [HN.out]
      obtain ⟨hc1, hf1⟩ := bcell hb1
      have hz1_0 : w.heap.size < w1.heap.size := by have hq := hb1.size; (try simp at hq); omega
      have HK1 := Lib.hid hb1
      have HB1 := Lib.hid (bstep (B := w.heap.size) (W := w) (by (try have hp := HB0.out); go_grown) (by go_size) hb1); clear hb1
      go_wp2_with fail
      go_ret
      exact ⟨rfl, HB1.out⟩
end Go.Proofs.YtfpaalmbllhmaaaDoor
