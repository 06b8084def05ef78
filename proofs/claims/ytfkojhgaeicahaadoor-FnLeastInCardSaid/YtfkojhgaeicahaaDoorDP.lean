/- Pruned, of the program and of its model. -/
import Derived.Test.YtfkojhgaeicahaaDoorDB
import Derived.Test.YtfkojhgaeicahaaDoorWL
import Derived.Test.YtfkojhgaeicahaaDoorLO
import Derived.Test.YtfkojhgaeicahaaDoorMem
import Derived.Deep.RegionHeld3
set_option linter.unusedSimpArgs false
set_option linter.unusedVariables false
namespace Go.Proofs.YtfkojhgaeicahaaDoor
open Go.ChangeShapes Go.WideShapes Go.ChangeAt Go.RowKit

/-- the ways of the set among the first k that have a place of p -/
def atTo (ws : List Wy) (s p : Int) : Nat → Int
  | 0 => 0
  | k + 1 => match ws[k]? with
    | some x => if bit s k = true ∧ iand (wayPl x) p ≠ 0 then ior (atTo ws s p k) (2 ^ k) else atTo ws s p k
    | none => atTo ws s p k
theorem atTo_yes {ws : List Wy} {s p : Int} {k : Nat} {x : Wy} (hx : ws[k]? = some x) (hb : bit s k = true) (hi : iand (wayPl x) p ≠ 0) : atTo ws s p (k + 1) = ior (atTo ws s p k) (2 ^ k) := by
  rw [atTo, hx]; simp only; rw [if_pos ⟨hb, hi⟩]
theorem atTo_no {ws : List Wy} {s p : Int} {k : Nat} {x : Wy} (hx : ws[k]? = some x) (h : ¬ (bit s k = true ∧ iand (wayPl x) p ≠ 0)) : atTo ws s p (k + 1) = atTo ws s p k := by
  rw [atTo, hx]; simp only; rw [if_neg h]
theorem bit_shlN (k : Nat) (i : Int) (hi : 0 ≤ i) : bit (2 ^ k) i = decide (i = k) := by
  have := bit_shl (k : Int) i (by omega) hi
  rwa [Int.toNat_natCast] at this
theorem atTo_bd (ws : List Wy) (s p : Int) : ∀ k, 0 ≤ atTo ws s p k ∧ atTo ws s p k < 2 ^ k
  | 0 => by simp [atTo]
  | k + 1 => by
    have ih := atTo_bd ws s p k
    have h1 : ((2 : Int) ^ (k + 1)) = 2 ^ k * 2 := Int.pow_succ 2 k
    have h2 := pow_bd k k (by omega)
    rw [Int.toNat_natCast] at h2
    cases hx : ws[k]? with
    | none => rw [atTo, hx]; simp only; omega
    | some x =>
      by_cases hc : bit s k = true ∧ iand (wayPl x) p ≠ 0
      · rw [atTo_yes hx hc.1 hc.2]
        exact ior_bd _ _ (k + 1) (by omega) (by omega)
      · rw [atTo_no hx hc]; omega
theorem atTo_sub (ws : List Wy) (s p : Int) : ∀ (k : Nat) (q : Int), 0 ≤ q → bit (atTo ws s p k) q = true → bit s q = true
  | 0, q, _, h => by rw [atTo, bit_zero_] at h; cases h
  | k + 1, q, hq, h => by
    cases hx : ws[k]? with
    | none => rw [atTo, hx] at h; exact atTo_sub ws s p k q hq h
    | some x =>
      by_cases hc : bit s k = true ∧ iand (wayPl x) p ≠ 0
      · rw [atTo_yes hx hc.1 hc.2, bit_ior, bit_shlN k q hq] at h
        simp only [Bool.or_eq_true] at h
        rcases h with h | h
        · exact atTo_sub ws s p k q hq h
        · have : q = k := by simpa using h
          rw [this]; exact hc.1
      · rw [atTo_no hx hc] at h; exact atTo_sub ws s p k q hq h
/-- the ways with a leaf that is no end -/
def needl (ws : List Wy) (e s : Int) : Int := atTo ws s (idiff (lvs ws s) e) ws.length
theorem needl_bd (ws : List Wy) (e s : Int) (hl : ws.length ≤ 9) : 0 ≤ needl ws e s ∧ needl ws e s < 512 := by
  have h := atTo_bd ws s (idiff (lvs ws s) e) ws.length
  have h2 := pow_bd (ws.length : Int) 9 (by omega)
  rw [Int.toNat_natCast] at h2
  unfold needl; omega
theorem idiff_less {s m : Int} (h0 : 0 ≤ s) (hm : m ≠ 0) (hm0 : 0 ≤ m) (hs : ∀ q, 0 ≤ q → bit m q = true → bit s q = true) : 0 ≤ idiff s m ∧ idiff s m < s := by
  have hb := idiff_bd s m h0
  refine ⟨hb.1, ?_⟩
  apply Classical.byContradiction
  intro hn
  have he : idiff s m = s := by omega
  apply hm
  refine set_ext hm0 (Int.le_refl 0) fun q hq => ?_
  rw [bit_zero_]
  cases hq' : bit m q
  · rfl
  · have h1 := bit_idiff s m q
    rw [he, hq', hs q hq hq'] at h1
    cases h1
theorem needl_less {ws : List Wy} {e s : Int} (h0 : 0 ≤ s) (h : needl ws e s ≠ 0) : 0 ≤ idiff s (needl ws e s) ∧ idiff s (needl ws e s) < s :=
  idiff_less h0 h (atTo_bd ws s _ _).1 (fun q hq hb => atTo_sub ws s _ _ q hq hb)
def prF (ws : List Wy) (e : Int) : Nat → Int → Int
  | 0, s => s
  | f + 1, s => if needl ws e s = 0 then s else prF ws e f (idiff s (needl ws e s))
theorem needl_zero (ws : List Wy) (e : Int) : needl ws e 0 = 0 := by
  have h := atTo_bd ws 0 (idiff (lvs ws 0) e) ws.length
  refine set_ext h.1 (Int.le_refl 0) fun q hq => ?_
  rw [bit_zero_]
  cases hq' : bit (needl ws e 0) q
  · rfl
  · have := atTo_sub ws 0 _ _ q hq hq'
    rw [bit_zero_] at this; cases this
theorem prF_more (ws : List Wy) (e : Int) : ∀ (f g : Nat) (s : Int), 0 ≤ s → s.toNat ≤ f → s.toNat ≤ g → prF ws e f s = prF ws e g s
  | 0, 0, _, _, _, _ => rfl
  | 0, g + 1, s, h0, hf, _ => by
    have : s = 0 := by omega
    subst this
    rw [prF, prF, if_pos (needl_zero ws e)]
  | f + 1, 0, s, h0, _, hg => by
    have : s = 0 := by omega
    subst this
    rw [prF, prF, if_pos (needl_zero ws e)]
  | f + 1, g + 1, s, h0, hf, hg => by
    rw [prF, prF]
    by_cases h : needl ws e s = 0
    · rw [if_pos h, if_pos h]
    · rw [if_neg h, if_neg h]
      have := needl_less h0 h
      exact prF_more ws e f g _ this.1 (by omega) (by omega)
/-- what is left of the set in the end -/
def pr (ws : List Wy) (e s : Int) : Int := prF ws e s.toNat s
theorem pr_done {ws : List Wy} {e s : Int} (h0 : 0 ≤ s) (h : needl ws e s = 0) : pr ws e s = s := by
  unfold pr
  rw [prF_more ws e s.toNat (s.toNat + 1) s h0 (Nat.le_refl _) (by omega), prF, if_pos h]
theorem pr_step {ws : List Wy} {e s : Int} (h0 : 0 ≤ s) (h : needl ws e s ≠ 0) : pr ws e s = pr ws e (idiff s (needl ws e s)) := by
  have hl := needl_less h0 h
  unfold pr
  rw [prF_more ws e s.toNat (s.toNat + 1) s h0 (Nat.le_refl _) (by omega), prF, if_neg h]
  exact prF_more ws e _ _ _ hl.1 (by omega) (Nat.le_refl _)

set_option maxHeartbeats 1000000 in
theorem waysAt_any (n s p : Int) (A : Option Addr) (cap : Nat) (ws : List Wy) (w : World) (hr : RW w w.heap.size A ws) (hn : NetIs n ws) (h2 : 0 ≤ s) (h3 : s ≤ 1048576) (hp0 : 0 ≤ p) (hp1 : p < 64) :
    Calls Tryd.prog 73 #[.agg #[.int .i64 n, .slice A ws.length cap], .int .i64 s, .int .i64 p] w fun e w' => e = .returned (.int .i64 (atTo ws s p ws.length)) ∧ Below w.heap.size w w' := by
  have HR := Lib.hid hr
  have HS := Lib.hid hn
  have hm := hn.len
  clear hr hn
  go_enter Tryd.func73, Tryd.ntmps73
  go_wp2_with fail
  go_loopw [7, 13] (fun c i wr => ∃ k : Nat, k ≤ ws.length ∧ i = .int .i64 k ∧ c = .int .i64 (atTo ws s p k) ∧ Below w.heap.size w wr ∧ w.heap.size < wr.heap.size) (fun _ i _ => ws.length - (intOf i).toNat)
  case atStart => exact ⟨0, Nat.zero_le _, rfl, rfl, by go_grown, by simp⟩
  case round =>
    obtain ⟨k, hk, rfl, rfl, hb, hz⟩ := hrel
    by_cases hlt : k < ws.length
    · obtain ⟨x, hx⟩ : ∃ x, ws[k]? = some x := ⟨_, List.getElem?_eq_getElem hlt⟩
      obtain ⟨b, o, rfl, hB, c0, c1, c2⟩ := HR.out.below hb k x hx
      have HX := Lib.hid hx
      have hat := atTo_bd ws s p k
      have hpk := pow_bd (k : Int) 8 (by omega)
      rw [Int.toNat_natCast] at hpk
      have hv0 := hat.1
      have hv1 : atTo ws s p k < 256 := by omega
      have hbx := wayPl_bd HS.out hx
      have hxa := HS.out.at_ hx
      have h6 := HS.out.hi
      have ha0 : 0 ≤ x.a := by omega
      have ha1 : x.a ≤ 5 := by omega
      have hb0 : 0 ≤ x.b := by omega
      have hb1 : x.b ≤ 5 := by omega
      have HB0 := Lib.hid hb
      clear hx hb hxa hat
      cases hbit : bit s k
      · have HY := Lib.hid (atTo_no (s := s) (p := p) HX.out (by rw [hbit]; simp))
        have Hbit := Lib.hid hbit
        clear hbit
        go_wp2_with fail
        refine (inSet_any _ _ (by omega) (by omega) h2 h3 _).mono ?_; rintro e w' ⟨rfl, rfl⟩; rw [Hbit.out]
        go_wp2_with fail
        go_roundw
        case rel => exact ⟨k + 1, by omega, by go_num, by rw [HY.out], by have := HB0.out; go_grown, by go_size⟩
        case measure => simp [intOf]; omega
      · have HA := Lib.hid (bits_and (wayPl x) p (by omega) (by omega) (by omega) (by omega))
        have Hbit := Lib.hid hbit
        by_cases hi : iand (wayPl x) p = 0
        · have HY := Lib.hid (atTo_no (s := s) (p := p) HX.out (by intro hh; exact hh.2 hi))
          have HT : Hid ((bits .and .i64 (wayPl x) p != 0) = false) := by
            show (bits .and .i64 (wayPl x) p != 0) = false
            rw [HA.out, hi]; rfl
          clear hbit hi
          go_wp2_with fail
          refine (inSet_any _ _ (by omega) (by omega) h2 h3 _).mono ?_; rintro e w' ⟨rfl, rfl⟩; rw [Hbit.out]
          go_wp2_with fail
          refine (wayPlaces_any x ha0 ha1 hb0 hb1 _).mono ?_; rintro e w2 ⟨rfl, hb2⟩
          have hz2 : w.heap.size < w2.heap.size := by have hq := hb2.size; simp at hq; omega
          have HB2 := Lib.hid (bstep (B := w.heap.size) (W := w) (by have := HB0.out; go_grown) (by go_size) hb2)
          have ht := HT.out
          clear hb2
          go_wp2_with fail
          go_roundw
          case rel => exact ⟨k + 1, by omega, by go_num, by rw [HY.out], HB2.out, hz2⟩
          case measure => simp [intOf]; omega
        · have HY := Lib.hid (atTo_yes (s := s) (p := p) HX.out hbit hi)
          have HT : Hid ((bits .and .i64 (wayPl x) p != 0) = true) := by
            show (bits .and .i64 (wayPl x) p != 0) = true
            rw [HA.out]; simp [hi]
          have HO2 := Lib.hid (bits_or (atTo ws s p k) (2 ^ k) (by omega) (by omega) (by omega) (by omega))
          clear hbit hi
          go_wp2_with fail
          refine (inSet_any _ _ (by omega) (by omega) h2 h3 _).mono ?_; rintro e w' ⟨rfl, rfl⟩; rw [Hbit.out]
          go_wp2_with fail
          refine (wayPlaces_any x ha0 ha1 hb0 hb1 _).mono ?_; rintro e w2 ⟨rfl, hb2⟩
          have hz2 : w.heap.size < w2.heap.size := by have hq := hb2.size; simp at hq; omega
          have HB2 := Lib.hid (bstep (B := w.heap.size) (W := w) (by have := HB0.out; go_grown) (by go_size) hb2)
          have ht := HT.out
          clear hb2
          go_wp2_with fail
          go_roundw
          case rel => exact ⟨k + 1, by omega, by go_num, by rw [HY.out, HO2.out], HB2.out, hz2⟩
          case measure => simp [intOf]; omega
    · have hkl : k = ws.length := by omega
      subst hkl
      go_wp2_with fail
      go_ret
      exact ⟨rfl, hb⟩

noncomputable def prunedOf (n : Int) (ws : List Wy) (s e : Int) : Int := if (treeOk n ws s && plOk n e) = true then pr ws e s else -1
theorem setOk_less {n : Int} {ws : List Wy} {s t : Int} (h : setOk n ws s = true) (h0 : 0 ≤ t) (h1 : t ≤ s) : setOk n ws t = true := by
  unfold setOk at h ⊢
  simp only [Bool.and_eq_true, decide_eq_true_eq] at h ⊢
  exact ⟨⟨h.1.1, h0⟩, by omega⟩
theorem lvs_bd {n : Int} {ws : List Wy} (hn : NetIs n ws) (s : Int) : 0 ≤ lvs ws s ∧ lvs ws s < 64 := by
  obtain ⟨⟨o0, o1⟩, _⟩ := lvTo_bd hn s ws.length
  have := idiff_bd (lvTo ws s ws.length).1 (lvTo ws s ws.length).2 o0
  unfold lvs; omega

set_option maxHeartbeats 2000000 in
theorem Pruned_any (n s e : Int) (A : Option Addr) (cap : Nat) (ws : List Wy) (w : World) (hr : RW w w.heap.size A ws) (hT : Tab w) :
    Calls Tryd.prog 35 #[.agg #[.int .i64 n, .slice A ws.length cap], .int .i64 s, .int .i64 e] w fun en w' => en = .returned (.int .i64 (prunedOf n ws s e)) ∧ Below w.heap.size w w' := by
  have HR := Lib.hid hr
  have HT := Lib.hid hT
  clear hr hT
  unfold prunedOf
  cases ht : treeOk n ws s
  · have HT0 := Lib.hid ht
    rw [Bool.false_and, if_neg (by simp)]
    clear ht
    go_enter Tryd.func35, Tryd.ntmps35
    go_wp2_with fail
    refine (TreeOk_any _ _ _ _ _ _ (HR.out.later (by go_grown)) (HT.out.later (by go_grown))).mono ?_; rintro e w1 ⟨rfl, hb1⟩
    rw [HT0.out]
    obtain ⟨hc1, hf1⟩ := bcell hb1
    have hz1_0 : w.heap.size < w1.heap.size := by have hq := hb1.size; (try simp at hq); omega
    have HK1 := Lib.hid hb1
    have HB1 := Lib.hid (bstep (B := w.heap.size) (W := w) (by (try have hp := HB0.out); go_grown) (by go_size) hb1); clear hb1
    go_wp2_with fail
    go_ret
    exact ⟨rfl, HB1.out⟩
  · have HT0 := Lib.hid ht
    have hso : setOk n ws s = true := by unfold treeOk at ht; simp only [Bool.and_eq_true] at ht; exact ht.1
    have HSO := Lib.hid hso
    obtain ⟨hnet, hs0, hs1, hs2⟩ := setOk_t hso
    have HS := Lib.hid hnet
    have hn0 := hnet.lo
    have hn6 := hnet.hi
    have hl9 := hnet.len
    have hpn := pow_bd n 6 (by omega)
    rw [Bool.true_and]
    clear ht hnet hso
    cases hp : plOk n e
    · have HP : Hid ((decide (0 ≤ e) && decide (e < 2 ^ n.toNat)) = false) := hp
      rw [if_neg (by simp)]
      clear hp hpn
      go_enter Tryd.func35, Tryd.ntmps35
      go_wp2_with fail
      refine (TreeOk_any _ _ _ _ _ _ (HR.out.later (by go_grown)) (HT.out.later (by go_grown))).mono ?_; rintro e w1 ⟨rfl, hb1⟩
      rw [HT0.out]
      obtain ⟨hc1, hf1⟩ := bcell hb1
      have hz1_0 : w.heap.size < w1.heap.size := by have hq := hb1.size; (try simp at hq); omega
      have HK1 := Lib.hid hb1
      have HB1 := Lib.hid (bstep (B := w.heap.size) (W := w) (by (try have hp := HB0.out); go_grown) (by go_size) hb1); clear hb1
      go_wp2_with fail
      refine (hasPlaces_any _ _ _ (by omega) (by omega) _).mono ?_; rintro e w2 ⟨rfl, hb2⟩
      rw [HP.out]
      obtain ⟨hc2, hf2⟩ := bcell hb2
      have hz2_0 : w.heap.size < w2.heap.size := by have hq := hb2.size; (try simp at hq); omega
      have HK2 := Lib.hid hb2
      have HB2 := Lib.hid (bstep (B := w.heap.size) (W := w) (by have hp := HB1.out; go_grown) (by go_size) hb2); clear hb2
      go_wp2_with fail
      go_ret
      exact ⟨rfl, HB2.out⟩
    · have HP : Hid ((decide (0 ≤ e) && decide (e < 2 ^ n.toNat)) = true) := hp
      obtain ⟨he0, he1⟩ := plOk_t hp
      have he2 : e < 64 := by omega
      rw [if_pos rfl]
      clear hp he1 hpn
      go_enter Tryd.func35, Tryd.ntmps35
      go_wp2_with fail
      refine (TreeOk_any _ _ _ _ _ _ (HR.out.later (by go_grown)) (HT.out.later (by go_grown))).mono ?_; rintro e w1 ⟨rfl, hb1⟩
      rw [HT0.out]
      obtain ⟨hc1, hf1⟩ := bcell hb1
      have hz1_0 : w.heap.size < w1.heap.size := by have hq := hb1.size; (try simp at hq); omega
      have HK1 := Lib.hid hb1
      have HB1 := Lib.hid (bstep (B := w.heap.size) (W := w) (by (try have hp := HB0.out); go_grown) (by go_size) hb1); clear hb1
      go_wp2_with fail
      refine (hasPlaces_any _ _ _ (by omega) (by omega) _).mono ?_; rintro e w2 ⟨rfl, hb2⟩
      rw [HP.out]
      obtain ⟨hc2, hf2⟩ := bcell hb2
      have hz2_0 : w.heap.size < w2.heap.size := by have hq := hb2.size; (try simp at hq); omega
      have HK2 := Lib.hid hb2
      have HB2 := Lib.hid (bstep (B := w.heap.size) (W := w) (by have hp := HB1.out; go_grown) (by go_size) hb2); clear hb2
      go_wp2_with fail
      have k2 : w2.cell? ⟨w.heap.size, 0, none⟩ = some (.int .i64 n) ∧ w2.cell? ⟨w.heap.size, 1, none⟩ = some (.slice A ws.length cap) := ⟨by go_simp, by go_simp⟩
      go_loopw [1] (fun c wr => ∃ t : Int, c = .int .i64 t ∧ 0 ≤ t ∧ t ≤ s ∧ pr ws e t = pr ws e s ∧ wr.cell? ⟨w.heap.size, 0, none⟩ = some (.int .i64 n) ∧ wr.cell? ⟨w.heap.size, 1, none⟩ = some (.slice A ws.length cap) ∧ Below w.heap.size w wr ∧ w.heap.size < wr.heap.size) (fun c _ => (intOf c).toNat)
      case atStart => exact ⟨s, rfl, hs0, Int.le_refl _, rfl, k2.1, k2.2, HB2.out, hz2_0⟩
      case round =>
        clear k2
        obtain ⟨t, rfl, ht0, ht1, hpr, b0, b1, hb, hz⟩ := hrel
        have HPR := Lib.hid hpr
        have HB0 := Lib.hid hb
        have HRR := Lib.hid (HR.out.later hb)
        have HL : Hid (leavesOf n ws t = lvs ws t) := by show leavesOf n ws t = _; unfold leavesOf; rw [if_pos (setOk_less HSO.out ht0 ht1)]
        have hlb := lvs_bd HS.out t
        obtain ⟨p, hpd⟩ : ∃ p : Int, bits .andNot .i64 (lvs ws t) e = p := ⟨_, rfl⟩
        have hpi : p = idiff (lvs ws t) e := by rw [← hpd]; exact bits_andNot (lvs ws t) e (by omega) (by omega) (by omega) (by omega)
        have hdb := idiff_bd (lvs ws t) e hlb.1
        rw [← hpi] at hdb
        have hnb := needl_bd ws e t hl9
        have HN : Hid (atTo ws t p ws.length = needl ws e t) := by rw [hpi]; rfl
        have hlb0 := hlb.1
        have hlb1 := hlb.2
        have hdb0 := hdb.1
        have hdb1 : p < 64 := by omega
        have hnb0 := hnb.1
        have hnb1 := hnb.2
        clear hpr hb hlb hdb hnb hpi
        go_wp2_with fail
        go_region_held3 (fun w' => w'.cell? ⟨w.heap.size, 0, none⟩ = some (.int .i64 n) ∧ w'.cell? ⟨w.heap.size, 1, none⟩ = some (.slice A ws.length cap))
          (first | exact k4 | exact k3 | exact ⟨b0, b1⟩)
          (first
            | (go_at_call 74; refine (LeavesOf_any n t A cap ws _ (HRR.out.drewNR _)).mono ?_; rintro e3 w3 ⟨rfl, hb3⟩; rw [HL.out]; have g3 : Below wr.heap.size wr w3 := und hb3; have k3 := keep2 g3 ⟨b0, b1⟩ hz; have r3 := Lib.hid (HRR.out.later g3); have z3 := Nat.lt_of_lt_of_le hz g3.size)
            | (go_at_call 73; refine (waysAt_any n t p A cap ws w3 r3.out HS.out ht0 (by omega) hdb0 hdb1).mono ?_; rintro e4 w4 ⟨rfl, hb4⟩; rw [HN.out]; have k4 := keep2 hb4 k3 z3; have z4 := Nat.lt_of_lt_of_le z3 hb4.size))
        have HB4 := Lib.hid (bstep (B := w.heap.size) (W := w) (bstep HB0.out (by omega) g3) (by omega) hb4)
        clear g3 hb3 hb4
        by_cases hz0 : needl ws e t = 0
        · have HZ := Lib.hid hz0
          have hze : (needl ws e t == 0) = true := by rw [hz0]; rfl
          clear hz0
          go_wp2_with fail
          go_ret
          exact ⟨ret_int (by rw [← HPR.out, pr_done ht0 HZ.out]), HB4.out⟩
        · have hnl := needl_less ht0 hz0
          have HST := Lib.hid (pr_step ht0 hz0)
          have hze : (needl ws e t == 0) = false := by simp [hz0]
          have HDD := Lib.hid (bits_andNot t (needl ws e t) (by omega) (by omega) (by omega) (by omega))
          clear hz0
          go_wp2_with fail
          go_roundw
          case rel => exact ⟨idiff t (needl ws e t), by rw [HDD.out], hnl.1, by omega, by rw [← HST.out, HPR.out], k4.1, k4.2, HB4.out, z4⟩
          case measure => rw [HDD.out]; simp [intOf]; omega
end Go.Proofs.YtfkojhgaeicahaaDoor
