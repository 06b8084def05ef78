/- What the laws of cuts say, in plain mathematics. -/
import Derived.Test.YtgnjjiljipgbnaaDoorCuC
import Derived.Test.YtgnjjiljipgbnaaDoorCuB
import Derived.Test.YtgnjjiljipgbnaaDoorMD
import Derived.Test.YtgnjjiljipgbnaaDoorMG
import Derived.Test.YtgnjjiljipgbnaaDoorMK
set_option linter.unusedSimpArgs false
set_option linter.unusedVariables false
namespace Go.Proofs.YtgnjjiljipgbnaaDoor
open Go.RowKit

theorem cutWays_is {n : Int} {ws : List Wy} {P : Int} (h : netOk n ws = true) (h' : plOk n P = true) : cutWays n ws P = cw ws P := by unfold cutWays; rw [h, h']; rfl
theorem cutWays_no {n : Int} {ws : List Wy} {P : Int} (h : (netOk n ws && plOk n P) = false) : cutWays n ws P = -1 := by unfold cutWays; rw [if_neg (by rw [h]; simp)]
theorem plOk_rest {m : Nat} {P : Int} (h : plOk (m : Int) P = true) : plOk (m : Int) (2 ^ m - 1 - P) = true := by
  obtain ⟨p0, p1⟩ := plOk_t h
  rw [Int.toNat_natCast] at p1
  exact plOk_mk (by omega) (by rw [Int.toNat_natCast]; omega)
theorem cutWays_rest {m : Nat} {ws : List Wy} {P : Int} (h : netOk (m : Int) ws = true) (h' : plOk (m : Int) P = true) : cutWays (m : Int) ws (2 ^ m - 1 - P) = cw ws P := by
  obtain ⟨p0, p1⟩ := plOk_t h'
  rw [Int.toNat_natCast] at p1
  rw [cutWays_is h (plOk_rest h'), cw_other (netOk_t h) p0 p1]
/-- without its ways nothing leaves the cut -/
theorem cut_alone {m : Nat} {ws : List Wy} {P : Int} (h : netOk (m : Int) ws = true) (h' : plOk (m : Int) P = true) {k : Nat} (hk : k < m) (hb : bit P k = true) :
    ∃ R, reachOf (m : Int) ws (full ws.length - cw ws P) k = R ∧ 0 ≤ R ∧ R < 64 ∧ idiff R P = 0 := by
  have hn := netOk_t h
  obtain ⟨p0, p1⟩ := plOk_t h'
  rw [Int.toNat_natCast] at p1
  have hcw := cw_bd ws P
  have hset : setOk (m : Int) ws (full ws.length - cw ws P) = true := setOk_mk h (by omega) (by omega)
  have hpl : hasPl (m : Int) k = true := by unfold hasPl; simp; omega
  have hri := reach_is (s := full ws.length - cw ws P) hn (p := (k : Int)) (by omega) (by omega)
  refine ⟨_, by unfold reachOf; rw [if_pos ⟨hset, hpl⟩], hri.lo, ?_, ?_⟩
  · have := hri.hi
    omega
  · rw [idiff_zero hri.lo]
    intro q hq hbq
    exact cut_closed hn (by omega) (by omega) hb hq hbq
/-- a root has a way of each cut that parts its ends -/
theorem root_meets {m : Nat} {ws : List Wy} {e P : Int} (h : netOk (m : Int) ws = true) (he : plOk (m : Int) e = true) (hp : plOk (m : Int) P = true) (hpp : parts e P = true) (hr : 0 ≤ rootOf (m : Int) ws e) : iand (rootOf (m : Int) ws e) (cw ws P) ≠ 0 := by
  have hn := netOk_t h
  obtain ⟨e0, e1⟩ := plOk_t he
  rw [Int.toNat_natCast] at e1
  have hro : rootOf (m : Int) ws e = best ws e := by unfold rootOf; rw [h, he]; rfl
  rw [hro] at hr ⊢
  have hj := best_joins hr
  obtain ⟨k, x, hx, hb, hc⟩ := cut_meets hn e0 e1 hj hpp
  intro hz
  have h1 : bit (iand (best ws e) (cw ws P)) (k : Int) = true := by rw [bit_iand, hb, cw_bit hx, hc]; rfl
  rw [hz, bit_zero_] at h1
  cases h1
theorem partsEnds_rest {m : Nat} {ws : List Wy} {e P : Int} (h : netOk (m : Int) ws = true) (he : plOk (m : Int) e = true) (hp : plOk (m : Int) P = true) : partsEnds (m : Int) ws e (2 ^ m - 1 - P) = partsEnds (m : Int) ws e P := by
  have hn := netOk_t h
  obtain ⟨e0, e1⟩ := plOk_t he
  obtain ⟨p0, p1⟩ := plOk_t hp
  rw [Int.toNat_natCast] at e1 p1
  unfold partsEnds
  rw [h, he, hp, plOk_rest hp, parts_other (by have := hn.hi; omega) e0 e1 p0 p1]
/-- cuts bound roots, and all ways cost no less -/
theorem packSum_rc {n : Int} {ws : List Wy} {e : Int} {cs : List (Int × Int)} (h : packsOk n ws e cs = true) : 0 ≤ wsum cs ∧ wsum cs ≤ 648 ∧ netOk n ws = true ∧ (rootCost n ws e < 0 ∨ (wsum cs ≤ rootCost n ws e ∧ rootCost n ws e ≤ costOf n ws (full ws.length) ∧ costOf n ws (full ws.length) ≤ 81)) := by
  obtain ⟨h1, h2, h3, h4, h5⟩ := packsOk_t h
  have hn := netOk_t h1
  have hb := wsum_bd (cs := cs) fun c hc => (h5.part c hc).2
  refine ⟨hb.1, by omega, h1, ?_⟩
  by_cases hr : rootCost n ws e < 0
  · exact .inl hr
  · right
    have hrv := rootCost_val h1 h2
    obtain ⟨m, rfl⟩ := Int.eq_ofNat_of_zero_le (show 0 ≤ n by have := hn.lo; omega)
    obtain ⟨e0, e1⟩ := plOk_t h2
    rw [Int.toNat_natCast] at e1
    have hrc := rootCost_rc h1 h2
    have hfb := full_bd ws.length hn.len
    have hco : costOf (m : Int) ws (full ws.length) = cost ws (full ws.length) := costOf_ok (setOk_mk h1 hfb.1 (Int.le_refl _))
    have hca := cost_all h1 (full ws.length)
    have hbd := best_bd ws e
    refine ⟨by rw [hrc] at hr ⊢; exact packs_rc hn e0 e1 h5 (by omega), ?_, by omega⟩
    rw [hco]
    rw [hrv] at hr ⊢
    split at hr
    · omega
    · rename_i hbn
      rw [if_neg hbn]
      refine cost_mono hn fun q hq hb => ?_
      have hlt := set_sub (n := ws.length) (by omega) hbd.2 hb
      have := full_all ws.length q.toNat (by omega)
      rwa [Int.toNat_of_nonneg hq] at this

/-! ### the cheapest ways of a cut -/
/-- the least cost of the ways told by p, of the first k; 10 of none -/
def mnP (ws : List Wy) (p : Nat → Bool) : Nat → Int
  | 0 => 10
  | k + 1 => match ws[k]? with
    | some x => if p k = true then min (mnP ws p k) x.c else mnP ws p k
    | none => mnP ws p k
theorem mnP_yes {ws : List Wy} {p : Nat → Bool} {k : Nat} {x : Wy} (hx : ws[k]? = some x) (h : p k = true) : mnP ws p (k + 1) = min (mnP ws p k) x.c := by rw [mnP, hx]; simp only; rw [if_pos h]
theorem mnP_no {ws : List Wy} {p : Nat → Bool} {k : Nat} {x : Wy} (hx : ws[k]? = some x) (h : p k = false) : mnP ws p (k + 1) = mnP ws p k := by rw [mnP, hx]; simp only; rw [if_neg (by rw [h]; simp)]
theorem mnP_all (ws : List Wy) (p : Nat → Bool) : ∀ k, k ≤ ws.length → mnP ws p k ≤ 10 ∧ (∀ j x, j < k → ws[j]? = some x → p j = true → mnP ws p k ≤ x.c) ∧ (mnP ws p k = 10 ∨ ∃ j x, j < k ∧ ws[j]? = some x ∧ p j = true ∧ mnP ws p k = x.c)
  | 0, _ => ⟨Int.le_refl _, fun j x h => by omega, .inl rfl⟩
  | k + 1, hk => by
    obtain ⟨h1, h2, h3⟩ := mnP_all ws p k (by omega)
    obtain ⟨y, hy⟩ : ∃ y, ws[k]? = some y := ⟨_, List.getElem?_eq_getElem (by omega)⟩
    cases hp : p k
    · rw [mnP_no hy hp]
      refine ⟨h1, fun j x hj hx hpj => ?_, h3.imp id fun ⟨j, x, a, b⟩ => ⟨j, x, by omega, b⟩⟩
      by_cases e : j = k
      · subst e; rw [hp] at hpj; cases hpj
      · exact h2 j x (by omega) hx hpj
    · rw [mnP_yes hy hp]
      refine ⟨by omega, fun j x hj hx hpj => ?_, ?_⟩
      · by_cases e : j = k
        · subst e; rw [hy] at hx; injection hx with hx; subst hx; omega
        · have := h2 j x (by omega) hx hpj; omega
      · by_cases hle : mnP ws p k ≤ y.c
        · rw [Int.min_eq_left hle]
          exact h3.imp id fun ⟨j, x, a, b⟩ => ⟨j, x, by omega, b⟩
        · exact .inr ⟨k, y, by omega, hy, hp, by omega⟩
/-- the least tree has a cheapest way of each cut -/
theorem span_cheapest {m : Nat} {ws : List Wy} {P : Int} (h : netOk (m : Int) ws = true) (hw : 0 < cw ws P) :
    mnP ws (fun k => bit (cw ws P) k && bit (span ws (allPl (m : Int))) k) ws.length = mnP ws (fun k => bit (cw ws P) k) ws.length ∧ mnP ws (fun k => bit (cw ws P) k && bit (span ws (allPl (m : Int))) k) ws.length ≤ 9 := by
  have hn := netOk_t h
  obtain ⟨a1, a2, a3⟩ := mnP_all ws (fun k => bit (cw ws P) k && bit (span ws (allPl (m : Int))) k) ws.length (Nat.le_refl _)
  obtain ⟨b1, b2, b3⟩ := mnP_all ws (fun k => bit (cw ws P) k) ws.length (Nat.le_refl _)
  have hcb := cw_bd ws P
  obtain ⟨k, hk, hb⟩ := set_has (m := ws.length) (s := cw ws P) hcb.1 (by unfold full at hcb; omega) (by omega)
  obtain ⟨x, hx⟩ : ∃ x, ws[k]? = some x := ⟨_, List.getElem?_eq_getElem hk⟩
  have hx9 := hn.at_ hx
  have c1 := b2 k x hk hx hb
  have hge : mnP ws (fun k => bit (cw ws P) k) ws.length ≤ mnP ws (fun k => bit (cw ws P) k && bit (span ws (allPl (m : Int))) k) ws.length := by
    rcases a3 with h9 | ⟨j, y, hj, hy, hp, h9⟩
    · omega
    · rw [h9]
      refine b2 j y hj hy ?_
      simp only [Bool.and_eq_true] at hp
      exact hp.1
  rcases b3 with h9 | ⟨j, y, hj, hy, hp, h9⟩
  · omega
  · have hc : (bit P y.a != bit P y.b) = true := by rw [← cw_bit hy]; exact hp
    obtain ⟨i, z, hz, ht, hcz, hle⟩ := cut_span hn hy hc
    have hi := (List.getElem?_eq_some_iff.1 hz).1
    have c2 := a2 i z hi hz (by simp only [Bool.and_eq_true]; exact ⟨by rw [cw_bit hz]; exact hcz, ht⟩)
    exact ⟨by omega, by omega⟩

/-! ### fewer cuts, and lighter ones -/
theorem packsOk_none {n : Int} {ws : List Wy} {e : Int} (h : netOk n ws = true) (h' : plOk n e = true) : packsOk n ws e [] = true := packsOk_mk h h' (by simp) (fun c hc => by cases hc) (packs_none (netOk_t h) e)
theorem packsOk_fewer {n : Int} {ws : List Wy} {e : Int} {cs : List (Int × Int)} (h : packsOk n ws e cs = true) : packsOk n ws e (cs.take (cs.length - 1)) = true := by
  obtain ⟨h1, h2, h3, h4, h5⟩ := packsOk_t h
  refine packsOk_mk h1 h2 (by rw [List.length_take]; omega) (fun c hc => h4 c (List.mem_of_mem_take hc)) ?_
  rcases List.eq_nil_or_concat cs with rfl | ⟨L, c, rfl⟩
  · exact h5
  · rw [List.concat_eq_append] at h5 ⊢
    have : (L ++ [c]).take ((L ++ [c]).length - 1) = L := by simp
    rw [this]
    exact packs_less h5
theorem packsOk_light {n : Int} {ws : List Wy} {e : Int} {cs : List (Int × Int)} (h : packsOk n ws e cs = true) : packsOk n ws e (cs.map fun c => (c.1, 0)) = true := by
  obtain ⟨h1, h2, h3, h4, h5⟩ := packsOk_t h
  refine packsOk_mk h1 h2 (by rw [List.length_map]; exact h3) (fun c hc => ?_) (packs_zero (netOk_t h1) h5)
  obtain ⟨d, hd, rfl⟩ := List.mem_map.1 hc
  exact h4 d hd
theorem packsOk_ends {n : Int} {ws : List Wy} {e : Int} {cs : List (Int × Int)} (h : plOk n e = false) : packsOk n ws e cs = false := by unfold packsOk; rw [h]; simp
theorem packsOk_net {n : Int} {ws : List Wy} {e : Int} {cs : List (Int × Int)} (h : netOk n ws = false) : packsOk n ws e cs = false := by unfold packsOk; rw [h]; rfl
/-- cuts without weights, of the first k -/
theorem light_take {cs : List (Int × Int)} {k : Nat} {c : Int × Int} (h : cs[k]? = some c) : (cs.take (k + 1)).map (fun c => (c.1, (0 : Int))) = (cs.take k).map (fun c => (c.1, (0 : Int))) ++ [(c.1, 0)] := by
  rw [List.take_add_one, h, List.map_append]; rfl
/-! ### there and back -/
theorem back_told {m ia ib : Nat} {ws : List Wy} (h : netOk (m : Int) ws = true) (ha : ia < m) (hb : ib < m) : farF ws m ib ia = farF ws m ia ib := farF_sym (netOk_t h) hb ha
/-- half the weights of both -/
def halves (cs : List (Int × Int)) : List (Int × Int) := cs.map fun c => (c.1, c.2 / 2)
theorem halves_take {cs : List (Int × Int)} {k : Nat} {c : Int × Int} (h : cs[k]? = some c) : halves (cs.take (k + 1)) = halves (cs.take k) ++ [(c.1, c.2 / 2)] := by
  unfold halves; rw [List.take_add_one, h, List.map_append]; rfl
theorem packsOk_both {n : Int} {ws : List Wy} {e : Int} {a b : List (Int × Int)} (h : packsOk n ws e a = true) (h' : packsOk n ws e b = true) (h8 : (halves a ++ halves b).length ≤ 8) : packsOk n ws e (halves a ++ halves b) = true := by
  obtain ⟨h1, h2, h3, h4, h5⟩ := packsOk_t h
  obtain ⟨-, -, -, g4, g5⟩ := packsOk_t h'
  refine packsOk_mk h1 h2 h8 (fun c hc => ?_) (packs_half h5 g5)
  rcases List.mem_append.1 hc with hc | hc
  · obtain ⟨d, hd, rfl⟩ := List.mem_map.1 hc; exact h4 d hd
  · obtain ⟨d, hd, rfl⟩ := List.mem_map.1 hc; exact g4 d hd
/-- cuts by distances pack, and weigh what the table tells -/
theorem pathCuts_pack {m ia ib : Nat} {ws : List Wy} (h : netOk (m : Int) ws = true) (ha : ia < m) (hb : ib < m) (hne : ia ≠ ib) (hf : 0 ≤ farF ws m ia ib) :
    let L := pcs (farF ws m ia) m (farF ws m ia ib) (farF ws m ia ib).toNat 0
    packsOk (m : Int) ws (both (ia : Int) ib) L = true ∧ packSum (m : Int) ws (both (ia : Int) ib) L = farF ws m ia ib ∧ L.length + 1 ≤ m ∧ (∀ c, c ∈ L → 0 ≤ c.1 ∧ c.1 < 64 ∧ 1 ≤ c.2 ∧ c.2 ≤ 81) ∧ (∀ (k : Nat) (c c' : Int × Int), L[k]? = some c → L[k + 1]? = some c' → idiff c.1 c'.1 = 0) := by
  intro L
  have hn := netOk_t h
  obtain ⟨c1, c2, c3, c4, c5⟩ := cuts_are hn ha hb hne hf
  have hbo := both_bd (n := (m : Int)) (a := (ia : Int)) (b := (ib : Int)) (by omega) (by omega) (by omega) (by omega)
  have hm6 := hn.hi
  have hpk : packsOk (m : Int) ws (both (ia : Int) ib) L = true := packsOk_mk h (plOk_mk hbo.1 hbo.2) (by show L.length ≤ 8; have : L.length + 1 ≤ m := c1; omega) (fun c hc => (c3 c hc).1) c4
  refine ⟨hpk, ?_, c1, fun c hc => (c3 c hc).2, c5⟩
  unfold packSum
  rw [hpk, if_pos rfl]
  exact c2
end Go.Proofs.YtgnjjiljipgbnaaDoor
