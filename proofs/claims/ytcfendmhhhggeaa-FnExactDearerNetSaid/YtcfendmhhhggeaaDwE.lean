/- The model's dearer net. -/
import Derived.Test.YtcfendmhhhggeaaDwN
import Derived.Test.YtcfendmhhhggeaaGnA
import Derived.Test.YtcfendmhhhggeaaLKt
import Derived.Test.YtcfendmhhhggeaaWC
import Derived.Test.YtcfendmhhhggeaaWF
set_option linter.unusedSimpArgs false
set_option linter.unusedVariables false
attribute [local go_sem ↓] Go.wp_at_zero Go.wp_at_succ
namespace Go.Proofs.Ytcfendmhhhggeaa
open Go.ChangeShapes Go.WideShapes Go.ChangeAt Go.RowKit

def dearerOk (n : Int) (ws : List Wy) (k b : Int) : Bool := netOk n ws && (inB k 0 ((ws.length : Int) - 1) && (decide (1 ≤ b) && (decide (b ≤ 9) && decide ((ws.getD k.toNat ⟨0, 0, 0⟩).c + b ≤ 9))))
def dearerNet (n : Int) (ws : List Wy) (k b : Int) : Option (Int × List Wy) := if dearerOk n ws k b = true then some (n, ws.set k.toNat (dearW (ws.getD k.toNat ⟨0, 0, 0⟩) b)) else none
theorem dearer_none {n : Int} {ws : List Wy} {k b : Int} (h : dearerOk n ws k b = false) : dearerNet n ws k b = none := by unfold dearerNet; rw [h]; rfl
theorem dearer_bad {n : Int} {ws : List Wy} {k : Nat} {x : Wy} {b : Int} (hx : ws[k]? = some x) (h : b < 1 ∨ 9 < b ∨ 9 < x.c + b) : dearerNet n ws k b = none := by
  refine dearer_none ?_
  have hg : ws.getD k ⟨0, 0, 0⟩ = x := by rw [List.getD_eq_getElem?_getD, hx]; rfl
  unfold dearerOk
  rw [Int.toNat_natCast, hg]
  rcases h with h | h | h
  · rw [decide_eq_false (by omega : ¬ 1 ≤ b)]; simp
  · rw [decide_eq_false (by omega : ¬ b ≤ 9)]; simp
  · rw [decide_eq_false (by omega : ¬ x.c + b ≤ 9)]; simp
theorem dearer_some {n : Int} {ws : List Wy} {k : Nat} {x : Wy} {b : Int} (hno : netOk n ws = true) (hx : ws[k]? = some x) (h1 : 1 ≤ b) (h9 : b ≤ 9) (hc : x.c + b ≤ 9) : dearerNet n ws k b = some (n, ws.set k (dearW x b)) := by
  have hg : ws.getD k ⟨0, 0, 0⟩ = x := by rw [List.getD_eq_getElem?_getD, hx]; rfl
  have hk := (List.getElem?_eq_some_iff.1 hx).1
  have hin : inB (k : Int) 0 ((ws.length : Int) - 1) = true := by unfold inB; simp; omega
  unfold dearerNet dearerOk
  rw [Int.toNat_natCast, hg, hno, hin, decide_eq_true h1, decide_eq_true h9, decide_eq_true hc]; rfl
/-- behind the copy: a box holds the net, its ways lie in a row of their own -/
structure DnSt (w0 W : World) (tw : TypeId) (nn : Int) (bx g c1 : Nat) (ws : List Wy) : Prop where
  low : Below w0.heap.size w0 W
  bl : w0.heap.size ≤ bx
  bh : bx < W.heap.size
  gl : w0.heap.size ≤ g
  ne : g ≠ bx
  c0 : W.cell? ⟨bx, 0, none⟩ = some (.int .i64 nn)
  c1' : W.cell? ⟨bx, 1, none⟩ = some (.slice (some ⟨g, 0, none⟩) ws.length c1)
  row : ∃ cur, W.heap[g]? = some (.cells cur tw (0, 0)) ∧ cur.toList.take (ws.length * 3) = wyCells ws
theorem DnSt.rowF {w0 W : World} {tw : TypeId} {nn : Int} {bx g c1 : Nat} {ws : List Wy} (h : DnSt w0 W tw nn bx g c1 ws) : RowF W g (g + 1) (some ⟨g, 0, none⟩) (ws.length * 3) (wyF ws) := by
  obtain ⟨cur, h1, h2⟩ := h.row
  have hg : g < W.heap.size := (Array.getElem?_eq_some_iff.1 h1).1
  refine ⟨fun j hj => ⟨g, 0, rfl, Nat.le_refl _, by omega, ?_, by simp [World.frozen?, h1]⟩, by omega⟩
  have h3 := wyF_cells hj
  rw [← h2, List.getElem?_take_of_lt hj, Array.getElem?_toList] at h3
  rw [Nat.zero_add]
  exact cell_of_row _ _ j _ _ (0, 0) h1 |>.trans h3
theorem wyF_set {ws : List Wy} {k : Nat} {x : Wy} {b : Int} (hx : ws[k]? = some x) (j : Nat) : wyF (ws.set k (dearW x b)) j = if j = k * 3 + 2 then x.c + b else wyF ws j := by
  unfold wyF
  by_cases e : j / 3 = k
  · rw [e, da_at hx, hx]
    by_cases e2 : j = k * 3 + 2
    · rw [if_pos e2]
      have h1 : ¬ j % 3 = 0 := by omega
      have h2 : ¬ j % 3 = 1 := by omega
      simp [h1, h2, dearW]
    · rw [if_neg e2]
      have h3 : j % 3 = 0 ∨ j % 3 = 1 := by omega
      rcases h3 with h3 | h3 <;> simp [h3, dearW]
  · rw [da_ne e, if_neg (by omega)]
theorem DnSt.fin {w0 W : World} {tw : TypeId} {nn : Int} {bx g c1 : Nat} {ws : List Wy} (h : DnSt w0 W tw nn bx g c1 ws) {k : Nat} {x : Wy} (hx : ws[k]? = some x) (b : Int) {r : Nat} (hr : r ≠ g) (v0 v1 : Value) :
    RowF (((((W.setCell ⟨g, k * 3, none⟩ (.int .i64 x.a)).setCell ⟨g, k * 3 + 1, none⟩ (.int .i64 x.b)).setCell ⟨g, k * 3 + 2, none⟩ (.int .i64 (x.c + b))).setCell ⟨r, 0, none⟩ v0).setCell ⟨r, 1, none⟩ v1) g (g + 1) (some ⟨g, 0, none⟩) ((ws.set k (dearW x b)).length * 3) (wyF (ws.set k (dearW x b))) := by
  have hk := (List.getElem?_eq_some_iff.1 hx).1
  have hw := wyF_at hx
  have h1 := ((h.rowF.put (k := k * 3) (by omega) x.a).put (k := k * 3 + 1) (by omega) x.b).put (k := k * 3 + 2) (by omega) (x.c + b)
  simp only [Nat.zero_add] at h1
  rw [da_len]
  refine ⟨fun j hj => ?_, by simpa [World.setCell] using h1.top⟩
  obtain ⟨b', o', ha, hl, hh, hc, hf⟩ := h1.at_ j hj
  injection ha with ha; injection ha with e1 e2; subst e1; subst e2
  have hblk : ∀ V : World, ((V.setCell ⟨r, 0, none⟩ v0).setCell ⟨r, 1, none⟩ v1).heap[g]? = V.heap[g]? := fun V => (Below.heap_setCell _ _ _ _ (Ne.symm hr)).trans (Below.heap_setCell _ _ _ _ (Ne.symm hr))
  refine ⟨g, 0, rfl, hl, hh, ?_, by rw [World.frozen?_setCell, World.frozen?_setCell]; exact hf⟩
  refine (World.cell?_of_block (hblk _)).trans (hc.trans ?_)
  congr 2
  rw [wyF_set hx]
  by_cases e2 : j = k * 3 + 2
  · rw [if_pos e2, if_pos e2]
  · rw [if_neg e2, if_neg e2]
    by_cases e1 : j = k * 3 + 1
    · rw [if_pos e1, e1]; exact hw.2.1.symm
    · rw [if_neg e1]
      by_cases e0 : j = k * 3
      · rw [if_pos e0, e0]; exact hw.1.symm
      · rw [if_neg e0]
theorem set3_keep {W : World} {g h i : Nat} {v u0 u1 u2 : Value} {o0 o1 o2 : Nat} (hne : h ≠ g) (hc : W.cell? ⟨h, i, none⟩ = some v) : (((W.setCell ⟨g, o0, none⟩ u0).setCell ⟨g, o1, none⟩ u1).setCell ⟨g, o2, none⟩ u2).cell? ⟨h, i, none⟩ = some v :=
  (World.cell?_of_block (w := W) ((Below.heap_setCell _ _ _ _ hne).trans ((Below.heap_setCell _ _ _ _ hne).trans (Below.heap_setCell _ _ _ _ hne)))).trans hc
theorem set3_block {W : World} {g h : Nat} {u0 u1 u2 : Value} {o0 o1 o2 : Nat} (hne : h ≠ g) : (((W.setCell ⟨g, o0, none⟩ u0).setCell ⟨g, o1, none⟩ u1).setCell ⟨g, o2, none⟩ u2).heap[h]? = W.heap[h]? :=
  (Below.heap_setCell _ _ _ _ hne).trans ((Below.heap_setCell _ _ _ _ hne).trans (Below.heap_setCell _ _ _ _ hne))
/-- the row of one's own behind the copy -/
theorem own_at {W : World} {base : Nat} {tw : TypeId} {A1 : Option Addr} {l c1 : Nat} {ws : List Wy} (h : W.ownsRow base tw 3 (.slice A1 l c1) l (wyCells ws)) (hl : 0 < l) (he : l = ws.length) : ∃ g, A1 = some ⟨g, 0, none⟩ ∧ base ≤ g ∧ ∃ cur, W.heap[g]? = some (.cells cur tw (0, 0)) ∧ cur.toList.take (ws.length * 3) = wyCells ws := by
  rcases h.2 with ⟨_, h2⟩ | ⟨g, cap, cur, hv, h3, h4, h5, h6, h7, h8⟩
  · omega
  · injection hv with hv1 hv2 hv3
    subst hv1
    exact ⟨g, rfl, h3, cur, h4, by rw [← he]; exact h8⟩
set_option maxRecDepth 100000 in
set_option maxHeartbeats 4000000 in
theorem sDearerNet_any (n k b : Int) (A : Option Addr) (cap : Nat) (ws : List Wy) (w : World) (hr : RW w w.heap.size A ws) (hm : ws.length ≤ 1073741824) :
    Calls Try.prog 5 #[.agg #[.int .i64 n, .slice A ws.length cap], .int .i64 k, .int .i64 b] w (NewNetO (dearerNet n ws k b) w) := by
  have HR := Lib.hid hr
  clear hr
  cases hno : netOk n ws
  · have HNO := Lib.hid hno
    rw [dearer_none (by unfold dearerOk; rw [hno]; rfl)]
    unfold NewNetO
    clear hno
    go_enter Try.func5, Try.ntmps5
    go_wp2_with fail
    refine (sNetOk_any _ _ _ _ _ (HR.out.later (by go_grown)) hm).mono ?_; rintro e w1 ⟨rfl, hb1⟩
    rw [HNO.out]
    obtain ⟨hc1, hf1⟩ := bcell hb1
    have hz1_0 : w.heap.size < w1.heap.size := by have hq := hb1.size; (try simp at hq); omega
    have HK1 := Lib.hid hb1
    have HB1 := Lib.hid (bstep (B := w.heap.size) (W := w) (by (try have hp := HB0.out); go_grown) (by go_size) hb1); clear hb1
    have hres : w1.heap[w.heap.size + 1]? = some (.cells #[.int .i64 0, .slice none 0 0] 28 (0, 0)) := by
      rw [HK1.out.block _ (by simp)]
      have h9 := heap_alloc_new (w.alloc (.cells #[.int .i64 n, .slice A ws.length cap] 28)) (.cells #[.int .i64 0, .slice none 0 0] 28)
      simpa using h9
    have q0 : w1.cell? ⟨w.heap.size + 1, 0, none⟩ = some (.int .i64 0) := cell_of_row _ _ 0 _ _ (0, 0) hres
    have q1 : w1.cell? ⟨w.heap.size + 1, 1, none⟩ = some (.slice none 0 0) := cell_of_row _ _ 1 _ _ (0, 0) hres
    have f0 : w1.frozen? ⟨w.heap.size + 1, 0, none⟩ = false := by simp [World.frozen?, hres]
    have f1 : w1.frozen? ⟨w.heap.size + 1, 1, none⟩ = false := by simp [World.frozen?, hres]
    have T := Lib.hid (two_cells (v0 := .int .i64 0) (v1 := .slice none 0 0) hres)
    have HL2 := Lib.hid ((HB1.out.setCell (p := ⟨w.heap.size + 1, 0, none⟩) (by simp) (.int .i64 0)).setCell (p := ⟨w.heap.size + 1, 1, none⟩) (by simp) (.slice none 0 0))
    have k10 : w1.cell? ⟨w.heap.size, 0, none⟩ = some (.int .i64 n) := by go_simp
    have k11 : w1.cell? ⟨w.heap.size, 1, none⟩ = some (.slice A ws.length cap) := by go_simp
    clear hres hc1 hf1 HK1
    go_wp2_with fail
    obtain ⟨t0, t1⟩ := T.out
    refine bodyPost_ret (v := .tuple #[.agg #[.int .i64 0, .slice none 0 0], .bool false]) (by simp [results, Try.results5, go_sem, t0, t1]) rfl ?_
    exact ⟨none, 0, rfl, HL2.out⟩
  · have HNO := Lib.hid hno
    have hl9 := (netOk_t hno).len
    have HWL : Hid (IntKind.i64.wrap ((ws.length : Int) - 1) = (ws.length : Int) - 1) := IntWalk.i64_in _ ⟨by omega, by omega⟩
    have HWL2 : Hid (wrap64 ((ws.length : Int) - 1) = (ws.length : Int) - 1) := IntWalk.wrap64_in _ ⟨by omega, by omega⟩
    cases hin : inB k 0 ((ws.length : Int) - 1)
    · have HIN := Lib.hid hin
      rw [dearer_none (by unfold dearerOk; rw [hin]; simp)]
      unfold NewNetO
      clear hno hin
      go_enter Try.func5, Try.ntmps5
      have hwl := HWL.out
      have hwl2 := HWL2.out
      go_wp2_with fail
      refine (sNetOk_any _ _ _ _ _ (HR.out.later (by go_grown)) hm).mono ?_; rintro e w1 ⟨rfl, hb1⟩
      rw [HNO.out]
      obtain ⟨hc1, hf1⟩ := bcell hb1
      have hz1_0 : w.heap.size < w1.heap.size := by have hq := hb1.size; (try simp at hq); omega
      have HK1 := Lib.hid hb1
      have HB1 := Lib.hid (bstep (B := w.heap.size) (W := w) (by (try have hp := HB0.out); go_grown) (by go_size) hb1); clear hb1
      have hres : w1.heap[w.heap.size + 1]? = some (.cells #[.int .i64 0, .slice none 0 0] 28 (0, 0)) := by
        rw [HK1.out.block _ (by simp)]
        have h9 := heap_alloc_new (w.alloc (.cells #[.int .i64 n, .slice A ws.length cap] 28)) (.cells #[.int .i64 0, .slice none 0 0] 28)
        simpa using h9
      have q0 : w1.cell? ⟨w.heap.size + 1, 0, none⟩ = some (.int .i64 0) := cell_of_row _ _ 0 _ _ (0, 0) hres
      have q1 : w1.cell? ⟨w.heap.size + 1, 1, none⟩ = some (.slice none 0 0) := cell_of_row _ _ 1 _ _ (0, 0) hres
      have f0 : w1.frozen? ⟨w.heap.size + 1, 0, none⟩ = false := by simp [World.frozen?, hres]
      have f1 : w1.frozen? ⟨w.heap.size + 1, 1, none⟩ = false := by simp [World.frozen?, hres]
      have T := Lib.hid (two_cells (v0 := .int .i64 0) (v1 := .slice none 0 0) hres)
      have HL2 := Lib.hid ((HB1.out.setCell (p := ⟨w.heap.size + 1, 0, none⟩) (by simp) (.int .i64 0)).setCell (p := ⟨w.heap.size + 1, 1, none⟩) (by simp) (.slice none 0 0))
      have k10 : w1.cell? ⟨w.heap.size, 0, none⟩ = some (.int .i64 n) := by go_simp
      have k11 : w1.cell? ⟨w.heap.size, 1, none⟩ = some (.slice A ws.length cap) := by go_simp
      clear hres hc1 hf1 HK1
      go_wp2_with fail
      refine (l1In_any _ _ _ _).mono ?_; rintro e2 w2 ⟨rfl, rfl⟩; rw [HIN.out]
      go_wp2_with fail
      obtain ⟨t0, t1⟩ := T.out
      refine bodyPost_ret (v := .tuple #[.agg #[.int .i64 0, .slice none 0 0], .bool false]) (by simp [results, Try.results5, go_sem, t0, t1]) rfl ?_
      exact ⟨none, 0, rfl, HL2.out⟩
    · have HIN := Lib.hid hin
      obtain ⟨k0, k9⟩ := inB_t hin
      obtain ⟨kk, rfl⟩ := Int.eq_ofNat_of_zero_le k0
      have hkl : kk < ws.length := by omega
      have hkli : (kk : Int) < (ws.length : Int) := by omega
      obtain ⟨x, hx⟩ : ∃ x, ws[kk]? = some x := ⟨_, List.getElem?_eq_getElem hkl⟩
      have HX := Lib.hid hx
      obtain ⟨ob, oo, hA, hB, g0, g1, g2⟩ := HR.out kk x hx
      subst hA
      have hxc := (netOk_t hno).ok x (List.mem_of_getElem? hx)
      have hc0 : 0 ≤ x.c := by omega
      have hc9 : x.c ≤ 9 := by omega
      have hNT := Lib.hid (netOk_t hno)
      by_cases b1 : b < 1
      · rw [dearer_bad hx (.inl b1)]
        unfold NewNetO
        clear hno hin hx hxc
        go_enter Try.func5, Try.ntmps5
        have hwl := HWL.out
        have hwl2 := HWL2.out
        go_wp2_with fail
        refine (sNetOk_any _ _ _ _ _ (HR.out.later (by go_grown)) hm).mono ?_; rintro e w1 ⟨rfl, hb1⟩
        rw [HNO.out]
        obtain ⟨hc1, hf1⟩ := bcell hb1
        have hz1_0 : w.heap.size < w1.heap.size := by have hq := hb1.size; (try simp at hq); omega
        have HK1 := Lib.hid hb1
        have HB1 := Lib.hid (bstep (B := w.heap.size) (W := w) (by (try have hp := HB0.out); go_grown) (by go_size) hb1); clear hb1
        have hres : w1.heap[w.heap.size + 1]? = some (.cells #[.int .i64 0, .slice none 0 0] 28 (0, 0)) := by
          rw [HK1.out.block _ (by simp)]
          have h9 := heap_alloc_new (w.alloc (.cells #[.int .i64 n, .slice (some ⟨ob, oo, none⟩) ws.length cap] 28)) (.cells #[.int .i64 0, .slice none 0 0] 28)
          simpa using h9
        have q0 : w1.cell? ⟨w.heap.size + 1, 0, none⟩ = some (.int .i64 0) := cell_of_row _ _ 0 _ _ (0, 0) hres
        have q1 : w1.cell? ⟨w.heap.size + 1, 1, none⟩ = some (.slice none 0 0) := cell_of_row _ _ 1 _ _ (0, 0) hres
        have f0 : w1.frozen? ⟨w.heap.size + 1, 0, none⟩ = false := by simp [World.frozen?, hres]
        have f1 : w1.frozen? ⟨w.heap.size + 1, 1, none⟩ = false := by simp [World.frozen?, hres]
        have T := Lib.hid (two_cells (v0 := .int .i64 0) (v1 := .slice none 0 0) hres)
        have HL2 := Lib.hid ((HB1.out.setCell (p := ⟨w.heap.size + 1, 0, none⟩) (by simp) (.int .i64 0)).setCell (p := ⟨w.heap.size + 1, 1, none⟩) (by simp) (.slice none 0 0))
        have k10 : w1.cell? ⟨w.heap.size, 0, none⟩ = some (.int .i64 n) := by go_simp
        have k11 : w1.cell? ⟨w.heap.size, 1, none⟩ = some (.slice (some ⟨ob, oo, none⟩) ws.length cap) := by go_simp
        clear hres hc1 hf1 HK1
        go_wp2_with fail
        refine (l1In_any _ _ _ _).mono ?_; rintro e2 w2 ⟨rfl, rfl⟩; rw [HIN.out]
        go_wp2_with fail
        obtain ⟨t0, t1⟩ := T.out
        refine bodyPost_ret (v := .tuple #[.agg #[.int .i64 0, .slice none 0 0], .bool false]) (by simp [results, Try.results5, go_sem, t0, t1]) rfl ?_
        exact ⟨none, 0, rfl, HL2.out⟩
      · by_cases b9 : 9 < b
        · rw [dearer_bad hx (.inr (.inl b9))]
          unfold NewNetO
          clear hno hin hx hxc
          go_enter Try.func5, Try.ntmps5
          have hwl := HWL.out
          have hwl2 := HWL2.out
          go_wp2_with fail
          refine (sNetOk_any _ _ _ _ _ (HR.out.later (by go_grown)) hm).mono ?_; rintro e w1 ⟨rfl, hb1⟩
          rw [HNO.out]
          obtain ⟨hc1, hf1⟩ := bcell hb1
          have hz1_0 : w.heap.size < w1.heap.size := by have hq := hb1.size; (try simp at hq); omega
          have HK1 := Lib.hid hb1
          have HB1 := Lib.hid (bstep (B := w.heap.size) (W := w) (by (try have hp := HB0.out); go_grown) (by go_size) hb1); clear hb1
          have hres : w1.heap[w.heap.size + 1]? = some (.cells #[.int .i64 0, .slice none 0 0] 28 (0, 0)) := by
            rw [HK1.out.block _ (by simp)]
            have h9 := heap_alloc_new (w.alloc (.cells #[.int .i64 n, .slice (some ⟨ob, oo, none⟩) ws.length cap] 28)) (.cells #[.int .i64 0, .slice none 0 0] 28)
            simpa using h9
          have q0 : w1.cell? ⟨w.heap.size + 1, 0, none⟩ = some (.int .i64 0) := cell_of_row _ _ 0 _ _ (0, 0) hres
          have q1 : w1.cell? ⟨w.heap.size + 1, 1, none⟩ = some (.slice none 0 0) := cell_of_row _ _ 1 _ _ (0, 0) hres
          have f0 : w1.frozen? ⟨w.heap.size + 1, 0, none⟩ = false := by simp [World.frozen?, hres]
          have f1 : w1.frozen? ⟨w.heap.size + 1, 1, none⟩ = false := by simp [World.frozen?, hres]
          have T := Lib.hid (two_cells (v0 := .int .i64 0) (v1 := .slice none 0 0) hres)
          have HL2 := Lib.hid ((HB1.out.setCell (p := ⟨w.heap.size + 1, 0, none⟩) (by simp) (.int .i64 0)).setCell (p := ⟨w.heap.size + 1, 1, none⟩) (by simp) (.slice none 0 0))
          have k10 : w1.cell? ⟨w.heap.size, 0, none⟩ = some (.int .i64 n) := by go_simp
          have k11 : w1.cell? ⟨w.heap.size, 1, none⟩ = some (.slice (some ⟨ob, oo, none⟩) ws.length cap) := by go_simp
          clear hres hc1 hf1 HK1
          go_wp2_with fail
          refine (l1In_any _ _ _ _).mono ?_; rintro e2 w2 ⟨rfl, rfl⟩; rw [HIN.out]
          go_wp2_with fail
          obtain ⟨t0, t1⟩ := T.out
          refine bodyPost_ret (v := .tuple #[.agg #[.int .i64 0, .slice none 0 0], .bool false]) (by simp [results, Try.results5, go_sem, t0, t1]) rfl ?_
          exact ⟨none, 0, rfl, HL2.out⟩
        · have HWS : Hid (IntKind.i64.wrap (x.c + b) = x.c + b) := IntWalk.i64_in _ ⟨by omega, by omega⟩
          have HWS2 : Hid (wrap64 (x.c + b) = x.c + b) := IntWalk.wrap64_in _ ⟨by omega, by omega⟩
          by_cases hcb : 9 < x.c + b
          · rw [dearer_bad hx (.inr (.inr hcb))]
            unfold NewNetO
            clear hno hin hx hxc
            go_enter Try.func5, Try.ntmps5
            have hwl := HWL.out
            have hwl2 := HWL2.out
            have hws := HWS.out
            have hws2 := HWS2.out
            go_wp2_with fail
            refine (sNetOk_any _ _ _ _ _ (HR.out.later (by go_grown)) hm).mono ?_; rintro e w1 ⟨rfl, hb1⟩
            rw [HNO.out]
            obtain ⟨hc1, hf1⟩ := bcell hb1
            have hz1_0 : w.heap.size < w1.heap.size := by have hq := hb1.size; (try simp at hq); omega
            have HK1 := Lib.hid hb1
            have HB1 := Lib.hid (bstep (B := w.heap.size) (W := w) (by (try have hp := HB0.out); go_grown) (by go_size) hb1); clear hb1
            have e2 : w1.cell? ⟨ob, oo + kk * 3 + 2, none⟩ = some (.int .i64 x.c) := (HB1.out.cell (p := ⟨ob, oo + kk * 3 + 2, none⟩) hB).trans g2
            have hres : w1.heap[w.heap.size + 1]? = some (.cells #[.int .i64 0, .slice none 0 0] 28 (0, 0)) := by
              rw [HK1.out.block _ (by simp)]
              have h9 := heap_alloc_new (w.alloc (.cells #[.int .i64 n, .slice (some ⟨ob, oo, none⟩) ws.length cap] 28)) (.cells #[.int .i64 0, .slice none 0 0] 28)
              simpa using h9
            have q0 : w1.cell? ⟨w.heap.size + 1, 0, none⟩ = some (.int .i64 0) := cell_of_row _ _ 0 _ _ (0, 0) hres
            have q1 : w1.cell? ⟨w.heap.size + 1, 1, none⟩ = some (.slice none 0 0) := cell_of_row _ _ 1 _ _ (0, 0) hres
            have f0 : w1.frozen? ⟨w.heap.size + 1, 0, none⟩ = false := by simp [World.frozen?, hres]
            have f1 : w1.frozen? ⟨w.heap.size + 1, 1, none⟩ = false := by simp [World.frozen?, hres]
            have T := Lib.hid (two_cells (v0 := .int .i64 0) (v1 := .slice none 0 0) hres)
            have HL2 := Lib.hid ((HB1.out.setCell (p := ⟨w.heap.size + 1, 0, none⟩) (by simp) (.int .i64 0)).setCell (p := ⟨w.heap.size + 1, 1, none⟩) (by simp) (.slice none 0 0))
            have k10 : w1.cell? ⟨w.heap.size, 0, none⟩ = some (.int .i64 n) := by go_simp
            have k11 : w1.cell? ⟨w.heap.size, 1, none⟩ = some (.slice (some ⟨ob, oo, none⟩) ws.length cap) := by go_simp
            clear hres hc1 hf1 HK1
            go_wp2_with fail
            refine (l1In_any _ _ _ _).mono ?_; rintro e2 w2 ⟨rfl, rfl⟩; rw [HIN.out]
            go_wp2_with fail
            obtain ⟨t0, t1⟩ := T.out
            refine bodyPost_ret (v := .tuple #[.agg #[.int .i64 0, .slice none 0 0], .bool false]) (by simp [results, Try.results5, go_sem, t0, t1]) rfl ?_
            exact ⟨none, 0, rfl, HL2.out⟩
          · rw [dearer_some hno hx (by omega) (by omega) (by omega)]
            clear hno hin hx hxc
            go_enter Try.func5, Try.ntmps5
            have hwl := HWL.out
            have hwl2 := HWL2.out
            have hws := HWS.out
            have hws2 := HWS2.out
            go_wp2_with fail
            refine (sNetOk_any _ _ _ _ _ (HR.out.later (by go_grown)) hm).mono ?_; rintro e w1 ⟨rfl, hb1⟩
            rw [HNO.out]
            obtain ⟨hc1, hf1⟩ := bcell hb1
            have hz1_0 : w.heap.size < w1.heap.size := by have hq := hb1.size; (try simp at hq); omega
            have HK1 := Lib.hid hb1
            have HB1 := Lib.hid (bstep (B := w.heap.size) (W := w) (by (try have hp := HB0.out); go_grown) (by go_size) hb1); clear hb1
            have e0 : w1.cell? ⟨ob, oo + kk * 3, none⟩ = some (.int .i64 x.a) := (HB1.out.cell (p := ⟨ob, oo + kk * 3, none⟩) hB).trans g0
            have e1 : w1.cell? ⟨ob, oo + kk * 3 + 1, none⟩ = some (.int .i64 x.b) := (HB1.out.cell (p := ⟨ob, oo + kk * 3 + 1, none⟩) hB).trans g1
            have e2 : w1.cell? ⟨ob, oo + kk * 3 + 2, none⟩ = some (.int .i64 x.c) := (HB1.out.cell (p := ⟨ob, oo + kk * 3 + 2, none⟩) hB).trans g2
            have hres : w1.heap[w.heap.size + 1]? = some (.cells #[.int .i64 0, .slice none 0 0] 28 (0, 0)) := by
              rw [HK1.out.block _ (by simp)]
              have h9 := heap_alloc_new (w.alloc (.cells #[.int .i64 n, .slice (some ⟨ob, oo, none⟩) ws.length cap] 28)) (.cells #[.int .i64 0, .slice none 0 0] 28)
              simpa using h9
            have hz1 : w.heap.size + 1 < w1.heap.size := (Array.getElem?_eq_some_iff.1 hres).1
            have HRES := Lib.hid hres
            have k10 : w1.cell? ⟨w.heap.size, 0, none⟩ = some (.int .i64 n) := by go_simp
            have k11 : w1.cell? ⟨w.heap.size, 1, none⟩ = some (.slice (some ⟨ob, oo, none⟩) ws.length cap) := by go_simp
            have hob : ob < w1.heap.size := by omega
            obtain ⟨i0, hi0, hz0, hz1', hz2⟩ := info_parts infoWy
            have HRN := Lib.hid (HR.out.later HB1.out)
            clear hres hc1 hf1 HK1
            go_wp2_with fail
            refine (l1In_any _ _ _ _).mono ?_; rintro e2 w2 ⟨rfl, rfl⟩; rw [HIN.out]
            clear hwl hwl2 hws hws2
            go_wp2_with fail
            refine wp_region_held_drew (S := (fun w' => w'.cell? ⟨w.heap.size, 0, none⟩ = some (.int .i64 n) ∧ w'.cell? ⟨w.heap.size, 1, none⟩ = some (.slice (some ⟨ob, oo, none⟩) ws.length cap))) (by kernel_rfl) ?_ (fun hHeld => ?_)
            · exact ⟨k10, k11⟩
            refine wpAnyH_take (i := 0) (v := ?_) rfl (by kernel_rfl) (by kernel_rfl) (by kernel_rfl) (fun _ _ _ h => h) (Or.inl ⟨by rfl, ?_⟩) (by assumption) ?_
            rotate_left
            · (intro w hSw; (try dsimp only at hSw); (try simp only [List.getElem_toArray, List.getElem_cons_succ, List.getElem_cons_zero]); first | (go_simp; done) | (go_simp; with_reducible rfl))
            try simp only [Act.put, List.getElem_toArray, List.getElem_cons_succ, List.getElem_cons_zero, List.setIfInBounds_toArray, List.set_cons_zero, List.set_cons_succ]
            refine wpAnyH_take (i := 1) (v := ?_) rfl (by kernel_rfl) (by kernel_rfl) (by kernel_rfl) (fun _ _ _ h => h) (Or.inl ⟨by rfl, ?_⟩) (by assumption) ?_
            rotate_left
            · (intro w hSw; (try dsimp only at hSw); (try simp only [List.getElem_toArray, List.getElem_cons_succ, List.getElem_cons_zero]); first | (go_simp; done) | (go_simp; with_reducible rfl))
            try simp only [Act.put, List.getElem_toArray, List.getElem_cons_succ, List.getElem_cons_zero, List.setIfInBounds_toArray, List.set_cons_zero, List.set_cons_succ]
            refine wpAnyH_take (i := 3) (v := ?_) rfl (by kernel_rfl) (by kernel_rfl) (by kernel_rfl) (fun _ _ _ h => h) (Or.inl ⟨by rfl, ?_⟩) (by assumption) ?_
            rotate_left
            · (intro w hSw; (try dsimp only at hSw); (try simp only [List.getElem_toArray, List.getElem_cons_succ, List.getElem_cons_zero]); first | (go_simp; done) | (go_simp; with_reducible rfl))
            try simp only [Act.put, List.getElem_toArray, List.getElem_cons_succ, List.getElem_cons_zero, List.setIfInBounds_toArray, List.set_cons_zero, List.set_cons_succ]
            refine wpAnyH_take (i := 4) (v := ?_) rfl (by kernel_rfl) (by kernel_rfl) (by kernel_rfl) (fun _ _ _ h => h) (Or.inl ⟨by rfl, ?_⟩) (by assumption) ?_
            rotate_left
            · (intro w hSw; (try dsimp only at hSw); (try simp only [List.getElem_toArray, List.getElem_cons_succ, List.getElem_cons_zero]); first | (go_simp; done) | (go_simp; with_reducible rfl))
            try simp only [Act.put, List.getElem_toArray, List.getElem_cons_succ, List.getElem_cons_zero, List.setIfInBounds_toArray, List.set_cons_zero, List.set_cons_succ]
            refine wpAnyH_ready (rs := [2, 7]) (by kernel_rfl) (by simp) ?_
            refine AllReadyH.cons rfl (fun K hK => ?_) (AllReadyH.cons rfl (fun K hK => ?_) AllReadyH.nil)
            · try simp only [List.getElem_toArray, List.getElem_cons_succ, List.getElem_cons_zero]
              go_simp
              refine hK.out _ _ ?_ (fun hHeld => ?_)
              · exact ⟨(World.cell?_alloc_lt _ _ _ (by show w.heap.size < w1.drew.heap.size; simp; omega)).trans k10, (World.cell?_alloc_lt _ _ _ (by show w.heap.size < w1.drew.heap.size; simp; omega)).trans k11⟩
              clear hK K
              try simp only [Act.put, List.getElem_toArray, List.getElem_cons_succ, List.getElem_cons_zero, List.setIfInBounds_toArray, List.set_cons_zero, List.set_cons_succ]
              refine wpAnyH_ready (rs := [5, 7]) (by kernel_rfl) (by simp) ?_
              refine AllReadyH.cons rfl (fun K hK => ?_) (AllReadyH.cons rfl (fun K hK => ?_) AllReadyH.nil)
              · refine step_append_copy (by rfl) _ _ _ (by rfl) (w1.heap.size) 39 i0 _ 3 24 Try.underlying26 hi0 hz0 hz1' hz2 rfl (by omega) (.slice (some ⟨w1.heap.size, 0, none⟩) 0 0) (by rfl) (World.ownsRow_made w1.drew #[] 0 (by simp) (by unfold maxLen; omega) rfl) ⟨ob, oo, none⟩ ws.length cap (wyCells ws) (by rfl) (by rw [wyCells_len]) (RW.news (B := (w1.drew.alloc (.cells #[] 39)).heap.size) (HR.out.later (by have := HB1.out; go_grown))) (wyCells_one _) (by unfold maxLen; omega) (by omega) (by simp; try omega) _ rfl ?_; intro A1 c1 w3 hown3 hg3 hat3
                have hb3 : Below w1.heap.size w1 w3 := below_app (H := w1.heap.size) (by go_grown) hg3 (Nat.le_refl _)
                refine hK.out _ _ ?_ (fun hHeld => ?_)
                · exact keep2 hb3 ⟨k10, k11⟩ (by omega)
                clear hK K
                try simp only [Act.put, List.getElem_toArray, List.getElem_cons_succ, List.getElem_cons_zero, List.setIfInBounds_toArray, List.set_cons_zero, List.set_cons_succ]
                refine wpAnyH_take (i := 6) (v := ?_) rfl (by kernel_rfl) (by kernel_rfl) (by kernel_rfl) (fun _ _ _ h => h) (Or.inl ⟨by rfl, ?_⟩) (by assumption) ?_
                rotate_left
                · (intro w hSw; (try dsimp only at hSw); (try simp only [List.getElem_toArray, List.getElem_cons_succ, List.getElem_cons_zero]); first | (go_simp; done) | (go_simp; with_reducible rfl))
                try simp only [Act.put, List.getElem_toArray, List.getElem_cons_succ, List.getElem_cons_zero, List.setIfInBounds_toArray, List.set_cons_zero, List.set_cons_succ]
                refine wpAnyH_ready (rs := [7]) (by kernel_rfl) (by simp) ?_
                refine AllReadyH.cons rfl (fun K hK => ?_) AllReadyH.nil
                try simp only [List.getElem_toArray, List.getElem_cons_succ, List.getElem_cons_zero]
                go_simp
                refine hK.out _ _ ?_ (fun hHeld => ?_)
                · exact ⟨(World.cell?_alloc_lt _ _ _ (by show w.heap.size < w3.heap.size; have := hb3.size; omega)).trans hHeld.1, (World.cell?_alloc_lt _ _ _ (by show w.heap.size < w3.heap.size; have := hb3.size; omega)).trans hHeld.2⟩
                clear hK K
                try simp only [Act.put, List.getElem_toArray, List.getElem_cons_succ, List.getElem_cons_zero, List.setIfInBounds_toArray, List.set_cons_zero, List.set_cons_succ]
                refine wpAnyH_ready (rs := [8]) (by kernel_rfl) (by simp) ?_
                refine AllReadyH.cons rfl (fun K hK => ?_) AllReadyH.nil
                try simp only [List.getElem_toArray, List.getElem_cons_succ, List.getElem_cons_zero]
                go_simp
                obtain ⟨g, hA1, hgb0, cur, hcur, htake⟩ := own_at hown3 (by omega) rfl
                subst hA1
                have hgs : g < w3.heap.size := (Array.getElem?_eq_some_iff.1 hcur).1
                have hD : DnSt w1 (w3.alloc (.cells #[.int .i64 n, .slice (some ⟨g, 0, none⟩) ws.length c1] 28)) 39 n w3.heap.size g c1 ws := ⟨hb3.alloc hb3.size _, hb3.size, by simp, hgb0, by omega, cell_of_row _ _ 0 _ _ (0, 0) (heap_alloc_new w3 _), cell_of_row _ _ 1 _ _ (0, 0) (heap_alloc_new w3 _), cur, (Below.heap_alloc _ _ _ hgs).trans hcur, htake⟩
                obtain ⟨bx, hbx⟩ : ∃ bx, w3.heap.size = bx := ⟨_, rfl⟩
                rw [hbx] at hD ⊢
                refine hK.out _ _ ?_ (fun hHeld => ?_)
                · exact ⟨hD.low.cell (p := ⟨w.heap.size, 0, none⟩) (by show w.heap.size < w1.heap.size; omega) |>.trans k10, hD.low.cell (p := ⟨w.heap.size, 1, none⟩) (by show w.heap.size < w1.heap.size; omega) |>.trans k11⟩
                clear hK K
                try simp only [Act.put, List.getElem_toArray, List.getElem_cons_succ, List.getElem_cons_zero, List.setIfInBounds_toArray, List.set_cons_zero, List.set_cons_succ]
                refine wpAnyH_done (by kernel_rfl) ?_ _
                have HD := Lib.hid hD
                have hgb := hD.gl
                have hbb := hD.bl
                have hne := hD.ne
                have hlw := hD.low
                have d0 := hD.c0
                have d1 := hD.c1'
                have hRF := hD.rowF
                obtain ⟨_, _, e9, -, -, p0, f0⟩ := hRF.at_ (kk * 3) (by omega)
                injection e9 with e9; injection e9 with e91 e92; subst e91; subst e92
                obtain ⟨_, _, e9, -, -, p1, f1⟩ := hRF.at_ (kk * 3 + 1) (by omega)
                injection e9 with e9; injection e9 with e91 e92; subst e91; subst e92
                obtain ⟨_, _, e9, -, -, p2, f2⟩ := hRF.at_ (kk * 3 + 2) (by omega)
                injection e9 with e9; injection e9 with e91 e92; subst e91; subst e92
                rw [Nat.zero_add] at p0 f0 p1 f1 p2 f2
                obtain ⟨m0, m1⟩ := keep2 hlw ⟨k10, k11⟩ (by omega)
                have x0 := (hlw.cell (p := ⟨ob, oo + kk * 3, none⟩) hob).trans e0
                have x1 := (hlw.cell (p := ⟨ob, oo + kk * 3 + 1, none⟩) hob).trans e1
                have x2 := (hlw.cell (p := ⟨ob, oo + kk * 3 + 2, none⟩) hob).trans e2
                obtain ⟨W, hW⟩ : ∃ W, w3.alloc (.cells #[.int .i64 n, .slice (some ⟨g, 0, none⟩) ws.length c1] 28) = W := ⟨_, rfl⟩
                rw [hW] at HD hD hlw d0 d1 p0 p1 p2 f0 f1 f2 m0 m1 x0 x1 x2 ⊢
                have hresW : W.heap[w.heap.size + 1]? = some (.cells #[.int .i64 0, .slice none 0 0] 28 (0, 0)) := by rw [hlw.block _ hz1]; exact HRES.out
                clear hRF hW hb3 hown3 hg3 hat3
                have hws := HWS.out
                have hws2 := HWS2.out
                skip
                go_wp2_with fail
                refine AnyZ.region (S := (fun w' => (w'.cell? ⟨bx, 0, none⟩ = some (.int .i64 n) ∧ w'.cell? ⟨bx, 1, none⟩ = some (.slice (some ⟨g, 0, none⟩) ws.length c1)) ∧ (w'.cell? ⟨w.heap.size, 0, none⟩ = some (.int .i64 n) ∧ w'.cell? ⟨w.heap.size, 1, none⟩ = some (.slice (some ⟨ob, oo, none⟩) ws.length cap)) ∧ w'.cell? ⟨ob, oo + kk * 3, none⟩ = some (.int .i64 x.a) ∧ w'.cell? ⟨ob, oo + kk * 3 + 1, none⟩ = some (.int .i64 x.b) ∧ w'.cell? ⟨ob, oo + kk * 3 + 2, none⟩ = some (.int .i64 x.c))) (z := 25) (by kernel_rfl) ?_ (fun hHeld => ?_)
                · exact ⟨⟨d0, d1⟩, ⟨m0, m1⟩, x0, x1, x2⟩
                refine AnyZ.take (i := 0) (oi := ⟨_, _, _, _, _, _⟩) (v := ?_) rfl (by kernel_rfl) (by kernel_rfl) (by kernel_rfl) (by kernel_rfl) (fun _ _ _ h => h) (Or.inl ⟨by rfl, ?_⟩) (by assumption) ?_
                rotate_left
                · (intro w hSw; (try dsimp only at hSw); (try simp only [List.getElem_toArray, List.getElem_cons_succ, List.getElem_cons_zero]); first | (go_simp; done) | (go_simp; with_reducible rfl))
                try simp only [Act.put, List.getElem_toArray, List.getElem_cons_succ, List.getElem_cons_zero, List.setIfInBounds_toArray, List.set_cons_zero, List.set_cons_succ]
                refine AnyZ.take (i := 1) (oi := ⟨_, _, _, _, _, _⟩) (v := ?_) rfl (by kernel_rfl) (by kernel_rfl) (by kernel_rfl) (by kernel_rfl) (fun _ _ _ h => h) (Or.inl ⟨by rfl, ?_⟩) (by assumption) ?_
                rotate_left
                · (intro w hSw; (try dsimp only at hSw); (try simp only [List.getElem_toArray, List.getElem_cons_succ, List.getElem_cons_zero]); first | (go_simp; done) | (go_simp; with_reducible rfl))
                try simp only [Act.put, List.getElem_toArray, List.getElem_cons_succ, List.getElem_cons_zero, List.setIfInBounds_toArray, List.set_cons_zero, List.set_cons_succ]
                refine AnyZ.take (i := 2) (oi := ⟨_, _, _, _, _, _⟩) (v := ?_) rfl (by kernel_rfl) (by kernel_rfl) (by kernel_rfl) (by kernel_rfl) (fun _ _ _ h => h) (Or.inl ⟨by rfl, ?_⟩) (by assumption) ?_
                rotate_left
                · (intro w hSw; (try dsimp only at hSw); (try simp only [List.getElem_toArray, List.getElem_cons_succ, List.getElem_cons_zero]); first | (go_simp; done) | (go_simp; with_reducible rfl))
                try simp only [Act.put, List.getElem_toArray, List.getElem_cons_succ, List.getElem_cons_zero, List.setIfInBounds_toArray, List.set_cons_zero, List.set_cons_succ]
                refine AnyZ.take (i := 3) (oi := ⟨_, _, _, _, _, _⟩) (v := ?_) rfl (by kernel_rfl) (by kernel_rfl) (by kernel_rfl) (by kernel_rfl) (fun _ _ _ h => h) (Or.inl ⟨by rfl, ?_⟩) (by assumption) ?_
                rotate_left
                · (intro w hSw; (try dsimp only at hSw); (try simp only [List.getElem_toArray, List.getElem_cons_succ, List.getElem_cons_zero]); first | (go_simp; done) | (go_simp; with_reducible rfl))
                try simp only [Act.put, List.getElem_toArray, List.getElem_cons_succ, List.getElem_cons_zero, List.setIfInBounds_toArray, List.set_cons_zero, List.set_cons_succ]
                refine AnyZ.take (i := 4) (oi := ⟨_, _, _, _, _, _⟩) (v := ?_) rfl (by kernel_rfl) (by kernel_rfl) (by kernel_rfl) (by kernel_rfl) (fun _ _ _ h => h) (Or.inl ⟨by rfl, ?_⟩) (by assumption) ?_
                rotate_left
                · (intro w hSw; (try dsimp only at hSw); (try simp only [List.getElem_toArray, List.getElem_cons_succ, List.getElem_cons_zero]); first | (go_simp; done) | (go_simp; with_reducible rfl))
                try simp only [Act.put, List.getElem_toArray, List.getElem_cons_succ, List.getElem_cons_zero, List.setIfInBounds_toArray, List.set_cons_zero, List.set_cons_succ]
                refine AnyZ.take (i := 5) (oi := ⟨_, _, _, _, _, _⟩) (v := ?_) rfl (by kernel_rfl) (by kernel_rfl) (by kernel_rfl) (by kernel_rfl) (fun _ _ _ h => h) (Or.inl ⟨by rfl, ?_⟩) (by assumption) ?_
                rotate_left
                · (intro w hSw; (try dsimp only at hSw); (try simp only [List.getElem_toArray, List.getElem_cons_succ, List.getElem_cons_zero]); first | (go_simp; done) | (go_simp; with_reducible rfl))
                try simp only [Act.put, List.getElem_toArray, List.getElem_cons_succ, List.getElem_cons_zero, List.setIfInBounds_toArray, List.set_cons_zero, List.set_cons_succ]
                refine AnyZ.take (i := 6) (oi := ⟨_, _, _, _, _, _⟩) (v := ?_) rfl (by kernel_rfl) (by kernel_rfl) (by kernel_rfl) (by kernel_rfl) (fun _ _ _ h => h) (Or.inl ⟨by rfl, ?_⟩) (by assumption) ?_
                rotate_left
                · (intro w hSw; (try dsimp only at hSw); (try simp only [List.getElem_toArray, List.getElem_cons_succ, List.getElem_cons_zero]); first | (go_simp; done) | (go_simp; with_reducible rfl))
                try simp only [Act.put, List.getElem_toArray, List.getElem_cons_succ, List.getElem_cons_zero, List.setIfInBounds_toArray, List.set_cons_zero, List.set_cons_succ]
                refine AnyZ.take (i := 7) (oi := ⟨_, _, _, _, _, _⟩) (v := ?_) rfl (by kernel_rfl) (by kernel_rfl) (by kernel_rfl) (by kernel_rfl) (fun _ _ _ h => h) (Or.inl ⟨by rfl, ?_⟩) (by assumption) ?_
                rotate_left
                · (intro w hSw; (try dsimp only at hSw); (try simp only [List.getElem_toArray, List.getElem_cons_succ, List.getElem_cons_zero]); first | (go_simp; done) | (go_simp; with_reducible rfl))
                try simp only [Act.put, List.getElem_toArray, List.getElem_cons_succ, List.getElem_cons_zero, List.setIfInBounds_toArray, List.set_cons_zero, List.set_cons_succ]
                refine AnyZ.take (i := 8) (oi := ⟨_, _, _, _, _, _⟩) (v := ?_) rfl (by kernel_rfl) (by kernel_rfl) (by kernel_rfl) (by kernel_rfl) (fun _ _ _ h => h) (Or.inl ⟨by rfl, ?_⟩) (by assumption) ?_
                rotate_left
                · (intro w hSw; (try dsimp only at hSw); (try simp only [List.getElem_toArray, List.getElem_cons_succ, List.getElem_cons_zero]); first | (go_simp; done) | (go_simp; with_reducible rfl))
                try simp only [Act.put, List.getElem_toArray, List.getElem_cons_succ, List.getElem_cons_zero, List.setIfInBounds_toArray, List.set_cons_zero, List.set_cons_succ]
                refine AnyZ.take (i := 9) (oi := ⟨_, _, _, _, _, _⟩) (v := ?_) rfl (by kernel_rfl) (by kernel_rfl) (by kernel_rfl) (by kernel_rfl) (fun _ _ _ h => h) (Or.inl ⟨by rfl, ?_⟩) (by assumption) ?_
                rotate_left
                · (intro w hSw; (try dsimp only at hSw); (try simp only [List.getElem_toArray, List.getElem_cons_succ, List.getElem_cons_zero]); first | (go_simp; done) | (go_simp; with_reducible rfl))
                try simp only [Act.put, List.getElem_toArray, List.getElem_cons_succ, List.getElem_cons_zero, List.setIfInBounds_toArray, List.set_cons_zero, List.set_cons_succ]
                refine AnyZ.take (i := 10) (oi := ⟨_, _, _, _, _, _⟩) (v := ?_) rfl (by kernel_rfl) (by kernel_rfl) (by kernel_rfl) (by kernel_rfl) (fun _ _ _ h => h) (Or.inl ⟨by rfl, ?_⟩) (by assumption) ?_
                rotate_left
                · (intro w hSw; (try dsimp only at hSw); (try simp only [List.getElem_toArray, List.getElem_cons_succ, List.getElem_cons_zero]); first | (go_simp; done) | (go_simp; with_reducible rfl))
                try simp only [Act.put, List.getElem_toArray, List.getElem_cons_succ, List.getElem_cons_zero, List.setIfInBounds_toArray, List.set_cons_zero, List.set_cons_succ]
                refine AnyZ.take (i := 11) (oi := ⟨_, _, _, _, _, _⟩) (v := ?_) rfl (by kernel_rfl) (by kernel_rfl) (by kernel_rfl) (by kernel_rfl) (fun _ _ _ h => h) (Or.inl ⟨by rfl, ?_⟩) (by assumption) ?_
                rotate_left
                · (intro w hSw; (try dsimp only at hSw); (try simp only [List.getElem_toArray, List.getElem_cons_succ, List.getElem_cons_zero]); first | (go_simp; done) | (go_simp; with_reducible rfl))
                try simp only [Act.put, List.getElem_toArray, List.getElem_cons_succ, List.getElem_cons_zero, List.setIfInBounds_toArray, List.set_cons_zero, List.set_cons_succ]
                refine AnyZ.take (i := 12) (oi := ⟨_, _, _, _, _, _⟩) (v := ?_) rfl (by kernel_rfl) (by kernel_rfl) (by kernel_rfl) (by kernel_rfl) (fun _ _ _ h => h) (Or.inl ⟨by rfl, ?_⟩) (by assumption) ?_
                rotate_left
                · (intro w hSw; (try dsimp only at hSw); (try simp only [List.getElem_toArray, List.getElem_cons_succ, List.getElem_cons_zero]); first | (go_simp; done) | (go_simp; with_reducible rfl))
                try simp only [Act.put, List.getElem_toArray, List.getElem_cons_succ, List.getElem_cons_zero, List.setIfInBounds_toArray, List.set_cons_zero, List.set_cons_succ]
                refine AnyZ.take (i := 13) (oi := ⟨_, _, _, _, _, _⟩) (v := ?_) rfl (by kernel_rfl) (by kernel_rfl) (by kernel_rfl) (by kernel_rfl) (fun _ _ _ h => h) (Or.inl ⟨by rfl, ?_⟩) (by assumption) ?_
                rotate_left
                · (intro w hSw; (try dsimp only at hSw); (try simp only [List.getElem_toArray, List.getElem_cons_succ, List.getElem_cons_zero]); first | (go_simp; done) | (go_simp; with_reducible rfl))
                try simp only [Act.put, List.getElem_toArray, List.getElem_cons_succ, List.getElem_cons_zero, List.setIfInBounds_toArray, List.set_cons_zero, List.set_cons_succ]
                refine AnyZ.take (i := 14) (oi := ⟨_, _, _, _, _, _⟩) (v := ?_) rfl (by kernel_rfl) (by kernel_rfl) (by kernel_rfl) (by kernel_rfl) (fun _ _ _ h => h) (Or.inl ⟨by rfl, ?_⟩) (by assumption) ?_
                rotate_left
                · (intro w hSw; (try dsimp only at hSw); (try simp only [List.getElem_toArray, List.getElem_cons_succ, List.getElem_cons_zero]); first | (go_simp; done) | (go_simp; with_reducible rfl))
                try simp only [Act.put, List.getElem_toArray, List.getElem_cons_succ, List.getElem_cons_zero, List.setIfInBounds_toArray, List.set_cons_zero, List.set_cons_succ]
                refine AnyZ.take (i := 15) (oi := ⟨_, _, _, _, _, _⟩) (v := ?_) rfl (by kernel_rfl) (by kernel_rfl) (by kernel_rfl) (by kernel_rfl) (fun _ _ _ h => h) (Or.inl ⟨by rfl, ?_⟩) (by assumption) ?_
                rotate_left
                · (intro w hSw; (try dsimp only at hSw); (try simp only [List.getElem_toArray, List.getElem_cons_succ, List.getElem_cons_zero]); first | (go_simp; done) | (go_simp; with_reducible rfl))
                try simp only [Act.put, List.getElem_toArray, List.getElem_cons_succ, List.getElem_cons_zero, List.setIfInBounds_toArray, List.set_cons_zero, List.set_cons_succ]
                refine AnyZ.take (i := 16) (oi := ⟨_, _, _, _, _, _⟩) (v := ?_) rfl (by kernel_rfl) (by kernel_rfl) (by kernel_rfl) (by kernel_rfl) (fun _ _ _ h => h) (Or.inl ⟨by rfl, ?_⟩) (by assumption) ?_
                rotate_left
                · (intro w hSw; (try dsimp only at hSw); (try simp only [List.getElem_toArray, List.getElem_cons_succ, List.getElem_cons_zero]); first | (go_simp; done) | (go_simp; with_reducible rfl))
                try simp only [Act.put, List.getElem_toArray, List.getElem_cons_succ, List.getElem_cons_zero, List.setIfInBounds_toArray, List.set_cons_zero, List.set_cons_succ]
                refine AnyZ.take (i := 17) (oi := ⟨_, _, _, _, _, _⟩) (v := ?_) rfl (by kernel_rfl) (by kernel_rfl) (by kernel_rfl) (by kernel_rfl) (fun _ _ _ h => h) (Or.inl ⟨by rfl, ?_⟩) (by assumption) ?_
                rotate_left
                · (intro w hSw; (try dsimp only at hSw); (try simp only [List.getElem_toArray, List.getElem_cons_succ, List.getElem_cons_zero]); first | (go_simp; done) | (go_simp; with_reducible rfl))
                try simp only [Act.put, List.getElem_toArray, List.getElem_cons_succ, List.getElem_cons_zero, List.setIfInBounds_toArray, List.set_cons_zero, List.set_cons_succ]
                refine AnyZ.take (i := 18) (oi := ⟨_, _, _, _, _, _⟩) (v := ?_) rfl (by kernel_rfl) (by kernel_rfl) (by kernel_rfl) (by kernel_rfl) (fun _ _ _ h => h) (Or.inl ⟨by rfl, ?_⟩) (by assumption) ?_
                rotate_left
                · (intro w hSw; (try dsimp only at hSw); (try simp only [List.getElem_toArray, List.getElem_cons_succ, List.getElem_cons_zero]); first | (go_simp; done) | (go_simp; with_reducible rfl))
                try simp only [Act.put, List.getElem_toArray, List.getElem_cons_succ, List.getElem_cons_zero, List.setIfInBounds_toArray, List.set_cons_zero, List.set_cons_succ]
                refine AnyZ.take (i := 19) (oi := ⟨_, _, _, _, _, _⟩) (v := ?_) rfl (by kernel_rfl) (by kernel_rfl) (by kernel_rfl) (by kernel_rfl) (fun _ _ _ h => h) (Or.inl ⟨by rfl, ?_⟩) (by assumption) ?_
                rotate_left
                · (intro w hSw; (try dsimp only at hSw); (try simp only [List.getElem_toArray, List.getElem_cons_succ, List.getElem_cons_zero]); first | (go_simp; done) | (go_simp; with_reducible rfl))
                try simp only [Act.put, List.getElem_toArray, List.getElem_cons_succ, List.getElem_cons_zero, List.setIfInBounds_toArray, List.set_cons_zero, List.set_cons_succ]
                refine AnyZ.take (i := 20) (oi := ⟨_, _, _, _, _, _⟩) (v := ?_) rfl (by kernel_rfl) (by kernel_rfl) (by kernel_rfl) (by kernel_rfl) (fun _ _ _ h => h) (Or.inl ⟨by rfl, ?_⟩) (by assumption) ?_
                rotate_left
                · (intro w hSw; (try dsimp only at hSw); (try simp only [List.getElem_toArray, List.getElem_cons_succ, List.getElem_cons_zero]); first | (go_simp; done) | (go_simp; with_reducible rfl))
                try simp only [Act.put, List.getElem_toArray, List.getElem_cons_succ, List.getElem_cons_zero, List.setIfInBounds_toArray, List.set_cons_zero, List.set_cons_succ]
                refine AnyZ.take (i := 21) (oi := ⟨_, _, _, _, _, _⟩) (v := ?_) rfl (by kernel_rfl) (by kernel_rfl) (by kernel_rfl) (by kernel_rfl) (fun _ _ _ h => h) (Or.inl ⟨by rfl, ?_⟩) (by assumption) ?_
                rotate_left
                · (intro w hSw; (try dsimp only at hSw); (try simp only [List.getElem_toArray, List.getElem_cons_succ, List.getElem_cons_zero]); first | (go_simp; done) | (go_simp; with_reducible rfl))
                try simp only [Act.put, List.getElem_toArray, List.getElem_cons_succ, List.getElem_cons_zero, List.setIfInBounds_toArray, List.set_cons_zero, List.set_cons_succ]
                refine AnyZ.take (i := 22) (oi := ⟨_, _, _, _, _, _⟩) (v := ?_) rfl (by kernel_rfl) (by kernel_rfl) (by kernel_rfl) (by kernel_rfl) (fun _ _ _ h => h) (Or.inl ⟨by rfl, ?_⟩) (by assumption) ?_
                rotate_left
                · (intro w hSw; (try dsimp only at hSw); (try simp only [List.getElem_toArray, List.getElem_cons_succ, List.getElem_cons_zero]); first | (go_simp; done) | (go_simp; with_reducible rfl))
                try simp only [Act.put, List.getElem_toArray, List.getElem_cons_succ, List.getElem_cons_zero, List.setIfInBounds_toArray, List.set_cons_zero, List.set_cons_succ]
                refine AnyZ.take (i := 23) (oi := ⟨_, _, _, _, _, _⟩) (v := ?_) rfl (by kernel_rfl) (by kernel_rfl) (by kernel_rfl) (by kernel_rfl) (fun _ _ _ h => h) (Or.inl ⟨by rfl, ?_⟩) (by assumption) ?_
                rotate_left
                · (intro w hSw; (try dsimp only at hSw); (try simp only [List.getElem_toArray, List.getElem_cons_succ, List.getElem_cons_zero]); first | (go_simp; done) | (go_simp; with_reducible rfl))
                try simp only [Act.put, List.getElem_toArray, List.getElem_cons_succ, List.getElem_cons_zero, List.setIfInBounds_toArray, List.set_cons_zero, List.set_cons_succ]
                refine AnyZ.take (i := 24) (oi := ⟨_, _, _, _, _, _⟩) (v := ?_) rfl (by kernel_rfl) (by kernel_rfl) (by kernel_rfl) (by kernel_rfl) (fun _ _ _ h => h) (Or.inl ⟨by rfl, ?_⟩) (by assumption) ?_
                rotate_left
                · (intro w hSw; (try dsimp only at hSw); (try simp only [List.getElem_toArray, List.getElem_cons_succ, List.getElem_cons_zero]); first | (go_simp; done) | (go_simp; with_reducible rfl))
                try simp only [Act.put, List.getElem_toArray, List.getElem_cons_succ, List.getElem_cons_zero, List.setIfInBounds_toArray, List.set_cons_zero, List.set_cons_succ]
                refine AnyZ.step (i := 25) (o := ⟨_, _, _, _, _, _⟩) (by kernel_rfl) rfl (fun K hK => ?_)
                go_simp
                refine hK.out _ _ (fun h => absurd rfl h) (fun _ => ?_)
                clear hK K
                try simp only [Act.put, List.getElem_toArray, List.getElem_cons_succ, List.getElem_cons_zero, List.setIfInBounds_toArray, List.set_cons_zero, List.set_cons_succ]
                refine AnyZ.done (by kernel_rfl) ?_ _
                have q40 := set3_keep (u0 := .int .i64 x.a) (u1 := .int .i64 x.b) (u2 := .int .i64 (x.c + b)) (o0 := kk * 3) (o1 := kk * 3 + 1) (o2 := kk * 3 + 2) (Ne.symm hne) d0
                have q41 := set3_keep (u0 := .int .i64 x.a) (u1 := .int .i64 x.b) (u2 := .int .i64 (x.c + b)) (o0 := kk * 3) (o1 := kk * 3 + 1) (o2 := kk * 3 + 2) (Ne.symm hne) d1
                have hr4 := (set3_block (W := W) (u0 := .int .i64 x.a) (u1 := .int .i64 x.b) (u2 := .int .i64 (x.c + b)) (o0 := kk * 3) (o1 := kk * 3 + 1) (o2 := kk * 3 + 2) (show w.heap.size + 1 ≠ g by omega)).trans hresW
                have HFIN := Lib.hid (fun v0 v1 => HD.out.fin HX.out b (r := w.heap.size + 1) (by omega) v0 v1)
                have HLOW : Hid (Below w.heap.size w (((W.setCell ⟨g, kk * 3, none⟩ (.int .i64 x.a)).setCell ⟨g, kk * 3 + 1, none⟩ (.int .i64 x.b)).setCell ⟨g, kk * 3 + 2, none⟩ (.int .i64 (x.c + b)))) := by
                  have h9 : Below w.heap.size w W := bstep HB1.out HB1.out.size hlw
                  exact ((h9.setCell (p := ⟨g, kk * 3, none⟩) (by simp; omega) _).setCell (p := ⟨g, kk * 3 + 1, none⟩) (by simp; omega) _).setCell (p := ⟨g, kk * 3 + 2, none⟩) (by simp; omega) _
                obtain ⟨V, hV⟩ : ∃ V, ((W.setCell ⟨g, kk * 3, none⟩ (.int .i64 x.a)).setCell ⟨g, kk * 3 + 1, none⟩ (.int .i64 x.b)).setCell ⟨g, kk * 3 + 2, none⟩ (.int .i64 (x.c + b)) = V := ⟨_, rfl⟩
                rw [hV] at q40 q41 hr4 HFIN HLOW ⊢
                have y0 : V.cell? ⟨w.heap.size + 1, 0, none⟩ = some (.int .i64 0) := cell_of_row _ _ 0 _ _ (0, 0) hr4
                have y1 : V.cell? ⟨w.heap.size + 1, 1, none⟩ = some (.slice none 0 0) := cell_of_row _ _ 1 _ _ (0, 0) hr4
                have z0 : V.frozen? ⟨w.heap.size + 1, 0, none⟩ = false := by simp [World.frozen?, hr4]
                have z1 : V.frozen? ⟨w.heap.size + 1, 1, none⟩ = false := by simp [World.frozen?, hr4]
                have T := Lib.hid (two_cells (v0 := .int .i64 n) (v1 := .slice (some ⟨g, 0, none⟩) ws.length c1) hr4)
                have HL2 := Lib.hid ((HLOW.out.setCell (p := ⟨w.heap.size + 1, 0, none⟩) (by simp) (.int .i64 n)).setCell (p := ⟨w.heap.size + 1, 1, none⟩) (by simp) (.slice (some ⟨g, 0, none⟩) ws.length c1))
                clear hV hr4 hresW p0 p1 p2 f0 f1 f2 d0 d1 m0 m1 x0 x1 x2
                go_wp2_with fail
                obtain ⟨t0, t1⟩ := T.out
                refine bodyPost_ret (v := .tuple #[.agg #[.int .i64 n, .slice (some ⟨g, 0, none⟩) ws.length c1], .bool true]) (by simp [results, Try.results5, go_sem, t0, t1]) rfl ?_
                refine ⟨some ⟨g, 0, none⟩, c1, g, g + 1, by rw [da_len], ⟨fun j hj => (HFIN.out _ _).at_ j hj, (HFIN.out _ _).top⟩, by omega, HL2.out.drew⟩
              · try simp only [List.getElem_toArray, List.getElem_cons_succ, List.getElem_cons_zero]
                go_simp
                refine hK.out _ _ ?_ (fun hHeld => ?_)
                · exact ⟨(World.cell?_alloc_lt _ _ _ (by show w.heap.size < (w1.drew.alloc (.cells #[] 39)).heap.size; simp; omega)).trans hHeld.1, (World.cell?_alloc_lt _ _ _ (by show w.heap.size < (w1.drew.alloc (.cells #[] 39)).heap.size; simp; omega)).trans hHeld.2⟩
                clear hK K
                try simp only [Act.put, List.getElem_toArray, List.getElem_cons_succ, List.getElem_cons_zero, List.setIfInBounds_toArray, List.set_cons_zero, List.set_cons_succ]
                refine wpAnyH_ready (rs := [5]) (by kernel_rfl) (by simp) ?_
                refine AllReadyH.cons rfl (fun K hK => ?_) AllReadyH.nil
                refine step_append_copy (by rfl) _ _ _ (by rfl) (w1.heap.size) 39 i0 _ 3 24 Try.underlying26 hi0 hz0 hz1' hz2 rfl (by omega) (.slice (some ⟨w1.heap.size, 0, none⟩) 0 0) (by rfl) (World.ownsRow.alloc (World.ownsRow_made w1.drew #[] 0 (by simp) (by unfold maxLen; omega) rfl) _) ⟨ob, oo, none⟩ ws.length cap (wyCells ws) (by rfl) (by rw [wyCells_len]) (RW.news (B := ((w1.drew.alloc (.cells #[] 39)).alloc (.cells #[.int .i64 0, .slice none 0 0] 28)).heap.size) (HR.out.later (by have := HB1.out; go_grown))) (wyCells_one _) (by unfold maxLen; omega) (by omega) (by simp; try omega) _ rfl ?_; intro A1 c1 w3 hown3 hg3 hat3
                have hb3 : Below w1.heap.size w1 w3 := below_app (H := w1.heap.size) (by go_grown) hg3 (by omega)
                have hbox : w3.heap[w1.heap.size + 1]? = some (.cells #[.int .i64 0, .slice none 0 0] 28 (0, 0)) := by
                  rw [hg3.block _ (by simp) (by intro e; injection e with e; dsimp only at e; omega)]
                  have h9 := heap_alloc_new (w1.drew.alloc (.cells #[] 39)) (.cells #[.int .i64 0, .slice none 0 0] 28)
                  rw [show (w1.drew.alloc (.cells #[] 39)).heap.size = w1.heap.size + 1 from by simp] at h9
                  exact h9
                have s0 : w3.cell? ⟨w1.heap.size + 1, 0, none⟩ = some (.int .i64 0) := cell_of_row _ _ 0 _ _ (0, 0) hbox
                have s1 : w3.cell? ⟨w1.heap.size + 1, 1, none⟩ = some (.slice none 0 0) := cell_of_row _ _ 1 _ _ (0, 0) hbox
                have s2 : w3.frozen? ⟨w1.heap.size + 1, 0, none⟩ = false := by simp [World.frozen?, hbox]
                have s3 : w3.frozen? ⟨w1.heap.size + 1, 1, none⟩ = false := by simp [World.frozen?, hbox]
                have TB := Lib.hid (two_cells (v0 := .int .i64 n) (v1 := .slice A1 ws.length c1) hbox)
                refine hK.out _ _ ?_ (fun hHeld => ?_)
                · exact keep2 hb3 ⟨k10, k11⟩ (by omega)
                clear hK K
                try simp only [Act.put, List.getElem_toArray, List.getElem_cons_succ, List.getElem_cons_zero, List.setIfInBounds_toArray, List.set_cons_zero, List.set_cons_succ]
                refine wpAnyH_take (i := 6) (v := ?_) rfl (by kernel_rfl) (by kernel_rfl) (by kernel_rfl) (fun _ _ _ h => h) (Or.inl ⟨by rfl, ?_⟩) (by assumption) ?_
                rotate_left
                · (intro w hSw; (try dsimp only at hSw); (try simp only [List.getElem_toArray, List.getElem_cons_succ, List.getElem_cons_zero]); first | (go_simp; done) | (go_simp; with_reducible rfl))
                try simp only [Act.put, List.getElem_toArray, List.getElem_cons_succ, List.getElem_cons_zero, List.setIfInBounds_toArray, List.set_cons_zero, List.set_cons_succ]
                refine wpAnyH_ready (rs := [8]) (by kernel_rfl) (by simp) ?_
                refine AllReadyH.cons rfl (fun K hK => ?_) AllReadyH.nil
                try simp only [List.getElem_toArray, List.getElem_cons_succ, List.getElem_cons_zero]
                go_simp
                obtain ⟨g, hA1, hgb0, cur, hcur, htake⟩ := own_at hown3 (by omega) rfl
                subst hA1
                have hgs : g < w3.heap.size := (Array.getElem?_eq_some_iff.1 hcur).1
                have hbs : w1.heap.size + 1 < w3.heap.size := (Array.getElem?_eq_some_iff.1 hbox).1
                have hgne : g ≠ w1.heap.size + 1 := by
                  intro e; rw [e, hbox] at hcur; injection hcur with hcur; injection hcur with _ hcur; exact absurd hcur (by decide)
                have hD : DnSt w1 ((w3.setCell ⟨w1.heap.size + 1, 0, none⟩ (.int .i64 n)).setCell ⟨w1.heap.size + 1, 1, none⟩ (.slice (some ⟨g, 0, none⟩) ws.length c1)) 39 n (w1.heap.size + 1) g c1 ws := ⟨(hb3.setCell (p := ⟨w1.heap.size + 1, 0, none⟩) (by simp) _).setCell (p := ⟨w1.heap.size + 1, 1, none⟩) (by simp) _, by omega, by simpa [World.setCell] using hbs, by omega, hgne, TB.out.1, TB.out.2, cur, ((Below.heap_setCell _ _ _ _ hgne).trans (Below.heap_setCell _ _ _ _ hgne)).trans hcur, htake⟩
                clear s0 s1 s2 s3 TB hbox
                obtain ⟨bx, hbx⟩ : ∃ bx, w1.heap.size + 1 = bx := ⟨_, rfl⟩
                rw [hbx] at hD ⊢
                refine hK.out _ _ ?_ (fun hHeld => ?_)
                · exact ⟨hD.low.cell (p := ⟨w.heap.size, 0, none⟩) (by show w.heap.size < w1.heap.size; omega) |>.trans k10, hD.low.cell (p := ⟨w.heap.size, 1, none⟩) (by show w.heap.size < w1.heap.size; omega) |>.trans k11⟩
                clear hK K
                try simp only [Act.put, List.getElem_toArray, List.getElem_cons_succ, List.getElem_cons_zero, List.setIfInBounds_toArray, List.set_cons_zero, List.set_cons_succ]
                refine wpAnyH_done (by kernel_rfl) ?_ _
                have HD := Lib.hid hD
                have hgb := hD.gl
                have hbb := hD.bl
                have hne := hD.ne
                have hlw := hD.low
                have d0 := hD.c0
                have d1 := hD.c1'
                have hRF := hD.rowF
                obtain ⟨_, _, e9, -, -, p0, f0⟩ := hRF.at_ (kk * 3) (by omega)
                injection e9 with e9; injection e9 with e91 e92; subst e91; subst e92
                obtain ⟨_, _, e9, -, -, p1, f1⟩ := hRF.at_ (kk * 3 + 1) (by omega)
                injection e9 with e9; injection e9 with e91 e92; subst e91; subst e92
                obtain ⟨_, _, e9, -, -, p2, f2⟩ := hRF.at_ (kk * 3 + 2) (by omega)
                injection e9 with e9; injection e9 with e91 e92; subst e91; subst e92
                rw [Nat.zero_add] at p0 f0 p1 f1 p2 f2
                obtain ⟨m0, m1⟩ := keep2 hlw ⟨k10, k11⟩ (by omega)
                have x0 := (hlw.cell (p := ⟨ob, oo + kk * 3, none⟩) hob).trans e0
                have x1 := (hlw.cell (p := ⟨ob, oo + kk * 3 + 1, none⟩) hob).trans e1
                have x2 := (hlw.cell (p := ⟨ob, oo + kk * 3 + 2, none⟩) hob).trans e2
                obtain ⟨W, hW⟩ : ∃ W, (w3.setCell ⟨bx, 0, none⟩ (.int .i64 n)).setCell ⟨bx, 1, none⟩ (.slice (some ⟨g, 0, none⟩) ws.length c1) = W := ⟨_, rfl⟩
                rw [hW] at HD hD hlw d0 d1 p0 p1 p2 f0 f1 f2 m0 m1 x0 x1 x2 ⊢
                have hresW : W.heap[w.heap.size + 1]? = some (.cells #[.int .i64 0, .slice none 0 0] 28 (0, 0)) := by rw [hlw.block _ hz1]; exact HRES.out
                clear hRF hW hb3 hown3 hg3 hat3
                have hws := HWS.out
                have hws2 := HWS2.out
                skip
                go_wp2_with fail
                refine AnyZ.region (S := (fun w' => (w'.cell? ⟨bx, 0, none⟩ = some (.int .i64 n) ∧ w'.cell? ⟨bx, 1, none⟩ = some (.slice (some ⟨g, 0, none⟩) ws.length c1)) ∧ (w'.cell? ⟨w.heap.size, 0, none⟩ = some (.int .i64 n) ∧ w'.cell? ⟨w.heap.size, 1, none⟩ = some (.slice (some ⟨ob, oo, none⟩) ws.length cap)) ∧ w'.cell? ⟨ob, oo + kk * 3, none⟩ = some (.int .i64 x.a) ∧ w'.cell? ⟨ob, oo + kk * 3 + 1, none⟩ = some (.int .i64 x.b) ∧ w'.cell? ⟨ob, oo + kk * 3 + 2, none⟩ = some (.int .i64 x.c))) (z := 25) (by kernel_rfl) ?_ (fun hHeld => ?_)
                · exact ⟨⟨d0, d1⟩, ⟨m0, m1⟩, x0, x1, x2⟩
                refine AnyZ.take (i := 0) (oi := ⟨_, _, _, _, _, _⟩) (v := ?_) rfl (by kernel_rfl) (by kernel_rfl) (by kernel_rfl) (by kernel_rfl) (fun _ _ _ h => h) (Or.inl ⟨by rfl, ?_⟩) (by assumption) ?_
                rotate_left
                · (intro w hSw; (try dsimp only at hSw); (try simp only [List.getElem_toArray, List.getElem_cons_succ, List.getElem_cons_zero]); first | (go_simp; done) | (go_simp; with_reducible rfl))
                try simp only [Act.put, List.getElem_toArray, List.getElem_cons_succ, List.getElem_cons_zero, List.setIfInBounds_toArray, List.set_cons_zero, List.set_cons_succ]
                refine AnyZ.take (i := 1) (oi := ⟨_, _, _, _, _, _⟩) (v := ?_) rfl (by kernel_rfl) (by kernel_rfl) (by kernel_rfl) (by kernel_rfl) (fun _ _ _ h => h) (Or.inl ⟨by rfl, ?_⟩) (by assumption) ?_
                rotate_left
                · (intro w hSw; (try dsimp only at hSw); (try simp only [List.getElem_toArray, List.getElem_cons_succ, List.getElem_cons_zero]); first | (go_simp; done) | (go_simp; with_reducible rfl))
                try simp only [Act.put, List.getElem_toArray, List.getElem_cons_succ, List.getElem_cons_zero, List.setIfInBounds_toArray, List.set_cons_zero, List.set_cons_succ]
                refine AnyZ.take (i := 2) (oi := ⟨_, _, _, _, _, _⟩) (v := ?_) rfl (by kernel_rfl) (by kernel_rfl) (by kernel_rfl) (by kernel_rfl) (fun _ _ _ h => h) (Or.inl ⟨by rfl, ?_⟩) (by assumption) ?_
                rotate_left
                · (intro w hSw; (try dsimp only at hSw); (try simp only [List.getElem_toArray, List.getElem_cons_succ, List.getElem_cons_zero]); first | (go_simp; done) | (go_simp; with_reducible rfl))
                try simp only [Act.put, List.getElem_toArray, List.getElem_cons_succ, List.getElem_cons_zero, List.setIfInBounds_toArray, List.set_cons_zero, List.set_cons_succ]
                refine AnyZ.take (i := 3) (oi := ⟨_, _, _, _, _, _⟩) (v := ?_) rfl (by kernel_rfl) (by kernel_rfl) (by kernel_rfl) (by kernel_rfl) (fun _ _ _ h => h) (Or.inl ⟨by rfl, ?_⟩) (by assumption) ?_
                rotate_left
                · (intro w hSw; (try dsimp only at hSw); (try simp only [List.getElem_toArray, List.getElem_cons_succ, List.getElem_cons_zero]); first | (go_simp; done) | (go_simp; with_reducible rfl))
                try simp only [Act.put, List.getElem_toArray, List.getElem_cons_succ, List.getElem_cons_zero, List.setIfInBounds_toArray, List.set_cons_zero, List.set_cons_succ]
                refine AnyZ.take (i := 4) (oi := ⟨_, _, _, _, _, _⟩) (v := ?_) rfl (by kernel_rfl) (by kernel_rfl) (by kernel_rfl) (by kernel_rfl) (fun _ _ _ h => h) (Or.inl ⟨by rfl, ?_⟩) (by assumption) ?_
                rotate_left
                · (intro w hSw; (try dsimp only at hSw); (try simp only [List.getElem_toArray, List.getElem_cons_succ, List.getElem_cons_zero]); first | (go_simp; done) | (go_simp; with_reducible rfl))
                try simp only [Act.put, List.getElem_toArray, List.getElem_cons_succ, List.getElem_cons_zero, List.setIfInBounds_toArray, List.set_cons_zero, List.set_cons_succ]
                refine AnyZ.take (i := 5) (oi := ⟨_, _, _, _, _, _⟩) (v := ?_) rfl (by kernel_rfl) (by kernel_rfl) (by kernel_rfl) (by kernel_rfl) (fun _ _ _ h => h) (Or.inl ⟨by rfl, ?_⟩) (by assumption) ?_
                rotate_left
                · (intro w hSw; (try dsimp only at hSw); (try simp only [List.getElem_toArray, List.getElem_cons_succ, List.getElem_cons_zero]); first | (go_simp; done) | (go_simp; with_reducible rfl))
                try simp only [Act.put, List.getElem_toArray, List.getElem_cons_succ, List.getElem_cons_zero, List.setIfInBounds_toArray, List.set_cons_zero, List.set_cons_succ]
                refine AnyZ.take (i := 6) (oi := ⟨_, _, _, _, _, _⟩) (v := ?_) rfl (by kernel_rfl) (by kernel_rfl) (by kernel_rfl) (by kernel_rfl) (fun _ _ _ h => h) (Or.inl ⟨by rfl, ?_⟩) (by assumption) ?_
                rotate_left
                · (intro w hSw; (try dsimp only at hSw); (try simp only [List.getElem_toArray, List.getElem_cons_succ, List.getElem_cons_zero]); first | (go_simp; done) | (go_simp; with_reducible rfl))
                try simp only [Act.put, List.getElem_toArray, List.getElem_cons_succ, List.getElem_cons_zero, List.setIfInBounds_toArray, List.set_cons_zero, List.set_cons_succ]
                refine AnyZ.take (i := 7) (oi := ⟨_, _, _, _, _, _⟩) (v := ?_) rfl (by kernel_rfl) (by kernel_rfl) (by kernel_rfl) (by kernel_rfl) (fun _ _ _ h => h) (Or.inl ⟨by rfl, ?_⟩) (by assumption) ?_
                rotate_left
                · (intro w hSw; (try dsimp only at hSw); (try simp only [List.getElem_toArray, List.getElem_cons_succ, List.getElem_cons_zero]); first | (go_simp; done) | (go_simp; with_reducible rfl))
                try simp only [Act.put, List.getElem_toArray, List.getElem_cons_succ, List.getElem_cons_zero, List.setIfInBounds_toArray, List.set_cons_zero, List.set_cons_succ]
                refine AnyZ.take (i := 8) (oi := ⟨_, _, _, _, _, _⟩) (v := ?_) rfl (by kernel_rfl) (by kernel_rfl) (by kernel_rfl) (by kernel_rfl) (fun _ _ _ h => h) (Or.inl ⟨by rfl, ?_⟩) (by assumption) ?_
                rotate_left
                · (intro w hSw; (try dsimp only at hSw); (try simp only [List.getElem_toArray, List.getElem_cons_succ, List.getElem_cons_zero]); first | (go_simp; done) | (go_simp; with_reducible rfl))
                try simp only [Act.put, List.getElem_toArray, List.getElem_cons_succ, List.getElem_cons_zero, List.setIfInBounds_toArray, List.set_cons_zero, List.set_cons_succ]
                refine AnyZ.take (i := 9) (oi := ⟨_, _, _, _, _, _⟩) (v := ?_) rfl (by kernel_rfl) (by kernel_rfl) (by kernel_rfl) (by kernel_rfl) (fun _ _ _ h => h) (Or.inl ⟨by rfl, ?_⟩) (by assumption) ?_
                rotate_left
                · (intro w hSw; (try dsimp only at hSw); (try simp only [List.getElem_toArray, List.getElem_cons_succ, List.getElem_cons_zero]); first | (go_simp; done) | (go_simp; with_reducible rfl))
                try simp only [Act.put, List.getElem_toArray, List.getElem_cons_succ, List.getElem_cons_zero, List.setIfInBounds_toArray, List.set_cons_zero, List.set_cons_succ]
                refine AnyZ.take (i := 10) (oi := ⟨_, _, _, _, _, _⟩) (v := ?_) rfl (by kernel_rfl) (by kernel_rfl) (by kernel_rfl) (by kernel_rfl) (fun _ _ _ h => h) (Or.inl ⟨by rfl, ?_⟩) (by assumption) ?_
                rotate_left
                · (intro w hSw; (try dsimp only at hSw); (try simp only [List.getElem_toArray, List.getElem_cons_succ, List.getElem_cons_zero]); first | (go_simp; done) | (go_simp; with_reducible rfl))
                try simp only [Act.put, List.getElem_toArray, List.getElem_cons_succ, List.getElem_cons_zero, List.setIfInBounds_toArray, List.set_cons_zero, List.set_cons_succ]
                refine AnyZ.take (i := 11) (oi := ⟨_, _, _, _, _, _⟩) (v := ?_) rfl (by kernel_rfl) (by kernel_rfl) (by kernel_rfl) (by kernel_rfl) (fun _ _ _ h => h) (Or.inl ⟨by rfl, ?_⟩) (by assumption) ?_
                rotate_left
                · (intro w hSw; (try dsimp only at hSw); (try simp only [List.getElem_toArray, List.getElem_cons_succ, List.getElem_cons_zero]); first | (go_simp; done) | (go_simp; with_reducible rfl))
                try simp only [Act.put, List.getElem_toArray, List.getElem_cons_succ, List.getElem_cons_zero, List.setIfInBounds_toArray, List.set_cons_zero, List.set_cons_succ]
                refine AnyZ.take (i := 12) (oi := ⟨_, _, _, _, _, _⟩) (v := ?_) rfl (by kernel_rfl) (by kernel_rfl) (by kernel_rfl) (by kernel_rfl) (fun _ _ _ h => h) (Or.inl ⟨by rfl, ?_⟩) (by assumption) ?_
                rotate_left
                · (intro w hSw; (try dsimp only at hSw); (try simp only [List.getElem_toArray, List.getElem_cons_succ, List.getElem_cons_zero]); first | (go_simp; done) | (go_simp; with_reducible rfl))
                try simp only [Act.put, List.getElem_toArray, List.getElem_cons_succ, List.getElem_cons_zero, List.setIfInBounds_toArray, List.set_cons_zero, List.set_cons_succ]
                refine AnyZ.take (i := 13) (oi := ⟨_, _, _, _, _, _⟩) (v := ?_) rfl (by kernel_rfl) (by kernel_rfl) (by kernel_rfl) (by kernel_rfl) (fun _ _ _ h => h) (Or.inl ⟨by rfl, ?_⟩) (by assumption) ?_
                rotate_left
                · (intro w hSw; (try dsimp only at hSw); (try simp only [List.getElem_toArray, List.getElem_cons_succ, List.getElem_cons_zero]); first | (go_simp; done) | (go_simp; with_reducible rfl))
                try simp only [Act.put, List.getElem_toArray, List.getElem_cons_succ, List.getElem_cons_zero, List.setIfInBounds_toArray, List.set_cons_zero, List.set_cons_succ]
                refine AnyZ.take (i := 14) (oi := ⟨_, _, _, _, _, _⟩) (v := ?_) rfl (by kernel_rfl) (by kernel_rfl) (by kernel_rfl) (by kernel_rfl) (fun _ _ _ h => h) (Or.inl ⟨by rfl, ?_⟩) (by assumption) ?_
                rotate_left
                · (intro w hSw; (try dsimp only at hSw); (try simp only [List.getElem_toArray, List.getElem_cons_succ, List.getElem_cons_zero]); first | (go_simp; done) | (go_simp; with_reducible rfl))
                try simp only [Act.put, List.getElem_toArray, List.getElem_cons_succ, List.getElem_cons_zero, List.setIfInBounds_toArray, List.set_cons_zero, List.set_cons_succ]
                refine AnyZ.take (i := 15) (oi := ⟨_, _, _, _, _, _⟩) (v := ?_) rfl (by kernel_rfl) (by kernel_rfl) (by kernel_rfl) (by kernel_rfl) (fun _ _ _ h => h) (Or.inl ⟨by rfl, ?_⟩) (by assumption) ?_
                rotate_left
                · (intro w hSw; (try dsimp only at hSw); (try simp only [List.getElem_toArray, List.getElem_cons_succ, List.getElem_cons_zero]); first | (go_simp; done) | (go_simp; with_reducible rfl))
                try simp only [Act.put, List.getElem_toArray, List.getElem_cons_succ, List.getElem_cons_zero, List.setIfInBounds_toArray, List.set_cons_zero, List.set_cons_succ]
                refine AnyZ.take (i := 16) (oi := ⟨_, _, _, _, _, _⟩) (v := ?_) rfl (by kernel_rfl) (by kernel_rfl) (by kernel_rfl) (by kernel_rfl) (fun _ _ _ h => h) (Or.inl ⟨by rfl, ?_⟩) (by assumption) ?_
                rotate_left
                · (intro w hSw; (try dsimp only at hSw); (try simp only [List.getElem_toArray, List.getElem_cons_succ, List.getElem_cons_zero]); first | (go_simp; done) | (go_simp; with_reducible rfl))
                try simp only [Act.put, List.getElem_toArray, List.getElem_cons_succ, List.getElem_cons_zero, List.setIfInBounds_toArray, List.set_cons_zero, List.set_cons_succ]
                refine AnyZ.take (i := 17) (oi := ⟨_, _, _, _, _, _⟩) (v := ?_) rfl (by kernel_rfl) (by kernel_rfl) (by kernel_rfl) (by kernel_rfl) (fun _ _ _ h => h) (Or.inl ⟨by rfl, ?_⟩) (by assumption) ?_
                rotate_left
                · (intro w hSw; (try dsimp only at hSw); (try simp only [List.getElem_toArray, List.getElem_cons_succ, List.getElem_cons_zero]); first | (go_simp; done) | (go_simp; with_reducible rfl))
                try simp only [Act.put, List.getElem_toArray, List.getElem_cons_succ, List.getElem_cons_zero, List.setIfInBounds_toArray, List.set_cons_zero, List.set_cons_succ]
                refine AnyZ.take (i := 18) (oi := ⟨_, _, _, _, _, _⟩) (v := ?_) rfl (by kernel_rfl) (by kernel_rfl) (by kernel_rfl) (by kernel_rfl) (fun _ _ _ h => h) (Or.inl ⟨by rfl, ?_⟩) (by assumption) ?_
                rotate_left
                · (intro w hSw; (try dsimp only at hSw); (try simp only [List.getElem_toArray, List.getElem_cons_succ, List.getElem_cons_zero]); first | (go_simp; done) | (go_simp; with_reducible rfl))
                try simp only [Act.put, List.getElem_toArray, List.getElem_cons_succ, List.getElem_cons_zero, List.setIfInBounds_toArray, List.set_cons_zero, List.set_cons_succ]
                refine AnyZ.take (i := 19) (oi := ⟨_, _, _, _, _, _⟩) (v := ?_) rfl (by kernel_rfl) (by kernel_rfl) (by kernel_rfl) (by kernel_rfl) (fun _ _ _ h => h) (Or.inl ⟨by rfl, ?_⟩) (by assumption) ?_
                rotate_left
                · (intro w hSw; (try dsimp only at hSw); (try simp only [List.getElem_toArray, List.getElem_cons_succ, List.getElem_cons_zero]); first | (go_simp; done) | (go_simp; with_reducible rfl))
                try simp only [Act.put, List.getElem_toArray, List.getElem_cons_succ, List.getElem_cons_zero, List.setIfInBounds_toArray, List.set_cons_zero, List.set_cons_succ]
                refine AnyZ.take (i := 20) (oi := ⟨_, _, _, _, _, _⟩) (v := ?_) rfl (by kernel_rfl) (by kernel_rfl) (by kernel_rfl) (by kernel_rfl) (fun _ _ _ h => h) (Or.inl ⟨by rfl, ?_⟩) (by assumption) ?_
                rotate_left
                · (intro w hSw; (try dsimp only at hSw); (try simp only [List.getElem_toArray, List.getElem_cons_succ, List.getElem_cons_zero]); first | (go_simp; done) | (go_simp; with_reducible rfl))
                try simp only [Act.put, List.getElem_toArray, List.getElem_cons_succ, List.getElem_cons_zero, List.setIfInBounds_toArray, List.set_cons_zero, List.set_cons_succ]
                refine AnyZ.take (i := 21) (oi := ⟨_, _, _, _, _, _⟩) (v := ?_) rfl (by kernel_rfl) (by kernel_rfl) (by kernel_rfl) (by kernel_rfl) (fun _ _ _ h => h) (Or.inl ⟨by rfl, ?_⟩) (by assumption) ?_
                rotate_left
                · (intro w hSw; (try dsimp only at hSw); (try simp only [List.getElem_toArray, List.getElem_cons_succ, List.getElem_cons_zero]); first | (go_simp; done) | (go_simp; with_reducible rfl))
                try simp only [Act.put, List.getElem_toArray, List.getElem_cons_succ, List.getElem_cons_zero, List.setIfInBounds_toArray, List.set_cons_zero, List.set_cons_succ]
                refine AnyZ.take (i := 22) (oi := ⟨_, _, _, _, _, _⟩) (v := ?_) rfl (by kernel_rfl) (by kernel_rfl) (by kernel_rfl) (by kernel_rfl) (fun _ _ _ h => h) (Or.inl ⟨by rfl, ?_⟩) (by assumption) ?_
                rotate_left
                · (intro w hSw; (try dsimp only at hSw); (try simp only [List.getElem_toArray, List.getElem_cons_succ, List.getElem_cons_zero]); first | (go_simp; done) | (go_simp; with_reducible rfl))
                try simp only [Act.put, List.getElem_toArray, List.getElem_cons_succ, List.getElem_cons_zero, List.setIfInBounds_toArray, List.set_cons_zero, List.set_cons_succ]
                refine AnyZ.take (i := 23) (oi := ⟨_, _, _, _, _, _⟩) (v := ?_) rfl (by kernel_rfl) (by kernel_rfl) (by kernel_rfl) (by kernel_rfl) (fun _ _ _ h => h) (Or.inl ⟨by rfl, ?_⟩) (by assumption) ?_
                rotate_left
                · (intro w hSw; (try dsimp only at hSw); (try simp only [List.getElem_toArray, List.getElem_cons_succ, List.getElem_cons_zero]); first | (go_simp; done) | (go_simp; with_reducible rfl))
                try simp only [Act.put, List.getElem_toArray, List.getElem_cons_succ, List.getElem_cons_zero, List.setIfInBounds_toArray, List.set_cons_zero, List.set_cons_succ]
                refine AnyZ.take (i := 24) (oi := ⟨_, _, _, _, _, _⟩) (v := ?_) rfl (by kernel_rfl) (by kernel_rfl) (by kernel_rfl) (by kernel_rfl) (fun _ _ _ h => h) (Or.inl ⟨by rfl, ?_⟩) (by assumption) ?_
                rotate_left
                · (intro w hSw; (try dsimp only at hSw); (try simp only [List.getElem_toArray, List.getElem_cons_succ, List.getElem_cons_zero]); first | (go_simp; done) | (go_simp; with_reducible rfl))
                try simp only [Act.put, List.getElem_toArray, List.getElem_cons_succ, List.getElem_cons_zero, List.setIfInBounds_toArray, List.set_cons_zero, List.set_cons_succ]
                refine AnyZ.step (i := 25) (o := ⟨_, _, _, _, _, _⟩) (by kernel_rfl) rfl (fun K hK => ?_)
                go_simp
                refine hK.out _ _ (fun h => absurd rfl h) (fun _ => ?_)
                clear hK K
                try simp only [Act.put, List.getElem_toArray, List.getElem_cons_succ, List.getElem_cons_zero, List.setIfInBounds_toArray, List.set_cons_zero, List.set_cons_succ]
                refine AnyZ.done (by kernel_rfl) ?_ _
                have q40 := set3_keep (u0 := .int .i64 x.a) (u1 := .int .i64 x.b) (u2 := .int .i64 (x.c + b)) (o0 := kk * 3) (o1 := kk * 3 + 1) (o2 := kk * 3 + 2) (Ne.symm hne) d0
                have q41 := set3_keep (u0 := .int .i64 x.a) (u1 := .int .i64 x.b) (u2 := .int .i64 (x.c + b)) (o0 := kk * 3) (o1 := kk * 3 + 1) (o2 := kk * 3 + 2) (Ne.symm hne) d1
                have hr4 := (set3_block (W := W) (u0 := .int .i64 x.a) (u1 := .int .i64 x.b) (u2 := .int .i64 (x.c + b)) (o0 := kk * 3) (o1 := kk * 3 + 1) (o2 := kk * 3 + 2) (show w.heap.size + 1 ≠ g by omega)).trans hresW
                have HFIN := Lib.hid (fun v0 v1 => HD.out.fin HX.out b (r := w.heap.size + 1) (by omega) v0 v1)
                have HLOW : Hid (Below w.heap.size w (((W.setCell ⟨g, kk * 3, none⟩ (.int .i64 x.a)).setCell ⟨g, kk * 3 + 1, none⟩ (.int .i64 x.b)).setCell ⟨g, kk * 3 + 2, none⟩ (.int .i64 (x.c + b)))) := by
                  have h9 : Below w.heap.size w W := bstep HB1.out HB1.out.size hlw
                  exact ((h9.setCell (p := ⟨g, kk * 3, none⟩) (by simp; omega) _).setCell (p := ⟨g, kk * 3 + 1, none⟩) (by simp; omega) _).setCell (p := ⟨g, kk * 3 + 2, none⟩) (by simp; omega) _
                obtain ⟨V, hV⟩ : ∃ V, ((W.setCell ⟨g, kk * 3, none⟩ (.int .i64 x.a)).setCell ⟨g, kk * 3 + 1, none⟩ (.int .i64 x.b)).setCell ⟨g, kk * 3 + 2, none⟩ (.int .i64 (x.c + b)) = V := ⟨_, rfl⟩
                rw [hV] at q40 q41 hr4 HFIN HLOW ⊢
                have y0 : V.cell? ⟨w.heap.size + 1, 0, none⟩ = some (.int .i64 0) := cell_of_row _ _ 0 _ _ (0, 0) hr4
                have y1 : V.cell? ⟨w.heap.size + 1, 1, none⟩ = some (.slice none 0 0) := cell_of_row _ _ 1 _ _ (0, 0) hr4
                have z0 : V.frozen? ⟨w.heap.size + 1, 0, none⟩ = false := by simp [World.frozen?, hr4]
                have z1 : V.frozen? ⟨w.heap.size + 1, 1, none⟩ = false := by simp [World.frozen?, hr4]
                have T := Lib.hid (two_cells (v0 := .int .i64 n) (v1 := .slice (some ⟨g, 0, none⟩) ws.length c1) hr4)
                have HL2 := Lib.hid ((HLOW.out.setCell (p := ⟨w.heap.size + 1, 0, none⟩) (by simp) (.int .i64 n)).setCell (p := ⟨w.heap.size + 1, 1, none⟩) (by simp) (.slice (some ⟨g, 0, none⟩) ws.length c1))
                clear hV hr4 hresW p0 p1 p2 f0 f1 f2 d0 d1 m0 m1 x0 x1 x2
                go_wp2_with fail
                obtain ⟨t0, t1⟩ := T.out
                refine bodyPost_ret (v := .tuple #[.agg #[.int .i64 n, .slice (some ⟨g, 0, none⟩) ws.length c1], .bool true]) (by simp [results, Try.results5, go_sem, t0, t1]) rfl ?_
                refine ⟨some ⟨g, 0, none⟩, c1, g, g + 1, by rw [da_len], ⟨fun j hj => (HFIN.out _ _).at_ j hj, (HFIN.out _ _).top⟩, by omega, HL2.out.drew⟩
            · try simp only [List.getElem_toArray, List.getElem_cons_succ, List.getElem_cons_zero]
              go_simp
              refine hK.out _ _ ?_ (fun hHeld => ?_)
              · exact ⟨(World.cell?_alloc_lt _ _ _ (by show w.heap.size < w1.drew.heap.size; simp; omega)).trans k10, (World.cell?_alloc_lt _ _ _ (by show w.heap.size < w1.drew.heap.size; simp; omega)).trans k11⟩
              clear hK K
              try simp only [Act.put, List.getElem_toArray, List.getElem_cons_succ, List.getElem_cons_zero, List.setIfInBounds_toArray, List.set_cons_zero, List.set_cons_succ]
              refine wpAnyH_ready (rs := [2]) (by kernel_rfl) (by simp) ?_
              refine AllReadyH.cons rfl (fun K hK => ?_) AllReadyH.nil
              try simp only [List.getElem_toArray, List.getElem_cons_succ, List.getElem_cons_zero]
              go_simp
              refine hK.out _ _ ?_ (fun hHeld => ?_)
              · exact ⟨(World.cell?_alloc_lt _ _ _ (by show w.heap.size < (w1.drew.alloc (.cells #[.int .i64 0, .slice none 0 0] 28)).heap.size; simp; omega)).trans hHeld.1, (World.cell?_alloc_lt _ _ _ (by show w.heap.size < (w1.drew.alloc (.cells #[.int .i64 0, .slice none 0 0] 28)).heap.size; simp; omega)).trans hHeld.2⟩
              clear hK K
              try simp only [Act.put, List.getElem_toArray, List.getElem_cons_succ, List.getElem_cons_zero, List.setIfInBounds_toArray, List.set_cons_zero, List.set_cons_succ]
              refine wpAnyH_ready (rs := [5]) (by kernel_rfl) (by simp) ?_
              refine AllReadyH.cons rfl (fun K hK => ?_) AllReadyH.nil
              refine step_append_copy (by rfl) _ _ _ (by rfl) (w1.heap.size + 1) 39 i0 _ 3 24 Try.underlying26 hi0 hz0 hz1' hz2 rfl (by omega) (.slice (some ⟨w1.heap.size + 1, 0, none⟩) 0 0) (by rfl) (by have h9 := World.ownsRow_made (base := w1.heap.size + 1) (size := 3) (e := 39) (w1.drew.alloc (.cells #[.int .i64 0, .slice none 0 0] 28)) #[] 0 (by simp) (by unfold maxLen; omega) rfl; rw [show (w1.drew.alloc (.cells #[.int .i64 0, .slice none 0 0] 28)).heap.size = w1.heap.size + 1 from by simp] at h9; exact h9) ⟨ob, oo, none⟩ ws.length cap (wyCells ws) (by rfl) (by rw [wyCells_len]) (RW.news (B := ((w1.drew.alloc (.cells #[.int .i64 0, .slice none 0 0] 28)).alloc (.cells #[] 39)).heap.size) (HR.out.later (by have := HB1.out; go_grown))) (wyCells_one _) (by unfold maxLen; omega) (by omega) (by simp; try omega) _ rfl ?_; intro A1 c1 w3 hown3 hg3 hat3
              have hb3 : Below w1.heap.size w1 w3 := below_app (H := w1.heap.size + 1) (by go_grown) hg3 (by omega)
              have hbox : w3.heap[w1.heap.size]? = some (.cells #[.int .i64 0, .slice none 0 0] 28 (0, 0)) := by
                rw [hg3.block _ (by simp; try omega) (by intro e; injection e with e; dsimp only at e; omega)]
                exact (Below.heap_alloc _ _ _ (by simp)).trans (heap_alloc_new w1.drew _)
              have s0 : w3.cell? ⟨w1.heap.size, 0, none⟩ = some (.int .i64 0) := cell_of_row _ _ 0 _ _ (0, 0) hbox
              have s1 : w3.cell? ⟨w1.heap.size, 1, none⟩ = some (.slice none 0 0) := cell_of_row _ _ 1 _ _ (0, 0) hbox
              have s2 : w3.frozen? ⟨w1.heap.size, 0, none⟩ = false := by simp [World.frozen?, hbox]
              have s3 : w3.frozen? ⟨w1.heap.size, 1, none⟩ = false := by simp [World.frozen?, hbox]
              have TB := Lib.hid (two_cells (v0 := .int .i64 n) (v1 := .slice A1 ws.length c1) hbox)
              refine hK.out _ _ ?_ (fun hHeld => ?_)
              · exact keep2 hb3 ⟨k10, k11⟩ (by omega)
              clear hK K
              try simp only [Act.put, List.getElem_toArray, List.getElem_cons_succ, List.getElem_cons_zero, List.setIfInBounds_toArray, List.set_cons_zero, List.set_cons_succ]
              refine wpAnyH_take (i := 6) (v := ?_) rfl (by kernel_rfl) (by kernel_rfl) (by kernel_rfl) (fun _ _ _ h => h) (Or.inl ⟨by rfl, ?_⟩) (by assumption) ?_
              rotate_left
              · (intro w hSw; (try dsimp only at hSw); (try simp only [List.getElem_toArray, List.getElem_cons_succ, List.getElem_cons_zero]); first | (go_simp; done) | (go_simp; with_reducible rfl))
              try simp only [Act.put, List.getElem_toArray, List.getElem_cons_succ, List.getElem_cons_zero, List.setIfInBounds_toArray, List.set_cons_zero, List.set_cons_succ]
              refine wpAnyH_ready (rs := [8]) (by kernel_rfl) (by simp) ?_
              refine AllReadyH.cons rfl (fun K hK => ?_) AllReadyH.nil
              try simp only [List.getElem_toArray, List.getElem_cons_succ, List.getElem_cons_zero]
              go_simp
              obtain ⟨g, hA1, hgb0, cur, hcur, htake⟩ := own_at hown3 (by omega) rfl
              subst hA1
              have hgs : g < w3.heap.size := (Array.getElem?_eq_some_iff.1 hcur).1
              have hbs : w1.heap.size < w3.heap.size := (Array.getElem?_eq_some_iff.1 hbox).1
              have hgne : g ≠ w1.heap.size := by
                intro e; rw [e, hbox] at hcur; injection hcur with hcur; injection hcur with _ hcur; exact absurd hcur (by decide)
              have hD : DnSt w1 ((w3.setCell ⟨w1.heap.size, 0, none⟩ (.int .i64 n)).setCell ⟨w1.heap.size, 1, none⟩ (.slice (some ⟨g, 0, none⟩) ws.length c1)) 39 n (w1.heap.size) g c1 ws := ⟨(hb3.setCell (p := ⟨w1.heap.size, 0, none⟩) (by simp) _).setCell (p := ⟨w1.heap.size, 1, none⟩) (by simp) _, by omega, by simpa [World.setCell] using hbs, by omega, hgne, TB.out.1, TB.out.2, cur, ((Below.heap_setCell _ _ _ _ hgne).trans (Below.heap_setCell _ _ _ _ hgne)).trans hcur, htake⟩
              clear s0 s1 s2 s3 TB hbox
              obtain ⟨bx, hbx⟩ : ∃ bx, w1.heap.size = bx := ⟨_, rfl⟩
              rw [hbx] at hD ⊢
              refine hK.out _ _ ?_ (fun hHeld => ?_)
              · exact ⟨hD.low.cell (p := ⟨w.heap.size, 0, none⟩) (by show w.heap.size < w1.heap.size; omega) |>.trans k10, hD.low.cell (p := ⟨w.heap.size, 1, none⟩) (by show w.heap.size < w1.heap.size; omega) |>.trans k11⟩
              clear hK K
              try simp only [Act.put, List.getElem_toArray, List.getElem_cons_succ, List.getElem_cons_zero, List.setIfInBounds_toArray, List.set_cons_zero, List.set_cons_succ]
              refine wpAnyH_done (by kernel_rfl) ?_ _
              have HD := Lib.hid hD
              have hgb := hD.gl
              have hbb := hD.bl
              have hne := hD.ne
              have hlw := hD.low
              have d0 := hD.c0
              have d1 := hD.c1'
              have hRF := hD.rowF
              obtain ⟨_, _, e9, -, -, p0, f0⟩ := hRF.at_ (kk * 3) (by omega)
              injection e9 with e9; injection e9 with e91 e92; subst e91; subst e92
              obtain ⟨_, _, e9, -, -, p1, f1⟩ := hRF.at_ (kk * 3 + 1) (by omega)
              injection e9 with e9; injection e9 with e91 e92; subst e91; subst e92
              obtain ⟨_, _, e9, -, -, p2, f2⟩ := hRF.at_ (kk * 3 + 2) (by omega)
              injection e9 with e9; injection e9 with e91 e92; subst e91; subst e92
              rw [Nat.zero_add] at p0 f0 p1 f1 p2 f2
              obtain ⟨m0, m1⟩ := keep2 hlw ⟨k10, k11⟩ (by omega)
              have x0 := (hlw.cell (p := ⟨ob, oo + kk * 3, none⟩) hob).trans e0
              have x1 := (hlw.cell (p := ⟨ob, oo + kk * 3 + 1, none⟩) hob).trans e1
              have x2 := (hlw.cell (p := ⟨ob, oo + kk * 3 + 2, none⟩) hob).trans e2
              obtain ⟨W, hW⟩ : ∃ W, (w3.setCell ⟨bx, 0, none⟩ (.int .i64 n)).setCell ⟨bx, 1, none⟩ (.slice (some ⟨g, 0, none⟩) ws.length c1) = W := ⟨_, rfl⟩
              rw [hW] at HD hD hlw d0 d1 p0 p1 p2 f0 f1 f2 m0 m1 x0 x1 x2 ⊢
              have hresW : W.heap[w.heap.size + 1]? = some (.cells #[.int .i64 0, .slice none 0 0] 28 (0, 0)) := by rw [hlw.block _ hz1]; exact HRES.out
              clear hRF hW hb3 hown3 hg3 hat3
              have hws := HWS.out
              have hws2 := HWS2.out
              skip
              go_wp2_with fail
              refine AnyZ.region (S := (fun w' => (w'.cell? ⟨bx, 0, none⟩ = some (.int .i64 n) ∧ w'.cell? ⟨bx, 1, none⟩ = some (.slice (some ⟨g, 0, none⟩) ws.length c1)) ∧ (w'.cell? ⟨w.heap.size, 0, none⟩ = some (.int .i64 n) ∧ w'.cell? ⟨w.heap.size, 1, none⟩ = some (.slice (some ⟨ob, oo, none⟩) ws.length cap)) ∧ w'.cell? ⟨ob, oo + kk * 3, none⟩ = some (.int .i64 x.a) ∧ w'.cell? ⟨ob, oo + kk * 3 + 1, none⟩ = some (.int .i64 x.b) ∧ w'.cell? ⟨ob, oo + kk * 3 + 2, none⟩ = some (.int .i64 x.c))) (z := 25) (by kernel_rfl) ?_ (fun hHeld => ?_)
              · exact ⟨⟨d0, d1⟩, ⟨m0, m1⟩, x0, x1, x2⟩
              refine AnyZ.take (i := 0) (oi := ⟨_, _, _, _, _, _⟩) (v := ?_) rfl (by kernel_rfl) (by kernel_rfl) (by kernel_rfl) (by kernel_rfl) (fun _ _ _ h => h) (Or.inl ⟨by rfl, ?_⟩) (by assumption) ?_
              rotate_left
              · (intro w hSw; (try dsimp only at hSw); (try simp only [List.getElem_toArray, List.getElem_cons_succ, List.getElem_cons_zero]); first | (go_simp; done) | (go_simp; with_reducible rfl))
              try simp only [Act.put, List.getElem_toArray, List.getElem_cons_succ, List.getElem_cons_zero, List.setIfInBounds_toArray, List.set_cons_zero, List.set_cons_succ]
              refine AnyZ.take (i := 1) (oi := ⟨_, _, _, _, _, _⟩) (v := ?_) rfl (by kernel_rfl) (by kernel_rfl) (by kernel_rfl) (by kernel_rfl) (fun _ _ _ h => h) (Or.inl ⟨by rfl, ?_⟩) (by assumption) ?_
              rotate_left
              · (intro w hSw; (try dsimp only at hSw); (try simp only [List.getElem_toArray, List.getElem_cons_succ, List.getElem_cons_zero]); first | (go_simp; done) | (go_simp; with_reducible rfl))
              try simp only [Act.put, List.getElem_toArray, List.getElem_cons_succ, List.getElem_cons_zero, List.setIfInBounds_toArray, List.set_cons_zero, List.set_cons_succ]
              refine AnyZ.take (i := 2) (oi := ⟨_, _, _, _, _, _⟩) (v := ?_) rfl (by kernel_rfl) (by kernel_rfl) (by kernel_rfl) (by kernel_rfl) (fun _ _ _ h => h) (Or.inl ⟨by rfl, ?_⟩) (by assumption) ?_
              rotate_left
              · (intro w hSw; (try dsimp only at hSw); (try simp only [List.getElem_toArray, List.getElem_cons_succ, List.getElem_cons_zero]); first | (go_simp; done) | (go_simp; with_reducible rfl))
              try simp only [Act.put, List.getElem_toArray, List.getElem_cons_succ, List.getElem_cons_zero, List.setIfInBounds_toArray, List.set_cons_zero, List.set_cons_succ]
              refine AnyZ.take (i := 3) (oi := ⟨_, _, _, _, _, _⟩) (v := ?_) rfl (by kernel_rfl) (by kernel_rfl) (by kernel_rfl) (by kernel_rfl) (fun _ _ _ h => h) (Or.inl ⟨by rfl, ?_⟩) (by assumption) ?_
              rotate_left
              · (intro w hSw; (try dsimp only at hSw); (try simp only [List.getElem_toArray, List.getElem_cons_succ, List.getElem_cons_zero]); first | (go_simp; done) | (go_simp; with_reducible rfl))
              try simp only [Act.put, List.getElem_toArray, List.getElem_cons_succ, List.getElem_cons_zero, List.setIfInBounds_toArray, List.set_cons_zero, List.set_cons_succ]
              refine AnyZ.take (i := 4) (oi := ⟨_, _, _, _, _, _⟩) (v := ?_) rfl (by kernel_rfl) (by kernel_rfl) (by kernel_rfl) (by kernel_rfl) (fun _ _ _ h => h) (Or.inl ⟨by rfl, ?_⟩) (by assumption) ?_
              rotate_left
              · (intro w hSw; (try dsimp only at hSw); (try simp only [List.getElem_toArray, List.getElem_cons_succ, List.getElem_cons_zero]); first | (go_simp; done) | (go_simp; with_reducible rfl))
              try simp only [Act.put, List.getElem_toArray, List.getElem_cons_succ, List.getElem_cons_zero, List.setIfInBounds_toArray, List.set_cons_zero, List.set_cons_succ]
              refine AnyZ.take (i := 5) (oi := ⟨_, _, _, _, _, _⟩) (v := ?_) rfl (by kernel_rfl) (by kernel_rfl) (by kernel_rfl) (by kernel_rfl) (fun _ _ _ h => h) (Or.inl ⟨by rfl, ?_⟩) (by assumption) ?_
              rotate_left
              · (intro w hSw; (try dsimp only at hSw); (try simp only [List.getElem_toArray, List.getElem_cons_succ, List.getElem_cons_zero]); first | (go_simp; done) | (go_simp; with_reducible rfl))
              try simp only [Act.put, List.getElem_toArray, List.getElem_cons_succ, List.getElem_cons_zero, List.setIfInBounds_toArray, List.set_cons_zero, List.set_cons_succ]
              refine AnyZ.take (i := 6) (oi := ⟨_, _, _, _, _, _⟩) (v := ?_) rfl (by kernel_rfl) (by kernel_rfl) (by kernel_rfl) (by kernel_rfl) (fun _ _ _ h => h) (Or.inl ⟨by rfl, ?_⟩) (by assumption) ?_
              rotate_left
              · (intro w hSw; (try dsimp only at hSw); (try simp only [List.getElem_toArray, List.getElem_cons_succ, List.getElem_cons_zero]); first | (go_simp; done) | (go_simp; with_reducible rfl))
              try simp only [Act.put, List.getElem_toArray, List.getElem_cons_succ, List.getElem_cons_zero, List.setIfInBounds_toArray, List.set_cons_zero, List.set_cons_succ]
              refine AnyZ.take (i := 7) (oi := ⟨_, _, _, _, _, _⟩) (v := ?_) rfl (by kernel_rfl) (by kernel_rfl) (by kernel_rfl) (by kernel_rfl) (fun _ _ _ h => h) (Or.inl ⟨by rfl, ?_⟩) (by assumption) ?_
              rotate_left
              · (intro w hSw; (try dsimp only at hSw); (try simp only [List.getElem_toArray, List.getElem_cons_succ, List.getElem_cons_zero]); first | (go_simp; done) | (go_simp; with_reducible rfl))
              try simp only [Act.put, List.getElem_toArray, List.getElem_cons_succ, List.getElem_cons_zero, List.setIfInBounds_toArray, List.set_cons_zero, List.set_cons_succ]
              refine AnyZ.take (i := 8) (oi := ⟨_, _, _, _, _, _⟩) (v := ?_) rfl (by kernel_rfl) (by kernel_rfl) (by kernel_rfl) (by kernel_rfl) (fun _ _ _ h => h) (Or.inl ⟨by rfl, ?_⟩) (by assumption) ?_
              rotate_left
              · (intro w hSw; (try dsimp only at hSw); (try simp only [List.getElem_toArray, List.getElem_cons_succ, List.getElem_cons_zero]); first | (go_simp; done) | (go_simp; with_reducible rfl))
              try simp only [Act.put, List.getElem_toArray, List.getElem_cons_succ, List.getElem_cons_zero, List.setIfInBounds_toArray, List.set_cons_zero, List.set_cons_succ]
              refine AnyZ.take (i := 9) (oi := ⟨_, _, _, _, _, _⟩) (v := ?_) rfl (by kernel_rfl) (by kernel_rfl) (by kernel_rfl) (by kernel_rfl) (fun _ _ _ h => h) (Or.inl ⟨by rfl, ?_⟩) (by assumption) ?_
              rotate_left
              · (intro w hSw; (try dsimp only at hSw); (try simp only [List.getElem_toArray, List.getElem_cons_succ, List.getElem_cons_zero]); first | (go_simp; done) | (go_simp; with_reducible rfl))
              try simp only [Act.put, List.getElem_toArray, List.getElem_cons_succ, List.getElem_cons_zero, List.setIfInBounds_toArray, List.set_cons_zero, List.set_cons_succ]
              refine AnyZ.take (i := 10) (oi := ⟨_, _, _, _, _, _⟩) (v := ?_) rfl (by kernel_rfl) (by kernel_rfl) (by kernel_rfl) (by kernel_rfl) (fun _ _ _ h => h) (Or.inl ⟨by rfl, ?_⟩) (by assumption) ?_
              rotate_left
              · (intro w hSw; (try dsimp only at hSw); (try simp only [List.getElem_toArray, List.getElem_cons_succ, List.getElem_cons_zero]); first | (go_simp; done) | (go_simp; with_reducible rfl))
              try simp only [Act.put, List.getElem_toArray, List.getElem_cons_succ, List.getElem_cons_zero, List.setIfInBounds_toArray, List.set_cons_zero, List.set_cons_succ]
              refine AnyZ.take (i := 11) (oi := ⟨_, _, _, _, _, _⟩) (v := ?_) rfl (by kernel_rfl) (by kernel_rfl) (by kernel_rfl) (by kernel_rfl) (fun _ _ _ h => h) (Or.inl ⟨by rfl, ?_⟩) (by assumption) ?_
              rotate_left
              · (intro w hSw; (try dsimp only at hSw); (try simp only [List.getElem_toArray, List.getElem_cons_succ, List.getElem_cons_zero]); first | (go_simp; done) | (go_simp; with_reducible rfl))
              try simp only [Act.put, List.getElem_toArray, List.getElem_cons_succ, List.getElem_cons_zero, List.setIfInBounds_toArray, List.set_cons_zero, List.set_cons_succ]
              refine AnyZ.take (i := 12) (oi := ⟨_, _, _, _, _, _⟩) (v := ?_) rfl (by kernel_rfl) (by kernel_rfl) (by kernel_rfl) (by kernel_rfl) (fun _ _ _ h => h) (Or.inl ⟨by rfl, ?_⟩) (by assumption) ?_
              rotate_left
              · (intro w hSw; (try dsimp only at hSw); (try simp only [List.getElem_toArray, List.getElem_cons_succ, List.getElem_cons_zero]); first | (go_simp; done) | (go_simp; with_reducible rfl))
              try simp only [Act.put, List.getElem_toArray, List.getElem_cons_succ, List.getElem_cons_zero, List.setIfInBounds_toArray, List.set_cons_zero, List.set_cons_succ]
              refine AnyZ.take (i := 13) (oi := ⟨_, _, _, _, _, _⟩) (v := ?_) rfl (by kernel_rfl) (by kernel_rfl) (by kernel_rfl) (by kernel_rfl) (fun _ _ _ h => h) (Or.inl ⟨by rfl, ?_⟩) (by assumption) ?_
              rotate_left
              · (intro w hSw; (try dsimp only at hSw); (try simp only [List.getElem_toArray, List.getElem_cons_succ, List.getElem_cons_zero]); first | (go_simp; done) | (go_simp; with_reducible rfl))
              try simp only [Act.put, List.getElem_toArray, List.getElem_cons_succ, List.getElem_cons_zero, List.setIfInBounds_toArray, List.set_cons_zero, List.set_cons_succ]
              refine AnyZ.take (i := 14) (oi := ⟨_, _, _, _, _, _⟩) (v := ?_) rfl (by kernel_rfl) (by kernel_rfl) (by kernel_rfl) (by kernel_rfl) (fun _ _ _ h => h) (Or.inl ⟨by rfl, ?_⟩) (by assumption) ?_
              rotate_left
              · (intro w hSw; (try dsimp only at hSw); (try simp only [List.getElem_toArray, List.getElem_cons_succ, List.getElem_cons_zero]); first | (go_simp; done) | (go_simp; with_reducible rfl))
              try simp only [Act.put, List.getElem_toArray, List.getElem_cons_succ, List.getElem_cons_zero, List.setIfInBounds_toArray, List.set_cons_zero, List.set_cons_succ]
              refine AnyZ.take (i := 15) (oi := ⟨_, _, _, _, _, _⟩) (v := ?_) rfl (by kernel_rfl) (by kernel_rfl) (by kernel_rfl) (by kernel_rfl) (fun _ _ _ h => h) (Or.inl ⟨by rfl, ?_⟩) (by assumption) ?_
              rotate_left
              · (intro w hSw; (try dsimp only at hSw); (try simp only [List.getElem_toArray, List.getElem_cons_succ, List.getElem_cons_zero]); first | (go_simp; done) | (go_simp; with_reducible rfl))
              try simp only [Act.put, List.getElem_toArray, List.getElem_cons_succ, List.getElem_cons_zero, List.setIfInBounds_toArray, List.set_cons_zero, List.set_cons_succ]
              refine AnyZ.take (i := 16) (oi := ⟨_, _, _, _, _, _⟩) (v := ?_) rfl (by kernel_rfl) (by kernel_rfl) (by kernel_rfl) (by kernel_rfl) (fun _ _ _ h => h) (Or.inl ⟨by rfl, ?_⟩) (by assumption) ?_
              rotate_left
              · (intro w hSw; (try dsimp only at hSw); (try simp only [List.getElem_toArray, List.getElem_cons_succ, List.getElem_cons_zero]); first | (go_simp; done) | (go_simp; with_reducible rfl))
              try simp only [Act.put, List.getElem_toArray, List.getElem_cons_succ, List.getElem_cons_zero, List.setIfInBounds_toArray, List.set_cons_zero, List.set_cons_succ]
              refine AnyZ.take (i := 17) (oi := ⟨_, _, _, _, _, _⟩) (v := ?_) rfl (by kernel_rfl) (by kernel_rfl) (by kernel_rfl) (by kernel_rfl) (fun _ _ _ h => h) (Or.inl ⟨by rfl, ?_⟩) (by assumption) ?_
              rotate_left
              · (intro w hSw; (try dsimp only at hSw); (try simp only [List.getElem_toArray, List.getElem_cons_succ, List.getElem_cons_zero]); first | (go_simp; done) | (go_simp; with_reducible rfl))
              try simp only [Act.put, List.getElem_toArray, List.getElem_cons_succ, List.getElem_cons_zero, List.setIfInBounds_toArray, List.set_cons_zero, List.set_cons_succ]
              refine AnyZ.take (i := 18) (oi := ⟨_, _, _, _, _, _⟩) (v := ?_) rfl (by kernel_rfl) (by kernel_rfl) (by kernel_rfl) (by kernel_rfl) (fun _ _ _ h => h) (Or.inl ⟨by rfl, ?_⟩) (by assumption) ?_
              rotate_left
              · (intro w hSw; (try dsimp only at hSw); (try simp only [List.getElem_toArray, List.getElem_cons_succ, List.getElem_cons_zero]); first | (go_simp; done) | (go_simp; with_reducible rfl))
              try simp only [Act.put, List.getElem_toArray, List.getElem_cons_succ, List.getElem_cons_zero, List.setIfInBounds_toArray, List.set_cons_zero, List.set_cons_succ]
              refine AnyZ.take (i := 19) (oi := ⟨_, _, _, _, _, _⟩) (v := ?_) rfl (by kernel_rfl) (by kernel_rfl) (by kernel_rfl) (by kernel_rfl) (fun _ _ _ h => h) (Or.inl ⟨by rfl, ?_⟩) (by assumption) ?_
              rotate_left
              · (intro w hSw; (try dsimp only at hSw); (try simp only [List.getElem_toArray, List.getElem_cons_succ, List.getElem_cons_zero]); first | (go_simp; done) | (go_simp; with_reducible rfl))
              try simp only [Act.put, List.getElem_toArray, List.getElem_cons_succ, List.getElem_cons_zero, List.setIfInBounds_toArray, List.set_cons_zero, List.set_cons_succ]
              refine AnyZ.take (i := 20) (oi := ⟨_, _, _, _, _, _⟩) (v := ?_) rfl (by kernel_rfl) (by kernel_rfl) (by kernel_rfl) (by kernel_rfl) (fun _ _ _ h => h) (Or.inl ⟨by rfl, ?_⟩) (by assumption) ?_
              rotate_left
              · (intro w hSw; (try dsimp only at hSw); (try simp only [List.getElem_toArray, List.getElem_cons_succ, List.getElem_cons_zero]); first | (go_simp; done) | (go_simp; with_reducible rfl))
              try simp only [Act.put, List.getElem_toArray, List.getElem_cons_succ, List.getElem_cons_zero, List.setIfInBounds_toArray, List.set_cons_zero, List.set_cons_succ]
              refine AnyZ.take (i := 21) (oi := ⟨_, _, _, _, _, _⟩) (v := ?_) rfl (by kernel_rfl) (by kernel_rfl) (by kernel_rfl) (by kernel_rfl) (fun _ _ _ h => h) (Or.inl ⟨by rfl, ?_⟩) (by assumption) ?_
              rotate_left
              · (intro w hSw; (try dsimp only at hSw); (try simp only [List.getElem_toArray, List.getElem_cons_succ, List.getElem_cons_zero]); first | (go_simp; done) | (go_simp; with_reducible rfl))
              try simp only [Act.put, List.getElem_toArray, List.getElem_cons_succ, List.getElem_cons_zero, List.setIfInBounds_toArray, List.set_cons_zero, List.set_cons_succ]
              refine AnyZ.take (i := 22) (oi := ⟨_, _, _, _, _, _⟩) (v := ?_) rfl (by kernel_rfl) (by kernel_rfl) (by kernel_rfl) (by kernel_rfl) (fun _ _ _ h => h) (Or.inl ⟨by rfl, ?_⟩) (by assumption) ?_
              rotate_left
              · (intro w hSw; (try dsimp only at hSw); (try simp only [List.getElem_toArray, List.getElem_cons_succ, List.getElem_cons_zero]); first | (go_simp; done) | (go_simp; with_reducible rfl))
              try simp only [Act.put, List.getElem_toArray, List.getElem_cons_succ, List.getElem_cons_zero, List.setIfInBounds_toArray, List.set_cons_zero, List.set_cons_succ]
              refine AnyZ.take (i := 23) (oi := ⟨_, _, _, _, _, _⟩) (v := ?_) rfl (by kernel_rfl) (by kernel_rfl) (by kernel_rfl) (by kernel_rfl) (fun _ _ _ h => h) (Or.inl ⟨by rfl, ?_⟩) (by assumption) ?_
              rotate_left
              · (intro w hSw; (try dsimp only at hSw); (try simp only [List.getElem_toArray, List.getElem_cons_succ, List.getElem_cons_zero]); first | (go_simp; done) | (go_simp; with_reducible rfl))
              try simp only [Act.put, List.getElem_toArray, List.getElem_cons_succ, List.getElem_cons_zero, List.setIfInBounds_toArray, List.set_cons_zero, List.set_cons_succ]
              refine AnyZ.take (i := 24) (oi := ⟨_, _, _, _, _, _⟩) (v := ?_) rfl (by kernel_rfl) (by kernel_rfl) (by kernel_rfl) (by kernel_rfl) (fun _ _ _ h => h) (Or.inl ⟨by rfl, ?_⟩) (by assumption) ?_
              rotate_left
              · (intro w hSw; (try dsimp only at hSw); (try simp only [List.getElem_toArray, List.getElem_cons_succ, List.getElem_cons_zero]); first | (go_simp; done) | (go_simp; with_reducible rfl))
              try simp only [Act.put, List.getElem_toArray, List.getElem_cons_succ, List.getElem_cons_zero, List.setIfInBounds_toArray, List.set_cons_zero, List.set_cons_succ]
              refine AnyZ.step (i := 25) (o := ⟨_, _, _, _, _, _⟩) (by kernel_rfl) rfl (fun K hK => ?_)
              go_simp
              refine hK.out _ _ (fun h => absurd rfl h) (fun _ => ?_)
              clear hK K
              try simp only [Act.put, List.getElem_toArray, List.getElem_cons_succ, List.getElem_cons_zero, List.setIfInBounds_toArray, List.set_cons_zero, List.set_cons_succ]
              refine AnyZ.done (by kernel_rfl) ?_ _
              have q40 := set3_keep (u0 := .int .i64 x.a) (u1 := .int .i64 x.b) (u2 := .int .i64 (x.c + b)) (o0 := kk * 3) (o1 := kk * 3 + 1) (o2 := kk * 3 + 2) (Ne.symm hne) d0
              have q41 := set3_keep (u0 := .int .i64 x.a) (u1 := .int .i64 x.b) (u2 := .int .i64 (x.c + b)) (o0 := kk * 3) (o1 := kk * 3 + 1) (o2 := kk * 3 + 2) (Ne.symm hne) d1
              have hr4 := (set3_block (W := W) (u0 := .int .i64 x.a) (u1 := .int .i64 x.b) (u2 := .int .i64 (x.c + b)) (o0 := kk * 3) (o1 := kk * 3 + 1) (o2 := kk * 3 + 2) (show w.heap.size + 1 ≠ g by omega)).trans hresW
              have HFIN := Lib.hid (fun v0 v1 => HD.out.fin HX.out b (r := w.heap.size + 1) (by omega) v0 v1)
              have HLOW : Hid (Below w.heap.size w (((W.setCell ⟨g, kk * 3, none⟩ (.int .i64 x.a)).setCell ⟨g, kk * 3 + 1, none⟩ (.int .i64 x.b)).setCell ⟨g, kk * 3 + 2, none⟩ (.int .i64 (x.c + b)))) := by
                have h9 : Below w.heap.size w W := bstep HB1.out HB1.out.size hlw
                exact ((h9.setCell (p := ⟨g, kk * 3, none⟩) (by simp; omega) _).setCell (p := ⟨g, kk * 3 + 1, none⟩) (by simp; omega) _).setCell (p := ⟨g, kk * 3 + 2, none⟩) (by simp; omega) _
              obtain ⟨V, hV⟩ : ∃ V, ((W.setCell ⟨g, kk * 3, none⟩ (.int .i64 x.a)).setCell ⟨g, kk * 3 + 1, none⟩ (.int .i64 x.b)).setCell ⟨g, kk * 3 + 2, none⟩ (.int .i64 (x.c + b)) = V := ⟨_, rfl⟩
              rw [hV] at q40 q41 hr4 HFIN HLOW ⊢
              have y0 : V.cell? ⟨w.heap.size + 1, 0, none⟩ = some (.int .i64 0) := cell_of_row _ _ 0 _ _ (0, 0) hr4
              have y1 : V.cell? ⟨w.heap.size + 1, 1, none⟩ = some (.slice none 0 0) := cell_of_row _ _ 1 _ _ (0, 0) hr4
              have z0 : V.frozen? ⟨w.heap.size + 1, 0, none⟩ = false := by simp [World.frozen?, hr4]
              have z1 : V.frozen? ⟨w.heap.size + 1, 1, none⟩ = false := by simp [World.frozen?, hr4]
              have T := Lib.hid (two_cells (v0 := .int .i64 n) (v1 := .slice (some ⟨g, 0, none⟩) ws.length c1) hr4)
              have HL2 := Lib.hid ((HLOW.out.setCell (p := ⟨w.heap.size + 1, 0, none⟩) (by simp) (.int .i64 n)).setCell (p := ⟨w.heap.size + 1, 1, none⟩) (by simp) (.slice (some ⟨g, 0, none⟩) ws.length c1))
              clear hV hr4 hresW p0 p1 p2 f0 f1 f2 d0 d1 m0 m1 x0 x1 x2
              go_wp2_with fail
              obtain ⟨t0, t1⟩ := T.out
              refine bodyPost_ret (v := .tuple #[.agg #[.int .i64 n, .slice (some ⟨g, 0, none⟩) ws.length c1], .bool true]) (by simp [results, Try.results5, go_sem, t0, t1]) rfl ?_
              refine ⟨some ⟨g, 0, none⟩, c1, g, g + 1, by rw [da_len], ⟨fun j hj => (HFIN.out _ _).at_ j hj, (HFIN.out _ _).top⟩, by omega, HL2.out.drew⟩
end Go.Proofs.Ytcfendmhhhggeaa
