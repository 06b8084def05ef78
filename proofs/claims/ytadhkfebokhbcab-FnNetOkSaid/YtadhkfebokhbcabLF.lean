/- FnNetOk: its walk. -/
import Derived.Test.YtadhkfebokhbcabLO
import Derived.Test.YtadhkfebokhbcabWH
import Derived.Test.YtadhkfebokhbcabOrd
import Derived.Deep.DrawnRows
set_option linter.unusedSimpArgs false
set_option linter.unusedVariables false
attribute [local go_sem ↓] Go.wp_at_zero Go.wp_at_succ
namespace Go.Proofs.Ytadhkfebokhbcab
open Go.ChangeShapes Go.WideShapes Go.ChangeAt Go.RowKit

def flip (x : Wy) : Wy := ⟨x.b, x.a, x.c⟩
theorem wayOk_flip (n : Int) (x : Wy) : wayOk n (flip x) = wayOk n x := by
  rw [Bool.eq_iff_iff, wayOk_iff, wayOk_iff]
  simp only [flip]
  constructor <;> rintro ⟨h1, h2, h3, h4, h5, h6⟩ <;> exact ⟨h3, h4, h1, h2, fun e => h5 e.symm, h6⟩
theorem netOk_flip (n : Int) (ws : List Wy) : netOk n (ws.map flip) = netOk n ws := by
  unfold netOk
  rw [List.length_map, List.all_map]
  congr 2
  funext x
  exact wayOk_flip n x

/-- a net is built in the box B: its ways lie in memory from B + 1 on -/
structure BoxSt (w0 w : World) (B : Nat) (tn tw : TypeId) (nn : Int) (v : Value) (ws : List Wy) : Prop where
  low : Below B w0 w
  blk : w.heap[B]? = some (.cells #[.int .i64 nn, v] tn (0, 0))
  own : w.ownsRow (B + 1) tw 3 v ws.length (wyCells ws)
section
variable {w0 w : World} {B : Nat} {tn tw : TypeId} {nn : Int} {v : Value} {ws : List Wy}
theorem BoxSt.lt (h : BoxSt w0 w B tn tw nn v ws) : B < w.heap.size := (Array.getElem?_eq_some_iff.1 h.blk).1
theorem BoxSt.cells (h : BoxSt w0 w B tn tw nn v ws) : w.cell? ⟨B, 0, none⟩ = some (.int .i64 nn) ∧ w.cell? ⟨B, 1, none⟩ = some v ∧ w.frozen? ⟨B, 1, none⟩ = false :=
  ⟨cell_of_row _ _ 0 _ _ (0, 0) h.blk, cell_of_row _ _ 1 _ _ (0, 0) h.blk, by simp [World.frozen?, h.blk]⟩
theorem BoxSt.drew (h : BoxSt w0 w B tn tw nn v ws) : BoxSt w0 w.drew B tn tw nn v ws := ⟨h.low.drew, h.blk, h.own⟩
theorem BoxSt.app_low (h : BoxSt w0 w B tn tw nn v ws) {o : Obj} {w3 : World} (hg : (w.alloc o).grownBy w3 v.ownBlock) : ∀ k, k ≤ B → w3.heap[k]? = w.heap[k]? := fun k hk => by
  have := h.lt
  rw [hg.block k (by simp; omega) (fun e => by have := (h.own.lt k e.symm).1; omega)]
  exact Below.heap_alloc _ _ _ (by omega)
theorem BoxSt.app_cells (h : BoxSt w0 w B tn tw nn v ws) {o : Obj} {w3 : World} (hg : (w.alloc o).grownBy w3 v.ownBlock) : w3.cell? ⟨B, 1, none⟩ = some v ∧ w3.frozen? ⟨B, 1, none⟩ = false :=
  ⟨(World.cell?_of_block (w := w) (h.app_low hg B (Nat.le_refl _))).trans h.cells.2.1, (World.frozen?_of_block (w := w) (h.app_low hg B (Nat.le_refl _))).trans h.cells.2.2⟩
theorem BoxSt.append (h : BoxSt w0 w B tn tw nn v ws) (x : Wy) {w3 : World} {o : Obj} {gg c : Nat}
    (hown : w3.ownsRow (B + 1) tw 3 (.slice (some ⟨gg, 0, none⟩) (ws.length + 1) c) (ws.length + 1) (wyCells ws ++ [.int .i64 x.a, .int .i64 x.b, .int .i64 x.c])) (hg : (w.alloc o).grownBy w3 v.ownBlock) :
    BoxSt w0 (w3.setCell ⟨B, 1, none⟩ (.slice (some ⟨gg, 0, none⟩) (ws.length + 1) c)) B tn tw nn (.slice (some ⟨gg, 0, none⟩) (ws.length + 1) c) (ws ++ [x]) := by
  have hlt := h.lt
  have hl := h.app_low hg
  refine ⟨⟨hg.os.trans h.low.os, hg.tape.trans h.low.tape, hg.output.trans h.low.output, ?_, fun k hk => ?_⟩, ?_, ?_⟩
  · have := hg.size; have := h.low.size; simp [World.setCell] at *; omega
  · rw [Below.heap_setCell _ _ _ _ (by simp; omega), hl k (by omega)]; exact h.low.block k hk
  · have := (hl B (Nat.le_refl _)).trans h.blk
    simp [World.setCell, Array.getElem?_modify, this]
  · have := ownsRow_setCell_below hown (a := ⟨B, 1, none⟩) (by simp) (.slice (some ⟨gg, 0, none⟩) (ws.length + 1) c)
    simpa [wyCells_snoc] using this
theorem BoxSt.form (h : BoxSt w0 w B tn tw nn v ws) : ∃ A1 c1, v = .slice A1 ws.length c1 := by
  rcases h.own.2 with ⟨hv, h0⟩ | ⟨g', c, cur, hv, _⟩
  · exact ⟨none, 0, by rw [hv, h0]⟩
  · exact ⟨_, c, hv⟩
theorem BoxSt.rw {A1 : Option Addr} {l1 c1 : Nat} (h : BoxSt w0 w B tn tw nn (.slice A1 l1 c1) ws) : RW w w.heap.size A1 ws := by
  intro i x hx
  have hl := (List.getElem?_eq_some_iff.1 hx).1
  obtain ⟨g', c', hv, hb, hlt⟩ := h.own.form (by omega)
  injection hv with hv1 hv2 hv3
  obtain ⟨e0, e1, e2⟩ := wyCells_get ws i x hx
  have hc := h.own.cells (g := g') (by rw [hv1]; rfl)
  have a0 := hc _ _ e0
  have a1 := hc _ _ e1
  have a2 := hc _ _ e2
  have add0 : ∀ n, (⟨g', 0, none⟩ : Addr).add n = ⟨g', n, none⟩ := fun n => by unfold Addr.add; split <;> simp_all
  rw [add0] at a0 a1 a2
  exact ⟨g', 0, hv1, hlt, by simpa using a0, by simpa using a1, by simpa using a2⟩
end

set_option maxHeartbeats 1000000 in
theorem FnNetOk_walk (A : Option Addr) (len cap : Nat) (w : World) (hr : RB w w.heap.size A len) (hc : len ≤ cap) (hlen : len ≤ 9223372036854775807) :
    Calls Try.prog 5 #[.slice A len cap] w fun e w' => e = .returned (.bool true) ∧ Below w.heap.size w w' := by
  have HR := Lib.hid hr
  clear hr
  by_cases hm : 1048576 < len
  · go_enter Try.func5, Try.ntmps5
    go_wp2_with fail
    go_ret
    exact ⟨rfl, Below.refl _ _⟩
  · obtain ⟨i0, hi0, hz0, hz1', hz2⟩ := info_parts infoWy
    go_enter Try.func5, Try.ntmps5
    go_wp2_with fail
    refine (DrawNetOk_any A len cap _ HR.out hc (by omega)).mono ?_
    rintro e wd ⟨nn, A', c', ws, rfl, hrw, hl10, hcc, hn0, hn7, hbd⟩
    have HRW := Lib.hid hrw
    have HBD := Lib.hid hbd
    have hzd : w.heap.size ≤ wd.heap.size := hbd.size
    clear hrw hbd
    go_wp2_with fail
    refine (NetOk_any _ _ _ _ _ (HRW.out.later (by go_grown))).mono ?_; rintro e w1 ⟨rfl, hb1⟩
    obtain ⟨hc1, hf1⟩ := bcell hb1
    have hz1_0 : wd.heap.size < w1.heap.size := by have hq := hb1.size; (try simp at hq); omega
    have HK1 := Lib.hid hb1
    have HB1 := Lib.hid (bstep (B := wd.heap.size) (W := wd) (by (try have hp := HB0.out); go_grown) (by go_size) hb1); clear hb1
    go_wp2_with fail
    refine (sNetOk_any _ _ _ _ _ (HRW.out.later (by have := HB1.out; go_grown)) (by omega)).mono ?_; rintro e w2 ⟨rfl, hb2⟩
    obtain ⟨hc2, hf2⟩ := bcell hb2
    have hz2_0 : wd.heap.size < w2.heap.size := by have hq := hb2.size; (try simp at hq); omega
    have HK2 := Lib.hid hb2
    have HB2 := Lib.hid (bstep (B := wd.heap.size) (W := wd) (by have hp := HB1.out; go_grown) (by go_size) hb2); clear hb2
    have k2 : w2.cell? ⟨wd.heap.size, 0, none⟩ = some (.int .i64 nn) ∧ w2.cell? ⟨wd.heap.size, 1, none⟩ = some (.slice A' ws.length c') := ⟨by go_simp, by go_simp⟩
    have HRW2 := Lib.hid (HRW.out.later HB2.out)
    have hst0 : BoxSt w2 (w2.alloc (.cells #[.int .i64 nn, .slice none 0 0] 25)) w2.heap.size 25 31 nn (.slice none 0 0) [] :=
      ⟨(Below.refl _ _).alloc (Nat.le_refl _) _, heap_alloc_new _ _, World.ownsRow_nil _ _ _ _⟩
    have ST0 := Lib.hid hst0
    obtain ⟨d0, d1⟩ := k2
    clear hc1 hf1 hc2 hf2 hst0
    go_wp2_with fail
    go_loopw [6] (fun i wr => ∃ (k : Nat) (v : Value), k ≤ ws.length ∧ i = .int .i64 k ∧ BoxSt w2 wr w2.heap.size 25 31 nn v ((ws.take k).map flip)) (fun i _ => ws.length - (intOf i).toNat)
    case atStart => exact ⟨0, _, Nat.zero_le _, rfl, ST0.out⟩
    case round =>
      obtain ⟨k, v, hk, rfl, hst⟩ := hrel
      obtain ⟨b0, b1, bf⟩ := hst.cells
      have hlow := hst.low
      have c0 : wr.cell? ⟨wd.heap.size, 0, none⟩ = some (.int .i64 nn) := (hlow.cell (p := ⟨wd.heap.size, 0, none⟩) hz2_0).trans d0
      have c1 : wr.cell? ⟨wd.heap.size, 1, none⟩ = some (.slice A' ws.length c') := (hlow.cell (p := ⟨wd.heap.size, 1, none⟩) hz2_0).trans d1
      have ST := Lib.hid hst
      have hlt0 := hst.lt
      by_cases hlt : k < ws.length
      · obtain ⟨x, hx⟩ : ∃ x, ws[k]? = some x := ⟨_, List.getElem?_eq_getElem hlt⟩
        obtain ⟨b, o, rfl, hB, e0, e1, e2⟩ := HRW2.out.below hlow k x hx
        have HX := Lib.hid hx
        have hlen : ((ws.take k).map flip).length = k := by simp; omega
        have HL := Lib.hid hlen
        have hk0 : (0 : Int) ≤ (k : Int) := by omega
        have hk1 : (k : Int) < (ws.length : Int) := by omega
        have hq0 : wd.heap.size < wr.drew.heap.size := by have := hst.lt; simp; omega
        have hq1 : b < wr.drew.heap.size := by have := hst.lt; simp; omega
        clear hx hlow hst hlen
        go_wp2_with fail
        refine AnyZ.region (S := (fun w' => w'.cell? ⟨wd.heap.size, 1, none⟩ = some (.slice (some ⟨b, o, none⟩) ws.length c') ∧ w'.cell? ⟨w2.heap.size, 1, none⟩ = some v ∧ w'.cell? ⟨b, o + k * 3, none⟩ = some (.int .i64 x.a) ∧ w'.cell? ⟨b, o + k * 3 + 1, none⟩ = some (.int .i64 x.b) ∧ w'.cell? ⟨b, o + k * 3 + 2, none⟩ = some (.int .i64 x.c))) (z := 24) (by kernel_rfl) ?_ (fun hHeld => ?_)
        · exact ⟨c1, b1, e0, e1, e2⟩
        refine AnyZ.take (i := 0) (oi := ⟨_, _, _, _, _, _⟩) (v := ?_) rfl (by kernel_rfl) (by kernel_rfl) (by kernel_rfl) (by kernel_rfl) (fun _ _ _ h => h) (Or.inl ⟨by rfl, ?_⟩) (by assumption) ?_
        rotate_left
        · (intro w hSw; (try dsimp only at hSw); (try simp only [List.getElem_toArray, List.getElem_cons_succ, List.getElem_cons_zero]); first | (go_simp; done) | (go_simp; with_reducible rfl))
        try simp only [Act.put, List.getElem_toArray, List.getElem_cons_succ, List.getElem_cons_zero, List.setIfInBounds_toArray, List.set_cons_zero, List.set_cons_succ]
        refine AnyZ.take (i := 1) (oi := ⟨_, _, _, _, _, _⟩) (v := ?_) rfl (by kernel_rfl) (by kernel_rfl) (by kernel_rfl) (by kernel_rfl) (fun _ _ _ h => h) (Or.inl ⟨by rfl, ?_⟩) (by assumption) ?_
        rotate_left
        · (intro w hSw; (try dsimp only at hSw); (try simp only [List.getElem_toArray, List.getElem_cons_succ, List.getElem_cons_zero]); first | (go_simp; done) | (go_simp; with_reducible rfl))
        try simp only [Act.put, List.getElem_toArray, List.getElem_cons_succ, List.getElem_cons_zero, List.setIfInBounds_toArray, List.set_cons_zero, List.set_cons_succ]
        refine AnyZ.take (i := 2) (oi := ⟨_, _, _, _, _, _⟩) (v := ?_) rfl (by kernel_rfl) (by kernel_rfl) (by kernel_rfl) (by kernel_rfl) (fun _ _ _ h => h) (Or.inl ⟨by rfl, ?_⟩) (by assumption) ?_
        rotate_left
        · (intro w hSw; (try dsimp only at hSw); (try simp only [List.getElem_toArray, List.getElem_cons_succ, List.getElem_cons_zero]); first | (go_simp; done) | (go_simp; with_reducible rfl))
        try simp only [Act.put, List.getElem_toArray, List.getElem_cons_succ, List.getElem_cons_zero, List.setIfInBounds_toArray, List.set_cons_zero, List.set_cons_succ]
        refine AnyZ.take (i := 3) (oi := ⟨_, _, _, _, _, _⟩) (v := ?_) rfl (by kernel_rfl) (by kernel_rfl) (by kernel_rfl) (by kernel_rfl) (fun _ _ _ h => h) (Or.inl ⟨by rfl, ?_⟩) (by assumption) ?_
        rotate_left
        · (intro w hSw; (try dsimp only at hSw); (try simp only [List.getElem_toArray, List.getElem_cons_succ, List.getElem_cons_zero]); first | (go_simp; done) | (go_simp; with_reducible rfl))
        try simp only [Act.put, List.getElem_toArray, List.getElem_cons_succ, List.getElem_cons_zero, List.setIfInBounds_toArray, List.set_cons_zero, List.set_cons_succ]
        refine AnyZ.take (i := 4) (oi := ⟨_, _, _, _, _, _⟩) (v := ?_) rfl (by kernel_rfl) (by kernel_rfl) (by kernel_rfl) (by kernel_rfl) (fun _ _ _ h => h) (Or.inl ⟨by rfl, ?_⟩) (by assumption) ?_
        rotate_left
        · (intro w hSw; (try dsimp only at hSw); (try simp only [List.getElem_toArray, List.getElem_cons_succ, List.getElem_cons_zero]); first | (go_simp; done) | (go_simp; with_reducible rfl))
        try simp only [Act.put, List.getElem_toArray, List.getElem_cons_succ, List.getElem_cons_zero, List.setIfInBounds_toArray, List.set_cons_zero, List.set_cons_succ]
        refine AnyZ.take (i := 5) (oi := ⟨_, _, _, _, _, _⟩) (v := ?_) rfl (by kernel_rfl) (by kernel_rfl) (by kernel_rfl) (by kernel_rfl) (fun _ _ _ h => h) (Or.inl ⟨by rfl, ?_⟩) (by assumption) ?_
        rotate_left
        · (intro w hSw; (try dsimp only at hSw); (try simp only [List.getElem_toArray, List.getElem_cons_succ, List.getElem_cons_zero]); first | (go_simp; done) | (go_simp; with_reducible rfl))
        try simp only [Act.put, List.getElem_toArray, List.getElem_cons_succ, List.getElem_cons_zero, List.setIfInBounds_toArray, List.set_cons_zero, List.set_cons_succ]
        refine AnyZ.take (i := 6) (oi := ⟨_, _, _, _, _, _⟩) (v := ?_) rfl (by kernel_rfl) (by kernel_rfl) (by kernel_rfl) (by kernel_rfl) (fun _ _ _ h => h) (Or.inl ⟨by rfl, ?_⟩) (by assumption) ?_
        rotate_left
        · (intro w hSw; (try dsimp only at hSw); (try simp only [List.getElem_toArray, List.getElem_cons_succ, List.getElem_cons_zero]); first | (go_simp; done) | (go_simp; with_reducible rfl))
        try simp only [Act.put, List.getElem_toArray, List.getElem_cons_succ, List.getElem_cons_zero, List.setIfInBounds_toArray, List.set_cons_zero, List.set_cons_succ]
        refine AnyZ.take (i := 7) (oi := ⟨_, _, _, _, _, _⟩) (v := ?_) rfl (by kernel_rfl) (by kernel_rfl) (by kernel_rfl) (by kernel_rfl) (fun _ _ _ h => h) (Or.inl ⟨by rfl, ?_⟩) (by assumption) ?_
        rotate_left
        · (intro w hSw; (try dsimp only at hSw); (try simp only [List.getElem_toArray, List.getElem_cons_succ, List.getElem_cons_zero]); first | (go_simp; done) | (go_simp; with_reducible rfl))
        try simp only [Act.put, List.getElem_toArray, List.getElem_cons_succ, List.getElem_cons_zero, List.setIfInBounds_toArray, List.set_cons_zero, List.set_cons_succ]
        refine AnyZ.take (i := 8) (oi := ⟨_, _, _, _, _, _⟩) (v := ?_) rfl (by kernel_rfl) (by kernel_rfl) (by kernel_rfl) (by kernel_rfl) (fun _ _ _ h => h) (Or.inl ⟨by rfl, ?_⟩) (by assumption) ?_
        rotate_left
        · (intro w hSw; (try dsimp only at hSw); (try simp only [List.getElem_toArray, List.getElem_cons_succ, List.getElem_cons_zero]); first | (go_simp; done) | (go_simp; with_reducible rfl))
        try simp only [Act.put, List.getElem_toArray, List.getElem_cons_succ, List.getElem_cons_zero, List.setIfInBounds_toArray, List.set_cons_zero, List.set_cons_succ]
        refine AnyZ.take (i := 9) (oi := ⟨_, _, _, _, _, _⟩) (v := ?_) rfl (by kernel_rfl) (by kernel_rfl) (by kernel_rfl) (by kernel_rfl) (fun _ _ _ h => h) (Or.inl ⟨by rfl, ?_⟩) (by assumption) ?_
        rotate_left
        · (intro w hSw; (try dsimp only at hSw); (try simp only [List.getElem_toArray, List.getElem_cons_succ, List.getElem_cons_zero]); first | (go_simp; done) | (go_simp; with_reducible rfl))
        try simp only [Act.put, List.getElem_toArray, List.getElem_cons_succ, List.getElem_cons_zero, List.setIfInBounds_toArray, List.set_cons_zero, List.set_cons_succ]
        refine AnyZ.take (i := 10) (oi := ⟨_, _, _, _, _, _⟩) (v := ?_) rfl (by kernel_rfl) (by kernel_rfl) (by kernel_rfl) (by kernel_rfl) (fun _ _ _ h => h) (Or.inl ⟨by rfl, ?_⟩) (by assumption) ?_
        rotate_left
        · (intro w hSw; (try dsimp only at hSw); (try simp only [List.getElem_toArray, List.getElem_cons_succ, List.getElem_cons_zero]); first | (go_simp; done) | (go_simp; with_reducible rfl))
        try simp only [Act.put, List.getElem_toArray, List.getElem_cons_succ, List.getElem_cons_zero, List.setIfInBounds_toArray, List.set_cons_zero, List.set_cons_succ]
        refine AnyZ.take (i := 11) (oi := ⟨_, _, _, _, _, _⟩) (v := ?_) rfl (by kernel_rfl) (by kernel_rfl) (by kernel_rfl) (by kernel_rfl) (fun _ _ _ h => h) (Or.inl ⟨by rfl, ?_⟩) (by assumption) ?_
        rotate_left
        · (intro w hSw; (try dsimp only at hSw); (try simp only [List.getElem_toArray, List.getElem_cons_succ, List.getElem_cons_zero]); first | (go_simp; done) | (go_simp; with_reducible rfl))
        try simp only [Act.put, List.getElem_toArray, List.getElem_cons_succ, List.getElem_cons_zero, List.setIfInBounds_toArray, List.set_cons_zero, List.set_cons_succ]
        refine AnyZ.take (i := 12) (oi := ⟨_, _, _, _, _, _⟩) (v := ?_) rfl (by kernel_rfl) (by kernel_rfl) (by kernel_rfl) (by kernel_rfl) (fun _ _ _ h => h) (Or.inl ⟨by rfl, ?_⟩) (by assumption) ?_
        rotate_left
        · (intro w hSw; (try dsimp only at hSw); (try simp only [List.getElem_toArray, List.getElem_cons_succ, List.getElem_cons_zero]); first | (go_simp; done) | (go_simp; with_reducible rfl))
        try simp only [Act.put, List.getElem_toArray, List.getElem_cons_succ, List.getElem_cons_zero, List.setIfInBounds_toArray, List.set_cons_zero, List.set_cons_succ]
        refine AnyZ.take (i := 13) (oi := ⟨_, _, _, _, _, _⟩) (v := ?_) rfl (by kernel_rfl) (by kernel_rfl) (by kernel_rfl) (by kernel_rfl) (fun _ _ _ h => h) (Or.inl ⟨by rfl, ?_⟩) (by assumption) ?_
        rotate_left
        · (intro w hSw; (try dsimp only at hSw); (try simp only [List.getElem_toArray, List.getElem_cons_succ, List.getElem_cons_zero]); first | (go_simp; done) | (go_simp; with_reducible rfl))
        try simp only [Act.put, List.getElem_toArray, List.getElem_cons_succ, List.getElem_cons_zero, List.setIfInBounds_toArray, List.set_cons_zero, List.set_cons_succ]
        refine AnyZ.take (i := 14) (oi := ⟨_, _, _, _, _, _⟩) (v := ?_) rfl (by kernel_rfl) (by kernel_rfl) (by kernel_rfl) (by kernel_rfl) (fun _ _ _ h => h) (Or.inl ⟨by rfl, ?_⟩) (by assumption) ?_
        rotate_left
        · (intro w hSw; (try dsimp only at hSw); (try simp only [List.getElem_toArray, List.getElem_cons_succ, List.getElem_cons_zero]); first | (go_simp; done) | (go_simp; with_reducible rfl))
        try simp only [Act.put, List.getElem_toArray, List.getElem_cons_succ, List.getElem_cons_zero, List.setIfInBounds_toArray, List.set_cons_zero, List.set_cons_succ]
        refine AnyZ.take (i := 15) (oi := ⟨_, _, _, _, _, _⟩) (v := ?_) rfl (by kernel_rfl) (by kernel_rfl) (by kernel_rfl) (by kernel_rfl) (fun _ _ _ h => h) (Or.inl ⟨by rfl, ?_⟩) (by assumption) ?_
        rotate_left
        · (intro w hSw; (try dsimp only at hSw); (try simp only [List.getElem_toArray, List.getElem_cons_succ, List.getElem_cons_zero]); first | (go_simp; done) | (go_simp; with_reducible rfl))
        try simp only [Act.put, List.getElem_toArray, List.getElem_cons_succ, List.getElem_cons_zero, List.setIfInBounds_toArray, List.set_cons_zero, List.set_cons_succ]
        refine AnyZ.take (i := 16) (oi := ⟨_, _, _, _, _, _⟩) (v := ?_) rfl (by kernel_rfl) (by kernel_rfl) (by kernel_rfl) (by kernel_rfl) (fun _ _ _ h => h) (Or.inl ⟨by rfl, ?_⟩) (by assumption) ?_
        rotate_left
        · (intro w hSw; (try dsimp only at hSw); (try simp only [List.getElem_toArray, List.getElem_cons_succ, List.getElem_cons_zero]); first | (go_simp; done) | (go_simp; with_reducible rfl))
        try simp only [Act.put, List.getElem_toArray, List.getElem_cons_succ, List.getElem_cons_zero, List.setIfInBounds_toArray, List.set_cons_zero, List.set_cons_succ]
        refine AnyZ.take (i := 17) (oi := ⟨_, _, _, _, _, _⟩) (v := ?_) rfl (by kernel_rfl) (by kernel_rfl) (by kernel_rfl) (by kernel_rfl) (fun _ _ _ h => h) (Or.inl ⟨by rfl, ?_⟩) (by assumption) ?_
        rotate_left
        · (intro w hSw; (try dsimp only at hSw); (try simp only [List.getElem_toArray, List.getElem_cons_succ, List.getElem_cons_zero]); first | (go_simp; done) | (go_simp; with_reducible rfl))
        try simp only [Act.put, List.getElem_toArray, List.getElem_cons_succ, List.getElem_cons_zero, List.setIfInBounds_toArray, List.set_cons_zero, List.set_cons_succ]
        refine AnyZ.take (i := 18) (oi := ⟨_, _, _, _, _, _⟩) (v := ?_) rfl (by kernel_rfl) (by kernel_rfl) (by kernel_rfl) (by kernel_rfl) (fun _ _ _ h => h) (Or.inl ⟨by rfl, ?_⟩) (by assumption) ?_
        rotate_left
        · (intro w hSw; (try dsimp only at hSw); (try simp only [List.getElem_toArray, List.getElem_cons_succ, List.getElem_cons_zero]); first | (go_simp; done) | (go_simp; with_reducible rfl))
        try simp only [Act.put, List.getElem_toArray, List.getElem_cons_succ, List.getElem_cons_zero, List.setIfInBounds_toArray, List.set_cons_zero, List.set_cons_succ]
        refine AnyZ.take (i := 19) (oi := ⟨_, _, _, _, _, _⟩) (v := ?_) rfl (by kernel_rfl) (by kernel_rfl) (by kernel_rfl) (by kernel_rfl) (fun _ _ _ h => h) (Or.inl ⟨by rfl, ?_⟩) (by assumption) ?_
        rotate_left
        · (intro w hSw; (try dsimp only at hSw); (try simp only [List.getElem_toArray, List.getElem_cons_succ, List.getElem_cons_zero]); first | (go_simp; done) | (go_simp; with_reducible rfl))
        try simp only [Act.put, List.getElem_toArray, List.getElem_cons_succ, List.getElem_cons_zero, List.setIfInBounds_toArray, List.set_cons_zero, List.set_cons_succ]
        refine AnyZ.take (i := 20) (oi := ⟨_, _, _, _, _, _⟩) (v := ?_) rfl (by kernel_rfl) (by kernel_rfl) (by kernel_rfl) (by kernel_rfl) (fun _ _ _ h => h) (Or.inl ⟨by rfl, ?_⟩) (by assumption) ?_
        rotate_left
        · (intro w hSw; (try dsimp only at hSw); (try simp only [List.getElem_toArray, List.getElem_cons_succ, List.getElem_cons_zero]); first | (go_simp; done) | (go_simp; with_reducible rfl))
        try simp only [Act.put, List.getElem_toArray, List.getElem_cons_succ, List.getElem_cons_zero, List.setIfInBounds_toArray, List.set_cons_zero, List.set_cons_succ]
        refine AnyZ.step (i := 21) (o := ⟨_, _, _, _, _, _⟩) (by kernel_rfl) rfl (fun K hK => ?_)
        go_simp
        refine hK.out _ _ (fun _ => ?_) (fun hHeld' => ?_)
        · exact ⟨(World.cell?_alloc_lt _ _ _ hq0).trans c1, (World.cell?_alloc_lt _ _ _ hlt0).trans b1, (World.cell?_alloc_lt _ _ _ hq1).trans e0, (World.cell?_alloc_lt _ _ _ hq1).trans e1, (World.cell?_alloc_lt _ _ _ hq1).trans e2⟩
        have hHeld := hHeld' (by decide)
        clear hHeld'
        clear hK K
        try simp only [Act.put, List.getElem_toArray, List.getElem_cons_succ, List.getElem_cons_zero, List.setIfInBounds_toArray, List.set_cons_zero, List.set_cons_succ]
        refine AnyZ.step (i := 22) (o := ⟨_, _, _, _, _, _⟩) (by kernel_rfl) rfl (fun K hK => ?_)
        refine step_append_lies _ (by rfl) _ _ _ (by rfl) (w2.heap.size + 1) 31 i0 _ 3 24 Try.underlying23 hi0 hz0 hz1' hz2 rfl (by omega) v _ (wyCells ((ws.take k).map flip)) (by rfl) (ST.out.drew.own.alloc _) ⟨wr.heap.size, 0, none⟩ 1 1 [.int .i64 x.b, .int .i64 x.a, .int .i64 x.c] (by rfl) (by rfl) (World.news_of_block (cs := #[.int .i64 x.b, .int .i64 x.a, .int .i64 x.c]) (t := 31) (fr := (0, 0)) (heap_alloc_new wr _)) (by simp [Value.oneCell']) (by omega) (by rw [HL.out]; unfold maxLen; omega) (by rw [HL.out]; omega) (by simp; omega) (wr.heap.size + 1) (by simp) ?_; intro gg cc w5 hown5 hgrow5 hat5 hlt5; have hlow5 := ST.out.drew.app_low hgrow5; obtain ⟨cc5, cf5⟩ := ST.out.drew.app_cells hgrow5
        refine hK.out _ _ (fun _ => ?_) (fun hHeld' => ?_)
        · exact ⟨(World.cell?_of_block (w := wr.drew) (hlow5 wd.heap.size (Nat.le_of_lt hz2_0))).trans c1, cc5, (World.cell?_of_block (w := wr.drew) (hlow5 b (Nat.le_of_lt hB))).trans e0, (World.cell?_of_block (w := wr.drew) (hlow5 b (Nat.le_of_lt hB))).trans e1, (World.cell?_of_block (w := wr.drew) (hlow5 b (Nat.le_of_lt hB))).trans e2⟩
        have hHeld := hHeld' (by decide)
        clear hHeld'
        clear hK K
        try simp only [Act.put, List.getElem_toArray, List.getElem_cons_succ, List.getElem_cons_zero, List.setIfInBounds_toArray, List.set_cons_zero, List.set_cons_succ]
        refine AnyZ.take (i := 23) (oi := ⟨_, _, _, _, _, _⟩) (v := ?_) rfl (by kernel_rfl) (by kernel_rfl) (by kernel_rfl) (by kernel_rfl) (fun _ _ _ h => h) (Or.inl ⟨by rfl, ?_⟩) (by assumption) ?_
        rotate_left
        · (intro w hSw; (try dsimp only at hSw); (try simp only [List.getElem_toArray, List.getElem_cons_succ, List.getElem_cons_zero]); first | (go_simp; done) | (go_simp; with_reducible rfl))
        try simp only [Act.put, List.getElem_toArray, List.getElem_cons_succ, List.getElem_cons_zero, List.setIfInBounds_toArray, List.set_cons_zero, List.set_cons_succ]
        refine AnyZ.step (i := 24) (o := ⟨_, _, _, _, _, _⟩) (by kernel_rfl) rfl (fun K hK => ?_)
        go_simp
        refine hK.out _ _ (fun h => absurd rfl h) (fun _ => ?_)
        clear hK K
        try simp only [Act.put, List.getElem_toArray, List.getElem_cons_succ, List.getElem_cons_zero, List.setIfInBounds_toArray, List.set_cons_zero, List.set_cons_succ]
        refine AnyZ.done (by kernel_rfl) ?_ _
        focus
          have S5 := Lib.hid (BoxSt.append ST.out.drew (flip x) hown5 hgrow5)
          clear hown5 hgrow5 hat5 hlt5
          go_wp2_with fail
          go_roundw
          case rel =>
            have S6 := S5.out
            rw [HL.out] at S6
            exact ⟨k + 1, _, by omega, by go_num, by rw [List.take_add_one, HX.out, List.map_append]; exact S6⟩
          case measure => simp [intOf]; omega
      · have hkl : k = ws.length := by omega
        subst hkl
        obtain ⟨A1, c1', rfl⟩ := ST.out.form
        have hrw := ST.out.rw
        have hlist : (ws.take ws.length).map flip = ws.map flip := by rw [List.take_of_length_le (Nat.le_refl _)]
        rw [hlist] at hrw
        have HRWT := Lib.hid hrw
        have hlt' : ((ws.take ws.length).map flip).length = ws.length := by simp
        rw [hlt'] at b1
        have HFL := Lib.hid (netOk_flip nn ws)
        have H6 : Hid (netOk 6 [] = true) := by show netOk 6 [] = true; decide
        have H0 : Hid (netOk 0 [] = false) := by show netOk 0 [] = false; decide
        have HLOW := Lib.hid hlow
        have hN := fun w hr => NetOk_any nn A1 c1' (ws.map flip) w hr
        simp only [List.length_map] at hN
        have HNF := Lib.hid hN
        clear hrw hlist hlow hst hlt' hN
        go_wp2_with fail
        refine (HNF.out _ HRWT.out).mono ?_; rintro e w3 ⟨rfl, hb3⟩; rw [HFL.out]
        have g3 := Lib.hid (bstep HBD.out hzd (bstep HB2.out (by omega) (bstep (B := w2.heap.size) HLOW.out (by omega) hb3)))
        have z3 : w.heap.size ≤ w3.heap.size := g3.out.size
        clear hb3
        cases hno : netOk nn ws
        · have heq : (false == false) = true := rfl
          go_wp2_with fail
          refine (NetOk_any 6 none 0 [] _ (RW.nil_ _)).mono ?_; rintro e w4 ⟨rfl, hb4⟩; rw [H6.out]
          have g4 := Lib.hid (bstep g3.out z3 hb4)
          have z4 : w.heap.size ≤ w4.heap.size := g4.out.size
          clear hb4
          go_wp2_with fail
          refine (NetOk_any 0 none 0 [] _ (RW.nil_ _)).mono ?_; rintro e w5 ⟨rfl, hb5⟩; rw [H0.out]
          have g5 := Lib.hid (bstep g4.out z4 hb5)
          clear hb5
          go_wp2_with fail
          go_ret
          exact ⟨rfl, g5.out⟩
        · have heq : (true == true) = true := rfl
          go_wp2_with fail
          refine (NetOk_any 6 none 0 [] _ (RW.nil_ _)).mono ?_; rintro e w4 ⟨rfl, hb4⟩; rw [H6.out]
          have g4 := Lib.hid (bstep g3.out z3 hb4)
          have z4 : w.heap.size ≤ w4.heap.size := g4.out.size
          clear hb4
          go_wp2_with fail
          refine (NetOk_any 0 none 0 [] _ (RW.nil_ _)).mono ?_; rintro e w5 ⟨rfl, hb5⟩; rw [H0.out]
          have g5 := Lib.hid (bstep g4.out z4 hb5)
          clear hb5
          go_wp2_with fail
          go_ret
          exact ⟨rfl, g5.out⟩
end Go.Proofs.Ytadhkfebokhbcab
