/- What the exact laws call: copies of nets, and whether two nets are alike. -/
import Derived.Test.YthadehgpeafniaaMD
import Derived.Test.YthadehgpeafniaaMC
import Derived.Laws.MakeOwn
import Derived.Deep.RegionHeld3
set_option linter.unusedSimpArgs false
set_option linter.unusedVariables false
namespace Go.Proofs.Ythadehgpeafniaa
open Go.ChangeShapes Go.WideShapes Go.ChangeAt Go.RowKit

theorem run_make_rowN {P : Program} (t e : TypeId) (i : TypeInfo) (z : Value) (ht : P.underlying t = some (.slice e)) (hi : P.info? e = some i) (hz : i.zero = some z)
    (kl kc : IntKind) (n c : Nat) (hnc : n ≤ c) (hbytes : i.bytes * c ≤ 281474976710656) (h63 : c ≤ 9223372036854775807) (w : World) :
    (Instr.makeSlice t (.int kl (n : Int)) (.int kc (c : Int))).run P w = .ok (.slice (some ⟨w.heap.size, 0, none⟩) n c) (w.alloc (.cells (madeCells z.cells (c * i.size)) e)) := by
  have hb : (i.bytes : Int) * (c : Int) ≤ 281474976710656 := by
    have h : ((i.bytes * c : Nat) : Int) ≤ 281474976710656 := by omega
    rwa [Int.natCast_mul] at h
  have hr := run_make (P := P) w t e i z ht hi hz kl kc n c (by omega) (by omega) hb (by omega)
  simp only [Int.toNat_natCast] at hr
  exact hr

theorem toWay_any (x : Wy) (w : World) :
    Calls Try.prog 67 #[.agg #[.int .i64 x.a, .int .i64 x.b, .int .i64 x.c]] w fun e w' => e = .returned (.agg #[.int .i64 x.a, .int .i64 x.b, .int .i64 x.c]) ∧ Below w.heap.size w w' := by
  go_enter Try.func67, Try.ntmps67
  go_wp2_with fail
  exact bodyPost_ret (v := .agg #[.int .i64 x.a, .int .i64 x.b, .int .i64 x.c]) (by simp [results, Try.results67, go_sem]) rfl ⟨rfl, by go_grown⟩

theorem eqWay_any (x : Wy) (w : World) :
    Calls Try.prog 68 #[.agg #[.int .i64 x.a, .int .i64 x.b, .int .i64 x.c], .agg #[.int .i64 x.a, .int .i64 x.b, .int .i64 x.c]] w fun e w' => e = .returned (.bool true) ∧ Below w.heap.size w w' := by
  go_enter Try.func68, Try.ntmps68
  go_wp2_with fail
  go_ret
  exact ⟨rfl, by go_grown⟩

/-- n ways, of which the first k are written -/
structure Row3 (w : World) (b : Nat) (t : TypeId) (ws : List Wy) (k : Nat) : Prop where
  blk : ∃ cs, w.heap[b]? = some (.cells cs t (0, 0)) ∧ cs.size = ws.length * 3 ∧ ∀ i x, i < k → ws[i]? = some x → cs[i * 3]? = some (.int .i64 x.a) ∧ cs[i * 3 + 1]? = some (.int .i64 x.b) ∧ cs[i * 3 + 2]? = some (.int .i64 x.c)
theorem Row3.keep {w w' : World} {b : Nat} {t : TypeId} {ws : List Wy} {k : Nat} (h : Row3 w b t ws k) (hb : w'.heap[b]? = w.heap[b]?) : Row3 w' b t ws k := by
  obtain ⟨cs, h1, h2⟩ := h.blk
  exact ⟨cs, hb.trans h1, h2⟩
theorem Row3.lt {w : World} {b : Nat} {t : TypeId} {ws : List Wy} {k : Nat} (h : Row3 w b t ws k) : b < w.heap.size := by
  obtain ⟨cs, h1, h2⟩ := h.blk
  exact (Array.getElem?_eq_some_iff.1 h1).1
theorem Row3.below {w w' : World} {b : Nat} {t : TypeId} {ws : List Wy} {k : Nat} (h : Row3 w b t ws k) (hb : Below w.heap.size w w') : Row3 w' b t ws k := h.keep (hb.block b h.lt)
theorem Row3.cell {w : World} {b : Nat} {t : TypeId} {ws : List Wy} {k : Nat} (h : Row3 w b t ws k) (j : Nat) (hj : j < ws.length * 3) : (∃ u, w.cell? ⟨b, j, none⟩ = some u) ∧ w.frozen? ⟨b, j, none⟩ = false := by
  obtain ⟨cs, h1, h2, _⟩ := h.blk
  refine ⟨⟨cs[j]'(by omega), ?_⟩, by simp [World.frozen?, h1]⟩
  rw [cell_of_row _ _ j _ _ (0, 0) h1]
  exact Array.getElem?_eq_getElem (by omega)
theorem Row3.rw {w : World} {b : Nat} {t : TypeId} {ws : List Wy} (h : Row3 w b t ws ws.length) : RW w w.heap.size (some ⟨b, 0, none⟩) ws := by
  obtain ⟨cs, h1, h2, h3⟩ := h.blk
  intro i x hx
  obtain ⟨g0, g1, g2⟩ := h3 i x (List.getElem?_eq_some_iff.1 hx).1 hx
  refine ⟨b, 0, rfl, h.lt, ?_, ?_, ?_⟩
  · rw [cell_of_row _ _ _ _ _ (0, 0) h1]; simpa using g0
  · rw [cell_of_row _ _ _ _ _ (0, 0) h1]; simpa using g1
  · rw [cell_of_row _ _ _ _ _ (0, 0) h1]; simpa using g2
theorem Row3.write {w : World} {b : Nat} {t : TypeId} {ws : List Wy} {k : Nat} (h : Row3 w b t ws k) (x : Wy) (hx : ws[k]? = some x) :
    Row3 (((w.setCell ⟨b, k * 3, none⟩ (.int .i64 x.a)).setCell ⟨b, k * 3 + 1, none⟩ (.int .i64 x.b)).setCell ⟨b, k * 3 + 2, none⟩ (.int .i64 x.c)) b t ws (k + 1) := by
  obtain ⟨cs, h1, h2, h3⟩ := h.blk
  have hk := (List.getElem?_eq_some_iff.1 hx).1
  refine ⟨((cs.setIfInBounds (k * 3) (.int .i64 x.a)).setIfInBounds (k * 3 + 1) (.int .i64 x.b)).setIfInBounds (k * 3 + 2) (.int .i64 x.c), ?_, by simpa using h2, ?_⟩
  · simp [World.setCell, Array.getElem?_modify, h1]
  · intro i y hi hy
    by_cases hik : i = k
    · subst hik
      rw [hx] at hy; injection hy with hy; subst hy
      refine ⟨?_, ?_, ?_⟩ <;> simp [Array.getElem?_setIfInBounds] <;> omega
    · obtain ⟨g0, g1, g2⟩ := h3 i y (by omega) hy
      refine ⟨?_, ?_, ?_⟩ <;> simp only [Array.getElem?_setIfInBounds] <;> rw [if_neg (by omega), if_neg (by omega), if_neg (by omega)] <;> assumption
theorem Row3.made (w : World) (t : TypeId) (ws : List Wy) (cs : Array Value) (hs : cs.size = ws.length * 3) : Row3 (w.alloc (.cells cs t)) w.heap.size t ws 0 :=
  ⟨cs, heap_alloc_new w _, hs, fun i x hi => by omega⟩

theorem infoWy : (Try.prog.info? 31).map (fun i => (i.zero, i.size, i.bytes)) = some (some (.agg #[.int .i64 0, .int .i64 0, .int .i64 0]), 3, 24) := by kernel_rfl

def RetWays (ws : List Wy) (w : World) (e : Ending) (w' : World) : Prop := ∃ b, w.heap.size ≤ b ∧ b < w'.heap.size ∧ e = .returned (.slice (some ⟨b, 0, none⟩) ws.length ws.length) ∧ RW w' w'.heap.size (some ⟨b, 0, none⟩) ws ∧ Below w.heap.size w w'
def RetWaysR (ws : List Wy) (w : World) (e : Ending) (w' : World) : Prop := ∃ b, w.heap.size ≤ b ∧ b < w'.heap.size ∧ e = .returned (.slice (some ⟨b, 0, none⟩) ws.length ws.length) ∧ Row3 w' b 31 ws ws.length ∧ Below w.heap.size w w'
set_option maxHeartbeats 400000 in
theorem toWayS_row (A : Option Addr) (cap : Nat) (ws : List Wy) (w : World) (hr : RW w w.heap.size A ws) (hm : ws.length ≤ 1048576) :
    Calls Try.prog 57 #[.slice A ws.length cap] w (RetWaysR ws w) := by
  obtain ⟨i0, hi0, hz0, hz1, hz2⟩ := info_parts infoWy
  have hmk := fun W => run_make_rowN (P := Try.prog) 23 31 i0 _ Try.underlying23 hi0 hz0 .i64 .i64 ws.length ws.length (Nat.le_refl _) (by rw [hz2]; omega) (by omega) W
  rw [hz1] at hmk
  have hms : (madeCells (Value.agg #[.int .i64 0, .int .i64 0, .int .i64 0]).cells (ws.length * 3)).size = ws.length * 3 := by simp [madeCells]
  generalize madeCells (Value.agg #[.int .i64 0, .int .i64 0, .int .i64 0]).cells (ws.length * 3) = made at hmk hms
  have HR := Lib.hid hr
  have HS := Lib.hid hms
  clear hr hz0 hz1 hz2 hi0 hms
  go_enter Try.func57, Try.ntmps57
  go_wp2_with fail
  clear hmk
  go_loopw [4] (fun i wr => ∃ k : Nat, k ≤ ws.length ∧ i = .int .i64 k ∧ Below w.heap.size w wr ∧ Row3 wr w.heap.size 31 ws k) (fun i _ => ws.length - (intOf i).toNat)
  case atStart => exact ⟨0, Nat.zero_le _, rfl, by go_grown, Row3.made w _ ws _ HS.out⟩
  case round =>
    obtain ⟨k, hk, rfl, hb, hrow⟩ := hrel
    have hz := hrow.lt
    by_cases hlt : k < ws.length
    · obtain ⟨x, hx⟩ : ∃ x, ws[k]? = some x := ⟨_, List.getElem?_eq_getElem hlt⟩
      obtain ⟨b, o, rfl, hB, c0, c1, c2⟩ := HR.out.below hb k x hx
      have HX := Lib.hid hx
      have HROW := Lib.hid hrow
      clear hx hrow
      go_wp2_with fail
      refine (toWay_any _ _).mono ?_; rintro e w1 ⟨rfl, hb1⟩
      have hrow1 := HROW.out.below hb1
      have hz1 := hrow1.lt
      obtain ⟨⟨u0, d0⟩, e0⟩ := hrow1.cell (k * 3) (by omega)
      obtain ⟨⟨u1, d1⟩, e1⟩ := hrow1.cell (k * 3 + 1) (by omega)
      obtain ⟨⟨u2, d2⟩, e2⟩ := hrow1.cell (k * 3 + 2) (by omega)
      have HB1 := Lib.hid (bstep hb (by omega) hb1)
      have HROW1 := Lib.hid hrow1
      clear hrow1 hb1
      go_wp2_with fail
      go_roundw
      case rel => exact ⟨k + 1, by omega, by go_num, by have := HB1.out; go_grown, HROW1.out.write x HX.out⟩
      case measure => simp [intOf]; omega
    · have HROW := Lib.hid hrow
      clear hrow
      go_wp2_with fail
      go_ret
      have hk' : k = ws.length := by omega
      subst hk'
      exact ⟨w.heap.size, Nat.le_refl _, HROW.out.lt, rfl, HROW.out, hb⟩

theorem toWayS_any (A : Option Addr) (cap : Nat) (ws : List Wy) (w : World) (hr : RW w w.heap.size A ws) (hm : ws.length ≤ 1048576) :
    Calls Try.prog 57 #[.slice A ws.length cap] w (RetWays ws w) :=
  (toWayS_row A cap ws w hr hm).mono fun _ _ ⟨b, h1, h2, h3, h4, h5⟩ => ⟨b, h1, h2, h3, h4.rw, h5⟩

def RetNet (n : Int) (ws : List Wy) (w : World) (e : Ending) (w' : World) : Prop :=
  ∃ b, w.heap.size ≤ b ∧ b < w'.heap.size ∧ e = .returned (.agg #[.int .i64 n, .slice (some ⟨b, 0, none⟩) ws.length ws.length]) ∧ RW w' w'.heap.size (some ⟨b, 0, none⟩) ws ∧ Below w.heap.size w w'
def RetNetR (n : Int) (ws : List Wy) (w : World) (e : Ending) (w' : World) : Prop :=
  ∃ b, w.heap.size ≤ b ∧ b < w'.heap.size ∧ e = .returned (.agg #[.int .i64 n, .slice (some ⟨b, 0, none⟩) ws.length ws.length]) ∧ Row3 w' b 31 ws ws.length ∧ Below w.heap.size w w'
set_option maxHeartbeats 400000 in
theorem toNet_row (n : Int) (A : Option Addr) (cap : Nat) (ws : List Wy) (w : World) (hr : RW w w.heap.size A ws) (hm : ws.length ≤ 1048576) :
    Calls Try.prog 28 #[.agg #[.int .i64 n, .slice A ws.length cap]] w (RetNetR n ws w) := by
  have HR := Lib.hid hr
  clear hr
  go_enter Try.func28, Try.ntmps28
  go_wp2_with fail
  refine (toWayS_row _ _ _ _ (HR.out.later (by go_grown)) hm).mono ?_; rintro e w1 ⟨b, hbl, hbh, rfl, hrw1, hb1⟩
  obtain ⟨hc1, hf1⟩ := bcell hb1
  simp only [World.size_alloc] at hbl
  have hz0 : w.heap.size < w1.heap.size := by have hq := hb1.size; simp at hq; omega
  have hz1 : w.heap.size + 1 < w1.heap.size := by have hq := hb1.size; simp at hq; omega
  have hz2 : w.heap.size + 1 + 1 < w1.heap.size := by have hq := hb1.size; simp at hq; omega
  have hrb : w1.heap[w.heap.size + 1]? = some (.cells #[.int .i64 0, .slice none 0 0] 25 (0, 0)) := by
    rw [hb1.block _ (by simp), Below.heap_alloc _ _ _ (by simp)]
    have := heap_alloc_new (w.alloc (.cells #[.int .i64 n, .slice A ws.length cap] 42)) (.cells #[.int .i64 0, .slice none 0 0] 25)
    simpa using this
  have hrb' : (w1.setCell ⟨w.heap.size + 1 + 1, 1, none⟩ (.slice (some ⟨b, 0, none⟩) ws.length ws.length)).heap[w.heap.size + 1]? = some (.cells #[.int .i64 0, .slice none 0 0] 25 (0, 0)) := by
    rw [Below.heap_setCell _ _ _ _ (by simp)]; exact hrb
  have HTC := Lib.hid (two_cells (v0 := .int .i64 n) (v1 := .slice (some ⟨b, 0, none⟩) ws.length ws.length) hrb')
  have HB1 := Lib.hid (bstep (B := w.heap.size) (W := w) (by go_grown) (by go_size) hb1)
  have HRW := Lib.hid hrw1
  have HBH := Lib.hid hbh
  clear hb1 hrw1 hrb hrb' hbh
  go_wp2_with fail
  obtain ⟨t0, t1⟩ := HTC.out
  refine bodyPost_ret (v := .agg #[.int .i64 n, .slice (some ⟨b, 0, none⟩) ws.length ws.length]) (by simp [results, Try.results28, go_sem, t0, t1]) rfl ⟨b, by omega, by have := HBH.out; simpa [World.setCell] using this, rfl, HRW.out.keep ?_, by have := HB1.out; go_grown⟩
  rw [Below.heap_setCell _ _ _ _ (by simp; omega), Below.heap_setCell _ _ _ _ (by simp; omega), Below.heap_setCell _ _ _ _ (by simp; omega)]

theorem toNet_any (n : Int) (A : Option Addr) (cap : Nat) (ws : List Wy) (w : World) (hr : RW w w.heap.size A ws) (hm : ws.length ≤ 1048576) :
    Calls Try.prog 28 #[.agg #[.int .i64 n, .slice A ws.length cap]] w (RetNet n ws w) :=
  (toNet_row n A cap ws w hr hm).mono fun _ _ ⟨b, h1, h2, h3, h4, h5⟩ => ⟨b, h1, h2, h3, h4.rw, h5⟩

theorem szWayS_any (A : Option Addr) (len cap : Nat) (w : World) (hm : len ≤ 9223372036854775807) :
    Calls Try.prog 56 #[.slice A len cap, .int .i64 1048576] w fun e w' => e = .returned (.int .i64 (if len ≤ 1048576 then 1048576 - len else -1)) ∧ w = w' := by
  by_cases h : len ≤ 1048576
  · rw [if_pos h]
    go_enter Try.func56, Try.ntmps56
    go_wp2_with fail
    go_ret
    exact ⟨rfl, rfl⟩
  · rw [if_neg h]
    go_enter Try.func56, Try.ntmps56
    go_wp2_with fail
    go_ret
    exact ⟨rfl, rfl⟩
theorem szNet_any (n : Int) (A : Option Addr) (len cap : Nat) (w : World) (hm : len ≤ 9223372036854775807) :
    Calls Try.prog 27 #[.agg #[.int .i64 n, .slice A len cap], .int .i64 1048576] w fun e w' => e = .returned (.int .i64 (if len ≤ 1048576 then 1048576 - len else -1)) ∧ Below w.heap.size w w' := by
  by_cases h : len ≤ 1048576
  · rw [if_pos h]
    go_enter Try.func27, Try.ntmps27
    go_wp2_with fail
    refine (szWayS_any _ _ _ _ hm).mono ?_; rintro e w' ⟨rfl, rfl⟩; rw [if_pos h]
    go_wp2_with fail
    go_ret
    exact ⟨rfl, by go_grown⟩
  · rw [if_neg h]
    go_enter Try.func27, Try.ntmps27
    go_wp2_with fail
    refine (szWayS_any _ _ _ _ hm).mono ?_; rintro e w' ⟨rfl, rfl⟩; rw [if_neg h]
    go_wp2_with fail
    go_ret
    exact ⟨rfl, by go_grown⟩

set_option maxHeartbeats 400000 in
theorem eqWayS_any (A B : Option Addr) (cap cap' : Nat) (ws : List Wy) (w : World) (hr : RW w w.heap.size A ws) (hr' : RW w w.heap.size B ws) (hm : ws.length ≤ 1048576) :
    Calls Try.prog 58 #[.slice A ws.length cap, .slice B ws.length cap'] w fun e w' => e = .returned (.bool true) ∧ Below w.heap.size w w' := by
  have HR := Lib.hid hr
  have HR' := Lib.hid hr'
  clear hr hr'
  go_enter Try.func58, Try.ntmps58
  go_wp2_with fail
  go_loopw [5] (fun i wr => ∃ k : Nat, k ≤ ws.length ∧ i = .int .i64 k ∧ Below w.heap.size w wr) (fun i _ => ws.length - (intOf i).toNat)
  case atStart => exact ⟨0, Nat.zero_le _, rfl, Below.refl _ _⟩
  case round =>
    obtain ⟨k, hk, rfl, hb⟩ := hrel
    by_cases hlt : k < ws.length
    · obtain ⟨x, hx⟩ : ∃ x, ws[k]? = some x := ⟨_, List.getElem?_eq_getElem hlt⟩
      obtain ⟨b, o, rfl, hB, c0, c1, c2⟩ := HR.out.below hb k x hx
      obtain ⟨b', o', rfl, hB', c0', c1', c2'⟩ := HR'.out.below hb k x hx
      have HX := Lib.hid hx
      have hlt' : (k : Int) < (ws.length : Int) := by omega
      have hk0 : (0 : Int) ≤ (k : Int) := by omega
      clear hx
      have hlb : b < wr.heap.size := by have := hb.size; omega
      have hlb' : b' < wr.heap.size := by have := hb.size; omega
      go_wp2_with fail
      go_region_held3 (fun w' => w'.cell? ⟨b, o + k * 3, none⟩ = some (.int .i64 x.a) ∧ w'.cell? ⟨b, o + k * 3 + 1, none⟩ = some (.int .i64 x.b) ∧ w'.cell? ⟨b, o + k * 3 + 2, none⟩ = some (.int .i64 x.c) ∧
          w'.cell? ⟨b', o' + k * 3, none⟩ = some (.int .i64 x.a) ∧ w'.cell? ⟨b', o' + k * 3 + 1, none⟩ = some (.int .i64 x.b) ∧ w'.cell? ⟨b', o' + k * 3 + 2, none⟩ = some (.int .i64 x.c))
        (first | exact ⟨c0, c1, c2, c0', c1', c2'⟩ | exact ⟨(hb1.cell hlb).trans c0, (hb1.cell hlb).trans c1, (hb1.cell hlb).trans c2, (hb1.cell hlb').trans c0', (hb1.cell hlb').trans c1', (hb1.cell hlb').trans c2'⟩)
        (first | (go_at_call 68; refine (eqWay_any x _).mono ?_; rintro e w1 ⟨rfl, hb1⟩))
      have HB1 := Lib.hid (bstep (B := w.heap.size) (W := w) (hb.drew) (by have := hb.size; simpa using this) hb1)
      clear hb1
      go_wp2_with fail
      go_roundw
      case rel => exact ⟨k + 1, by omega, by go_num, HB1.out⟩
      case measure => simp [intOf]; omega
    · go_wp2_with fail
      go_ret
      exact ⟨rfl, hb⟩

set_option maxHeartbeats 400000 in
theorem eqNet_any (n : Int) (A B : Option Addr) (cap cap' : Nat) (ws : List Wy) (w : World) (hr : RW w w.heap.size A ws) (hr' : RW w w.heap.size B ws) (hm : ws.length ≤ 1048576) :
    Calls Try.prog 29 #[.agg #[.int .i64 n, .slice A ws.length cap], .agg #[.int .i64 n, .slice B ws.length cap']] w fun e w' => e = .returned (.bool true) ∧ Below w.heap.size w w' := by
  have HR := Lib.hid hr
  have HR' := Lib.hid hr'
  clear hr hr'
  go_enter Try.func29, Try.ntmps29
  go_wp2_with fail
  refine (eqWayS_any _ _ _ _ _ _ (HR.out.later (by go_grown)) (HR'.out.later (by go_grown)) hm).mono ?_; rintro e w1 ⟨rfl, hb1⟩
  obtain ⟨hc1, hf1⟩ := bcell hb1
  have hz1_0 : w.heap.size < w1.heap.size := by have hq := hb1.size; (try simp at hq); omega
  have HK1 := Lib.hid hb1
  have HB1 := Lib.hid (bstep (B := w.heap.size) (W := w) (by (try have hp := HB0.out); go_grown) (by go_size) hb1); clear hb1
  go_wp2_with fail
  go_ret
  exact ⟨rfl, HB1.out⟩
end Go.Proofs.Ythadehgpeafniaa
