/- The program's order of the ways: by their costs, and of equal costs by their numbers. -/
import Derived.Test.YthadehgpeafniabDoorMB
import Derived.Test.YthadehgpeafniabDoorMC
set_option linter.unusedSimpArgs false
set_option linter.unusedVariables false
namespace Go.Proofs.YthadehgpeafniabDoor
open Go.ChangeShapes Go.WideShapes Go.ChangeAt Go.RowKit

set_option maxHeartbeats 2000000 in
theorem ordLess_any (n : Int) (A : Option Addr) (cap : Nat) (ws : List Wy) (B j k : Nat) (x y : Wy) (w : World) (hr : RW w w.heap.size A ws) (hx : ws[j]? = some x) (hy : ws[k]? = some y)
    (h0 : w.cell? ⟨B, 0, none⟩ = some (.int .i64 n)) (h1 : w.cell? ⟨B, 1, none⟩ = some (.slice A ws.length cap)) (hl : ws.length ≤ 9) :
    Calls Tryd.prog 36 #[.int .i64 j, .int .i64 k, .pointer (some ⟨B, 0, none⟩)] w fun e w' => e = .returned (.int .i64 (Lib.compareInt x.c y.c)) ∧ ∃ q, w' = w.drewN q := by
  obtain ⟨b, o, rfl, hB, a0, a1, a2⟩ := hr j x hx
  obtain ⟨b', o', e', _, c0, c1, c2⟩ := hr k y hy
  injection e' with e'; injection e' with e1 e2; subst e1; subst e2
  have hcon : ∀ W, Calls Tryd.prog 37 #[.int .i64 x.c, .int .i64 y.c] W fun e w' => e = .returned (.int .i64 (Lib.compareInt x.c y.c)) ∧ w' = W := fun W => AnyG.cmp_Compare_int cmpLay x.c y.c W
  generalize Lib.compareInt x.c y.c = r at hcon ⊢
  have hj := (List.getElem?_eq_some_iff.1 hx).1
  have hk := (List.getElem?_eq_some_iff.1 hy).1
  have hj0 : (0 : Int) ≤ (j : Int) := by omega
  have hk0 : (0 : Int) ≤ (k : Int) := by omega
  have hj1 : (j : Int) < (ws.length : Int) := by omega
  have hk1 : (k : Int) < (ws.length : Int) := by omega
  clear hr hx hy
  go_enter Tryd.func36, Tryd.ntmps36
  go_wp2_with fail
  go_quiet (first | (go_at_call 37; refine Calls.quiet_of_same (hcon _)))
  go_wp2_with fail
  go_ret
  exact ⟨rfl, nq, rfl⟩

/-- how the numbers stand in the row -/
def encN (m : Nat) (x : Nat) : Value := .int .i64 ((x % m : Nat) : Int)
def cfC (ws : List Wy) (x y : Nat) : Int := Lib.compareInt (costAt ws x) (costAt ws y)
theorem ltOf_cfC (ws : List Wy) : ltOf (cfC ws) = ltC ws := by
  funext x y
  unfold ltOf cfC ltC Lib.compareInt
  rw [Bool.eq_iff_iff, decide_eq_true_eq, decide_eq_true_eq]
  split
  · omega
  · split <;> omega
theorem sortd_cf (ws : List Wy) : Sort.insertionSort (ltOf (cfC ws)) (Array.range ws.length) 0 ws.length = sortd ws := by
  rw [ltOf_cfC]; rfl

/-- the comparison, in each world that the sort passes through -/
theorem ordReads (n : Int) (A : Option Addr) (cap : Nat) (ws : List Wy) (B blk : Nat) (w : World) (hr : RW w blk A ws) (hB : B < blk) (hblk : blk < w.heap.size)
    (h0 : w.cell? ⟨B, 0, none⟩ = some (.int .i64 n)) (h1 : w.cell? ⟨B, 1, none⟩ = some (.slice A ws.length cap)) (hl : ws.length ≤ 9) (hp : 0 < ws.length) :
    CmpReads Tryd.prog 36 #[.pointer (some ⟨B, 0, none⟩)] (encN ws.length) (cfC ws) blk 0 ws.length w := by
  intro m os dk hs x y
  have hsz : (sortWorld (encN ws.length) w blk 0 m dk os).heap.size = w.heap.size + os.size := by
    unfold sortWorld; simp [Sort.grow, Sort.ahead]
  have hcell : ∀ c o', c < blk → (sortWorld (encN ws.length) w blk 0 m dk os).cell? ⟨c, o', none⟩ = w.cell? ⟨c, o', none⟩ := fun c o' hc => by
    unfold sortWorld
    rw [Sort.cell?_grow _ _ _ (by simp [Sort.ahead]; omega), Sort.cell?_putRow_other _ _ _ _ _ _ (.inl (by simp; omega))]
    rfl
  have hmx : x % ws.length < ws.length := Nat.mod_lt _ hp
  have hmy : y % ws.length < ws.length := Nat.mod_lt _ hp
  obtain ⟨u, hu⟩ : ∃ u, ws[x % ws.length]? = some u := ⟨_, List.getElem?_eq_getElem hmx⟩
  obtain ⟨v, hv⟩ : ∃ v, ws[y % ws.length]? = some v := ⟨_, List.getElem?_eq_getElem hmy⟩
  have e : cfC ws x y = Lib.compareInt u.c v.c := by
    unfold cfC costAt; rw [hu, hv]
  rw [e]
  refine ordLess_any n A cap ws B _ _ u v _ ?_ hu hv (by rw [hcell B 0 hB]; exact h0) (by rw [hcell B 1 hB]; exact h1) hl
  intro i z hz
  obtain ⟨b, o, ha, hb, q0, q1, q2⟩ := hr i z hz
  exact ⟨b, o, ha, by omega, by rw [hcell b _ hb]; exact q0, by rw [hcell b _ hb]; exact q1, by rw [hcell b _ hb]; exact q2⟩

set_option maxHeartbeats 2000000 in
theorem stable_any (n : Int) (A : Option Addr) (cap cap' : Nat) (ws : List Wy) (B blk : Nat) (w : World) (hr : RW w blk A ws) (hB : B < blk) (hblk : blk < w.heap.size)
    (h0 : w.cell? ⟨B, 0, none⟩ = some (.int .i64 n)) (h1 : w.cell? ⟨B, 1, none⟩ = some (.slice A ws.length cap)) (hl : ws.length ≤ 9) (hp : 0 < ws.length)
    (hH : Sort.Holds (encN ws.length) w blk 0 (Array.range ws.length)) :
    Calls Tryd.prog 43 #[.slice (some ⟨blk, 0, none⟩) ws.length cap', .int .i64 ws.length, .func (.func 36) #[] #[.pointer (some ⟨B, 0, none⟩)]] w fun e w' =>
      e = .returned (.tuple #[]) ∧ ∃ q, w' = (Sort.putRow (encN ws.length) w blk 0 (sortd ws)).drewN q := by
  have hcmp := ordReads n A cap ws B blk w hr hB hblk h0 h1 hl hp
  have eg : ∀ args w, (callFunc 36 args).run Tryd.prog w = .ok (.enter 36 args) w := enters_of Tryd.func36 (by kernel_rfl) rfl
  have hs : (Array.range ws.length).size = ws.length := Array.size_range
  have hi := Any.insertionSortCmpFunc_one insLay (encN ws.length) (fun _ => rfl) (cfC ws) 36 #[.pointer (some ⟨B, 0, none⟩)] blk 0 cap' 0 ws.length (Array.range ws.length) w eg (by rw [hs]; exact hcmp) hH (Nat.zero_le _) (by omega) (by omega)
  rw [sortd_cf, hs] at hi
  change Calls Tryd.prog 49 _ _ _ at hi
  generalize sortd ws = d' at hi ⊢
  have hl20 : ¬ (20 : Int) ≤ (ws.length : Int) := by omega
  have hl20' : ¬ (20 : Int) < (ws.length : Int) := by omega
  clear hr h0 h1 hH hcmp eg hs
  go_enter Tryd.func43, Tryd.ntmps43
  go_wp2_with fail
  refine wp_loop_rounds 1 ?_
  rw [rounds_succ]
  go_wp2_with (go_at_call 49; refine hi.mono ?_; rintro e w' ⟨rfl, q, rfl⟩)
  refine wp_loop_rounds 1 ?_
  rw [rounds_succ]
  go_wp2_with fail
  go_end0
  exact ⟨rfl, q, rfl⟩

set_option maxHeartbeats 2000000 in
/-- slices.SortStableFunc -/
theorem sort_any (n : Int) (A : Option Addr) (cap cap' : Nat) (ws : List Wy) (B blk : Nat) (w : World) (hr : RW w blk A ws) (hB : B < blk) (hblk : blk < w.heap.size)
    (h0 : w.cell? ⟨B, 0, none⟩ = some (.int .i64 n)) (h1 : w.cell? ⟨B, 1, none⟩ = some (.slice A ws.length cap)) (hl : ws.length ≤ 9) (hp : 0 < ws.length)
    (hH : Sort.Holds (encN ws.length) w blk 0 (Array.range ws.length)) :
    Calls Tryd.prog 35 #[.slice (some ⟨blk, 0, none⟩) ws.length cap', .func (.func 36) #[] #[.pointer (some ⟨B, 0, none⟩)]] w fun e w' =>
      e = .returned (.tuple #[]) ∧ ∃ q, w' = (Sort.putRow (encN ws.length) w blk 0 (sortd ws)).drewN q := by
  have hi := stable_any n A cap cap' ws B blk w hr hB hblk h0 h1 hl hp hH
  generalize sortd ws = d' at hi ⊢
  clear hr h0 h1 hH
  go_enter Tryd.func35, Tryd.ntmps35
  go_wp2_with (go_at_call 43; refine hi.mono ?_; rintro e w' ⟨rfl, q, rfl⟩)
  go_end0
  exact ⟨rfl, q, rfl⟩

/-! no ways at all -/
set_option maxHeartbeats 2000000 in
theorem ins0_any (A : Option Addr) (cap : Nat) (fv : Value) (w : World) :
    Calls Tryd.prog 49 #[.slice A 0 cap, .int .i64 0, .int .i64 0, fv] w fun e w' => e = .returned (.tuple #[]) ∧ w' = w := by
  go_enter Tryd.func49, Tryd.ntmps49
  go_wp2_with fail
  refine wp_loop_rounds 1 ?_
  rw [rounds_succ]
  go_wp2_with fail
  go_end0
  exact ⟨rfl, rfl⟩
set_option maxHeartbeats 2000000 in
theorem stable0_any (A : Option Addr) (cap : Nat) (fv : Value) (w : World) :
    Calls Tryd.prog 43 #[.slice A 0 cap, .int .i64 0, fv] w fun e w' => e = .returned (.tuple #[]) ∧ w' = w := by
  have hi := fun W => ins0_any A cap fv W
  go_enter Tryd.func43, Tryd.ntmps43
  go_wp2_with fail
  refine wp_loop_rounds 1 ?_
  rw [rounds_succ]
  go_wp2_with (go_at_call 49; refine (hi _).mono ?_; rintro e w' ⟨rfl, rfl⟩)
  refine wp_loop_rounds 1 ?_
  rw [rounds_succ]
  go_wp2_with fail
  go_end0
  exact ⟨rfl, rfl⟩
set_option maxHeartbeats 2000000 in
theorem sort0_any (A : Option Addr) (cap : Nat) (fv : Value) (w : World) :
    Calls Tryd.prog 35 #[.slice A 0 cap, fv] w fun e w' => e = .returned (.tuple #[]) ∧ w' = w := by
  have hi := fun W => stable0_any A cap fv W
  go_enter Tryd.func35, Tryd.ntmps35
  go_wp2_with (go_at_call 43; refine (hi _).mono ?_; rintro e w' ⟨rfl, rfl⟩)
  go_end0
  exact ⟨rfl, rfl⟩

theorem new_row (w : World) (m : Nat) (v : Value) (t : TypeId) (j : Nat) (hj : j < m) : (w.alloc (.cells (Array.replicate m v) t)).cell? ⟨w.heap.size, j, none⟩ = some v ∧ (w.alloc (.cells (Array.replicate m v) t)).frozen? ⟨w.heap.size, j, none⟩ = false := by
  have h := heap_alloc_new w (.cells (Array.replicate m v) t)
  constructor
  · unfold World.cell?
    simp only [h]
    simp [hj]
  · unfold World.frozen?
    simp only [h]
    simp
theorem below_put {α : Type} [Inhabited α] {B blk off : Nat} {W w : World} (h : Below B W w) (hb : B ≤ blk) (enc : α → Value) (d : Array α) : Below B W (Sort.putRow enc w blk off d) :=
  ⟨h.os, h.tape, h.output, by rw [Sort.size_putRow]; exact h.size, fun i hi => by
    rw [← h.block i hi]
    unfold Sort.putRow Sort.mapBlock
    simp only [Array.getElem?_modify]
    rw [if_neg (by omega)]⟩
/-- a number is written into a row -/
theorem put_row {w : World} {b m k : Nat} {f g : Nat → Int} {x : Int} (h : ∀ j, j < m → w.cell? ⟨b, j, none⟩ = some (.int .i64 (f j)) ∧ w.frozen? ⟨b, j, none⟩ = false) (hk : k < m) (hg : ∀ j, j < m → g j = if j = k then x else f j) :
    ∀ j, j < m → (w.setCell ⟨b, k, none⟩ (.int .i64 x)).cell? ⟨b, j, none⟩ = some (.int .i64 (g j)) ∧ (w.setCell ⟨b, k, none⟩ (.int .i64 x)).frozen? ⟨b, j, none⟩ = false := fun j hj => by
  rw [World.frozen?_setCell, hg j hj]
  refine ⟨?_, (h j hj).2⟩
  by_cases e : j = k
  · subst e
    rw [if_pos rfl]
    exact World.cell?_setCell_same _ _ _ (h j hj).1
  · rw [if_neg e, World.cell?_setCell_other _ _ _ _ (by intro e'; simp only [Addr.mk.injEq] at e'; omega)]
    exact (h j hj).1
/-- what cheapestFirst hands back -/
structure OrdRow (ws : List Wy) (w : World) (blk : Nat) : Prop where
  lt : blk < w.heap.size
  at_ : ∀ i, i < ws.length → w.cell? ⟨blk, i, none⟩ = some (.int .i64 ((sortd ws)[i]! : Nat))
theorem mkInts0 (W : World) : (Instr.makeSlice 34 (.int .i64 ((0 : Nat) : Int)) (.int .i64 ((0 : Nat) : Int))).run Tryd.prog W = .ok (.slice (some ⟨W.heap.size, 0, none⟩) 0 0) (W.alloc (.cells (Array.replicate 0 (.int .i64 0)) 3)) := by kernel_rfl
theorem mkInts1 (W : World) : (Instr.makeSlice 34 (.int .i64 ((1 : Nat) : Int)) (.int .i64 ((1 : Nat) : Int))).run Tryd.prog W = .ok (.slice (some ⟨W.heap.size, 0, none⟩) 1 1) (W.alloc (.cells (Array.replicate 1 (.int .i64 0)) 3)) := by kernel_rfl
theorem mkInts2 (W : World) : (Instr.makeSlice 34 (.int .i64 ((2 : Nat) : Int)) (.int .i64 ((2 : Nat) : Int))).run Tryd.prog W = .ok (.slice (some ⟨W.heap.size, 0, none⟩) 2 2) (W.alloc (.cells (Array.replicate 2 (.int .i64 0)) 3)) := by kernel_rfl
theorem mkInts3 (W : World) : (Instr.makeSlice 34 (.int .i64 ((3 : Nat) : Int)) (.int .i64 ((3 : Nat) : Int))).run Tryd.prog W = .ok (.slice (some ⟨W.heap.size, 0, none⟩) 3 3) (W.alloc (.cells (Array.replicate 3 (.int .i64 0)) 3)) := by kernel_rfl
theorem mkInts4 (W : World) : (Instr.makeSlice 34 (.int .i64 ((4 : Nat) : Int)) (.int .i64 ((4 : Nat) : Int))).run Tryd.prog W = .ok (.slice (some ⟨W.heap.size, 0, none⟩) 4 4) (W.alloc (.cells (Array.replicate 4 (.int .i64 0)) 3)) := by kernel_rfl
theorem mkInts5 (W : World) : (Instr.makeSlice 34 (.int .i64 ((5 : Nat) : Int)) (.int .i64 ((5 : Nat) : Int))).run Tryd.prog W = .ok (.slice (some ⟨W.heap.size, 0, none⟩) 5 5) (W.alloc (.cells (Array.replicate 5 (.int .i64 0)) 3)) := by kernel_rfl
theorem mkInts6 (W : World) : (Instr.makeSlice 34 (.int .i64 ((6 : Nat) : Int)) (.int .i64 ((6 : Nat) : Int))).run Tryd.prog W = .ok (.slice (some ⟨W.heap.size, 0, none⟩) 6 6) (W.alloc (.cells (Array.replicate 6 (.int .i64 0)) 3)) := by kernel_rfl
theorem mkInts7 (W : World) : (Instr.makeSlice 34 (.int .i64 ((7 : Nat) : Int)) (.int .i64 ((7 : Nat) : Int))).run Tryd.prog W = .ok (.slice (some ⟨W.heap.size, 0, none⟩) 7 7) (W.alloc (.cells (Array.replicate 7 (.int .i64 0)) 3)) := by kernel_rfl
theorem mkInts8 (W : World) : (Instr.makeSlice 34 (.int .i64 ((8 : Nat) : Int)) (.int .i64 ((8 : Nat) : Int))).run Tryd.prog W = .ok (.slice (some ⟨W.heap.size, 0, none⟩) 8 8) (W.alloc (.cells (Array.replicate 8 (.int .i64 0)) 3)) := by kernel_rfl
theorem mkInts9 (W : World) : (Instr.makeSlice 34 (.int .i64 ((9 : Nat) : Int)) (.int .i64 ((9 : Nat) : Int))).run Tryd.prog W = .ok (.slice (some ⟨W.heap.size, 0, none⟩) 9 9) (W.alloc (.cells (Array.replicate 9 (.int .i64 0)) 3)) := by kernel_rfl
theorem mkInts (W : World) : ∀ m : Nat, m ≤ 9 → (Instr.makeSlice 34 (.int .i64 ((m : Nat) : Int)) (.int .i64 ((m : Nat) : Int))).run Tryd.prog W = .ok (.slice (some ⟨W.heap.size, 0, none⟩) m m) (W.alloc (.cells (Array.replicate m (.int .i64 0)) 3))
  | 0, _ => mkInts0 W
  | 1, _ => mkInts1 W
  | 2, _ => mkInts2 W
  | 3, _ => mkInts3 W
  | 4, _ => mkInts4 W
  | 5, _ => mkInts5 W
  | 6, _ => mkInts6 W
  | 7, _ => mkInts7 W
  | 8, _ => mkInts8 W
  | 9, _ => mkInts9 W
  | m + 10, h => absurd h (by omega)
set_option maxHeartbeats 2000000 in
theorem cheapestFirst_any (n : Int) (A : Option Addr) (cap : Nat) (ws : List Wy) (w : World) (hr : RW w w.heap.size A ws) (hn : NetIs n ws) :
    Calls Tryd.prog 24 #[.agg #[.int .i64 n, .slice A ws.length cap]] w fun e w' => (∃ blk, e = .returned (.slice (some ⟨blk, 0, none⟩) ws.length ws.length) ∧ w.heap.size ≤ blk ∧ OrdRow ws w' blk) ∧ Below w.heap.size w w' := by
  have HR := Lib.hid hr
  have hl9 := hn.len
  have hmk := fun W => mkInts W ws.length hl9
  clear hr hn
  go_enter Tryd.func24, Tryd.ntmps24
  go_wp2_with fail
  go_loopw [11] (fun i wr => ∃ k : Nat, k ≤ ws.length ∧ i = .int .i64 k ∧ wr.cell? ⟨w.heap.size, 0, none⟩ = some (.int .i64 n) ∧ wr.cell? ⟨w.heap.size, 1, none⟩ = some (.slice A ws.length cap) ∧ Below w.heap.size w wr ∧ wr.heap.size = w.heap.size + 2 ∧ ∀ j, j < ws.length → wr.cell? ⟨w.heap.size + 1, j, none⟩ = some (.int .i64 (if j < k then (j : Int) else 0)) ∧ wr.frozen? ⟨w.heap.size + 1, j, none⟩ = false) (fun i _ => ws.length - (intOf i).toNat)
  case atStart =>
    refine ⟨0, Nat.zero_le _, rfl, by go_simp, by go_simp, by go_grown, by simp, fun j hj => ?_⟩
    have := new_row (w.alloc (.cells #[.int .i64 n, .slice A ws.length cap] 29)) ws.length (.int .i64 0) 3 j hj
    rw [World.size_alloc] at this
    rw [if_neg (by omega)]
    exact this
  case round =>
    obtain ⟨k, hk, rfl, b0, b1, hb, hz, hc⟩ := hrel
    have HB0 := Lib.hid hb
    have HC := Lib.hid hc
    clear hb hc
    by_cases hlt : k < ws.length
    · have hk0 : (0 : Int) ≤ (k : Int) := by omega
      have hk1 : (k : Int) < (ws.length : Int) := by omega
      obtain ⟨q0, q1⟩ := HC.out k hlt
      rw [if_neg (by omega)] at q0
      go_wp2_with fail
      go_roundw
      case rel => exact ⟨k + 1, by omega, by go_num, by go_simp, by go_simp, by have := HB0.out; go_grown, by go_simp, put_row HC.out hlt (fun j hj => by split <;> split <;> (try split) <;> omega)⟩
      case measure => simp [intOf]; omega
    · have hkl : k = ws.length := by omega
      subst hkl
      by_cases hp : 0 < ws.length
      · have hRW : RW wr (w.heap.size + 1) A ws := by
          intro i x hx
          obtain ⟨b, o, ha, hB, c0, c1, c2⟩ := HR.out.below HB0.out i x hx
          exact ⟨b, o, ha, by omega, c0, c1, c2⟩
        have hH : Sort.Holds (encN ws.length) wr (w.heap.size + 1) 0 (Array.range ws.length) := fun j hj => by
          rw [Array.size_range] at hj
          obtain ⟨q0, q1⟩ := HC.out j hj
          rw [if_pos hj] at q0
          rw [range_at _ j hj, Nat.zero_add]
          refine ⟨?_, q1⟩
          rw [q0]; unfold encN; rw [Nat.mod_eq_of_lt hj]
        have hs := sort_any n A cap ws.length ws w.heap.size (w.heap.size + 1) wr hRW (by omega) (by omega) b0 b1 hl9 hp hH
        have hrow : OrdRow ws (Sort.putRow (encN ws.length) wr (w.heap.size + 1) 0 (sortd ws)) (w.heap.size + 1) := ⟨by simp; omega, fun i hi => by
          have h1 := Sort.cell?_putRow (encN ws.length) wr (w.heap.size + 1) 0 (Array.range ws.length) (sortd ws) hH (by rw [(sortd_ok ws).1, Array.size_range]) i (by rw [(sortd_ok ws).1]; exact hi)
          rw [Nat.zero_add] at h1
          rw [h1]; unfold encN; rw [Nat.mod_eq_of_lt (sortd_lt ws i hi)]⟩
        have hbel := below_put (off := 0) HB0.out (Nat.le_succ _) (encN ws.length) (sortd ws)
        clear HC hRW hH
        go_wp2_with (go_at_call 35; refine hs.mono ?_; rintro e w' ⟨rfl, q, rfl⟩)
        go_ret
        exact ⟨⟨_, rfl, by omega, ⟨hrow.lt, hrow.at_⟩⟩, ⟨hbel.os, hbel.tape, hbel.output, hbel.size, hbel.block⟩⟩
      · have h0 : ws = [] := by
          cases ws with
          | nil => rfl
          | cons a l => simp at hp
        subst h0
        have hs := fun fv W => sort0_any (some ⟨w.heap.size + 1, 0, none⟩) 0 fv W
        go_wp2_with (go_at_call 35; refine (hs _ _).mono ?_; rintro e w' ⟨rfl, rfl⟩)
        go_ret
        exact ⟨⟨_, rfl, by omega, ⟨by omega, fun i hi => by simp at hi⟩⟩, HB0.out⟩
end Go.Proofs.YthadehgpeafniabDoor
