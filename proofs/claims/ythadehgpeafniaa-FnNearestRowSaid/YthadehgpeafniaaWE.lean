/- The reader of a code. -/
import Derived.Test.YthadehgpeafniaaMD
set_option linter.unusedSimpArgs false
set_option linter.unusedVariables false
namespace Go.Proofs.Ythadehgpeafniaa
open Go.ChangeShapes Go.WideShapes Go.ChangeAt Go.RowKit

def PickPost (g : Nat) (p n : Int) (w : World) (e : Ending) (w' : World) : Prop :=
  ∃ (q : Int) (k : Nat), e = .returned (.int .i64 q) ∧ 0 ≤ q ∧ (1 ≤ n → q < n) ∧ (n < 1 → q = 0) ∧ w' = (w.setCell ⟨g, 1, none⟩ (.int .i64 (p + 1))).drewN k

set_option maxHeartbeats 400000 in
theorem pick_any (g : Nat) (A : Option Addr) (len cap : Nat) (p n : Int) (w : World) (hr : Rdr w 64 g A len cap p) (hp : p ≤ 1000000) (hn : n ≤ 1048576) :
    Calls Try.prog 50 #[.pointer (some ⟨g, 0, none⟩), .int .i64 n] w (PickPost g p n w) := by
  have HR := Lib.hid hr
  obtain ⟨c0, c1, f0, f1, hg⟩ := hr.cells
  have hlen := hr.len
  have hlo := hr.lo
  clear hr
  by_cases hn1 : n < 1
  · go_enter Try.func50, Try.ntmps50
    go_wp2
    go_ret
    exact ⟨0, 0, rfl, by omega, by omega, fun _ => rfl, rfl⟩
  · by_cases hl0 : len = 0
    · subst hl0
      go_enter Try.func50, Try.ntmps50
      go_wp2
      go_ret
      exact ⟨0, 0, rfl, by omega, by omega, fun _ => rfl, rfl⟩
    · have hl1 : ((len : Int) == 0) = false := by simp; omega
      by_cases hpl : p < len
      · obtain ⟨b, o, v, rfl, hb, hv0, hv1, hc⟩ := HR.out.byt p.toNat (by omega)
        have hne : b ≠ g := by omega
        go_enter Try.func50, Try.ntmps50
        go_wp2
        go_ret
        have h0 := Int.emod_nonneg v (show n ≠ 0 by omega)
        have h1 := Int.emod_lt_of_pos v (show 0 < n by omega)
        exact ⟨_, 0, rfl, h0, fun _ => h1, by omega, rfl⟩
      · obtain ⟨j1, hj1⟩ : ∃ j : Nat, p.tmod (len : Int) = (j : Int) := ⟨(p.tmod len).toNat, by have := Int.tmod_nonneg (len : Int) hlo; omega⟩
        obtain ⟨j2, hj2⟩ : ∃ j : Nat, (p * 7 + 3).tmod (len : Int) = (j : Int) := ⟨((p * 7 + 3).tmod len).toNat, by have := Int.tmod_nonneg (len : Int) (show 0 ≤ p * 7 + 3 by omega); omega⟩
        obtain ⟨q, hq⟩ : ∃ j : Nat, p.tdiv (len : Int) = (j : Int) := ⟨(p.tdiv len).toNat, by have := Int.tdiv_nonneg hlo (show (0:Int) ≤ len by omega); omega⟩
        have hqp : (q : Int) ≤ p := by rw [← hq]; exact Int.tdiv_le_self len hlo
        have hlt1 : j1 < len := by have := Int.tmod_lt_of_pos p (show (0:Int) < len by omega); omega
        have hlt2 : j2 < len := by have := Int.tmod_lt_of_pos (p * 7 + 3) (show (0:Int) < len by omega); omega
        obtain ⟨b, o, v1, rfl, hb, hv0, hv1, hcc1⟩ := HR.out.byt j1 hlt1
        obtain ⟨b', o', v2, hA, hb', hw0, hw1, hcc2⟩ := HR.out.byt j2 hlt2
        obtain ⟨rfl, rfl⟩ : b = b' ∧ o = o' := by simpa using hA
        clear hA
        have hne : b ≠ g := by omega
        have s1 : IntKind.i64.wrap (p * 7) = p * 7 := IntWalk.i64_in _ ⟨by omega, by omega⟩
        have s2 : IntKind.i64.wrap (p * 7 + 3) = p * 7 + 3 := IntWalk.i64_in _ ⟨by omega, by omega⟩
        have s3 : IntKind.i64.wrap (v1 * 131) = v1 * 131 := IntWalk.i64_in _ ⟨by omega, by omega⟩
        have s4 : IntKind.i64.wrap (v2 * 1117) = v2 * 1117 := IntWalk.i64_in _ ⟨by omega, by omega⟩
        have s5 : IntKind.i64.wrap (v1 * 131 + v2 * 1117) = v1 * 131 + v2 * 1117 := IntWalk.i64_in _ ⟨by omega, by omega⟩
        have s6 : IntKind.i64.wrap (p * 29) = p * 29 := IntWalk.i64_in _ ⟨by omega, by omega⟩
        have s7 : IntKind.i64.wrap (v1 * 131 + v2 * 1117 + p * 29) = v1 * 131 + v2 * 1117 + p * 29 := IntWalk.i64_in _ ⟨by omega, by omega⟩
        have s8 : IntKind.i64.wrap ((q : Int) * 53) = (q : Int) * 53 := IntWalk.i64_in _ ⟨by omega, by omega⟩
        have s9 : IntKind.i64.wrap (v1 * 131 + v2 * 1117 + p * 29 + (q : Int) * 53) = v1 * 131 + v2 * 1117 + p * 29 + (q : Int) * 53 := IntWalk.i64_in _ ⟨by omega, by omega⟩
        obtain ⟨x, hx⟩ : ∃ x : Int, v1 * 131 + v2 * 1117 + p * 29 + (q : Int) * 53 = x := ⟨_, rfl⟩
        have hx0 : 0 ≤ x := by omega
        have hx1 : x ≤ 1000000000 := by omega
        have hxb := xor_bd x (x / 64) hx0 hx1 (by omega) (by omega)
        obtain ⟨y, hy⟩ : ∃ y : Int, bits .xor .i64 x (x / 64) = y := ⟨_, rfl⟩
        rw [hy] at hxb
        obtain ⟨hy0, hy1⟩ := hxb
        have HXX := Lib.hid hx
        clear hx
        go_enter Try.func50, Try.ntmps50
        go_wp2
        go_quiet (fail)
        have hx := HXX.out
        clear s1 s2 s3 s4 s5 s6 s7 s8 s9 hj1 hj2 hq
        go_wp2
        go_ret
        have h0 := Int.emod_nonneg y (show n ≠ 0 by omega)
        have h1 := Int.emod_lt_of_pos y (show 0 < n by omega)
        exact ⟨_, _, rfl, h0, fun _ => h1, by omega, rfl⟩

/-- the reader read one byte more, and nothing else was written -/
def PickE (t : TypeId) (g : Nat) (A : Option Addr) (len cap : Nat) (m n : Int) (w : World) (e : Ending) (w' : World) : Prop :=
  ∃ q : Int, e = .returned (.int .i64 q) ∧ 0 ≤ q ∧ (1 ≤ n → q < n) ∧ RdrE w' t g A len cap (m + 1) ∧ w.grownBy w' (some g) ∧ w'.heap.size = w.heap.size

theorem pickE (g : Nat) (A : Option Addr) (len cap : Nat) (m n : Int) (w : World) (hr : RdrE w 64 g A len cap m) (hm : m ≤ 1000000) (hn : n ≤ 1048576) :
    Calls Try.prog 50 #[.pointer (some ⟨g, 0, none⟩), .int .i64 n] w (PickE 64 g A len cap m n w) := by
  obtain ⟨p, hp, hr⟩ := hr
  refine (pick_any g A len cap p n w hr (by omega) hn).mono ?_
  rintro e w' ⟨q, k, rfl, hq0, hq1, hq2, rfl⟩
  have hset : ((w.setCell ⟨g, 1, none⟩ (.int .i64 (p + 1))).drewN k).heap[g]? = some (.cells #[.slice A len cap, .int .i64 (p + 1)] 64 (0, 0)) := by
    show (w.setCell ⟨g, 1, none⟩ (.int .i64 (p + 1))).heap[g]? = _
    simp [World.setCell, Array.getElem?_modify, hr.blk]
  refine ⟨q, rfl, hq0, hq1, ⟨p + 1, by omega, ⟨hset, fun i hi => ?_, hr.len, by have := hr.lo; omega⟩⟩, only_drewN (only_setCell (World.grownBy.refl w _) (.inl rfl) _) _, by simp [World.setCell]⟩
  obtain ⟨b, o, v, ha, hB, h0, h1, h2⟩ := hr.byt i hi
  refine ⟨b, o, v, ha, hB, h0, h1, ?_⟩
  show (w.setCell ⟨g, 1, none⟩ (.int .i64 (p + 1))).cell? ⟨b, o + i, none⟩ = _
  rw [World.cell?_of_block (w := w) (Below.heap_setCell w _ _ b (by simp; omega))]
  exact h2

/-- a truth, one byte more at the most -/
def OddE (t : TypeId) (g : Nat) (A : Option Addr) (len cap : Nat) (m : Int) (w : World) (e : Ending) (w' : World) : Prop :=
  ∃ q : Bool, e = .returned (.bool q) ∧ RdrE w' t g A len cap (m + 1) ∧ w.grownBy w' (some g) ∧ w'.heap.size = w.heap.size
theorem oddE (g : Nat) (A : Option Addr) (len cap : Nat) (m n : Int) (w : World) (hr : RdrE w 64 g A len cap m) (hm : m ≤ 1000000) (h1 : 1 ≤ n) (hn : n ≤ 1048576) :
    Calls Try.prog 64 #[.pointer (some ⟨g, 0, none⟩), .int .i64 n] w (OddE 64 g A len cap m w) := by
  go_enter Try.func64, Try.ntmps64
  go_wp2_with fail
  refine (pickE g A len cap m n w hr hm hn).mono ?_; rintro e w1 ⟨q, rfl, hq0, hq1, hr1, hg1, hs1⟩
  have HG := Lib.hid hg1
  have HS := Lib.hid hs1
  clear hg1 hs1
  go_wp2_with fail
  go_ret
  exact ⟨_, rfl, hr1, HG.out, HS.out⟩

/-- the reader is made -/
def OpenE (t : TypeId) (A : Option Addr) (cap : Nat) (w : World) (e : Ending) (w' : World) : Prop :=
  ∃ len : Nat, e = .returned (.pointer (some ⟨w.heap.size, 0, none⟩)) ∧ RdrE w' t w.heap.size A len cap 0 ∧ Below w.heap.size w w'
theorem openE (A : Option Addr) (len cap : Nat) (w : World) (hr : RB w w.heap.size A len) (hc : len ≤ cap) (hl : len ≤ 1048576) :
    Calls Try.prog 35 #[.slice A len cap] w (OpenE 64 A cap w) := by
  have HR := Lib.hid hr
  clear hr
  have hrdr : ∀ l : Nat, l ≤ len → l ≤ 2000 → Rdr (w.alloc (.cells #[.slice A l cap, .int .i64 0] 64)) 64 w.heap.size A l cap 0 := fun l h1 h2 =>
    ⟨heap_alloc_new w _, fun i hi => (HR.out.below ((Below.refl _ _).alloc (Nat.le_refl _) _)) i (by omega), h2, by omega⟩
  have HH := Lib.hid hrdr
  clear hrdr
  by_cases h2 : 2000 < len
  · go_enter Try.func35, Try.ntmps35
    go_wp2_with fail
    go_ret
    exact ⟨2000, rfl, ⟨0, by omega, HH.out 2000 (by omega) (by omega)⟩, by go_grown⟩
  · go_enter Try.func35, Try.ntmps35
    go_wp2_with fail
    go_ret
    exact ⟨len, rfl, ⟨0, by omega, HH.out len (by omega) (by omega)⟩, by go_grown⟩
end Go.Proofs.Ythadehgpeafniaa
