/- Drawn nets with drawn sets. -/
import Derived.Test.YthadehgpeafniaaWH
set_option linter.unusedSimpArgs false
set_option linter.unusedVariables false
attribute [local go_sem ↓] Go.wp_at_zero Go.wp_at_succ
namespace Go.Proofs.Ythadehgpeafniaa
open Go.ChangeShapes Go.WideShapes Go.ChangeAt Go.RowKit

/-- a drawn net and a set: the reader at g has read on -/
def SetPost (w : World) (t : TypeId) (g : Nat) (A : Option Addr) (len cap : Nat) (m : Int) (e : Ending) (w' : World) : Prop :=
  ∃ (nn s : Int) (A' : Option Addr) (c' : Nat) (ws : List Wy), e = .returned (.tuple #[.agg #[.int .i64 nn, .slice A' ws.length c'], .int .i64 s]) ∧ RW w' w'.heap.size A' ws ∧ (∀ ad, A' = some ad → w.heap.size ≤ ad.block) ∧
    ws.length ≤ 10 ∧ ws.length ≤ c' ∧ 0 ≤ nn ∧ nn ≤ 7 ∧ 0 ≤ s ∧ s ≤ 2000 ∧ RdrE w' t g A len cap (m + 50) ∧ w.grownBy w' (some g)

section
variable {w1 w2 w3 : World} {g h : Nat} {x0 x1 : Value} {t : TypeId}
theorem set_a (hg2 : (w1.alloc (.cells #[x0, x1] t)).drew.grownBy w2 (some g)) (hgl : g < w1.heap.size) : w2.cell? ⟨w1.heap.size, 0, none⟩ = some x0 ∧ w2.cell? ⟨w1.heap.size, 1, none⟩ = some x1 := by
  have e : w2.heap[w1.heap.size]? = some (.cells #[x0, x1] t (0, 0)) := by
    rw [hg2.block _ (by simp) (by intro e; injection e; omega)]
    exact heap_alloc_new w1 _
  exact ⟨cell_of_row _ _ 0 _ _ (0, 0) e, cell_of_row _ _ 1 _ _ (0, 0) e⟩
theorem set_z {o : Obj} (hs : w2.heap.size = (w1.alloc o).drew.heap.size) : w1.heap.size < w2.heap.size := by
  rw [hs]; simp
theorem set_b (hk : w2.cell? ⟨h, 0, none⟩ = some x0 ∧ w2.cell? ⟨h, 1, none⟩ = some x1) (hg3 : w2.grownBy w3 (some g)) (hgl : g < h) : w3.cell? ⟨h, 0, none⟩ = some x0 ∧ w3.cell? ⟨h, 1, none⟩ = some x1 := by
  have hne : some h ≠ some g := by intro e; injection e; omega
  exact ⟨hg3.cell hk.1 hne, hg3.cell hk.2 hne⟩
theorem set_c {o o' : Obj} (hr : w1.heap[h]? = some o) (hg2 : (w1.alloc o').drew.grownBy w2 (some g)) (hg3 : w2.grownBy w3 (some g)) (hl : h < w1.heap.size) (hg : g < h) (hz : w1.heap.size < w2.heap.size) : w3.heap[h]? = some o := by
  have hne : some h ≠ some g := by intro e; injection e; omega
  rw [hg3.block h (by omega) hne, hg2.block h (by simp; omega) hne]
  exact (Below.heap_alloc _ _ _ hl).trans hr
theorem set_d (u0 u1 : Value) {k : Nat} (hk : w3.cell? ⟨h, 0, none⟩ = some x0 ∧ w3.cell? ⟨h, 1, none⟩ = some x1) (hne : h ≠ k) :
    ((w3.setCell ⟨k, 0, none⟩ u0).setCell ⟨k, 1, none⟩ u1).cell? ⟨h, 0, none⟩ = some x0 ∧ ((w3.setCell ⟨k, 0, none⟩ u0).setCell ⟨k, 1, none⟩ u1).cell? ⟨h, 1, none⟩ = some x1 := by
  have e : ((w3.setCell ⟨k, 0, none⟩ u0).setCell ⟨k, 1, none⟩ u1).heap[h]? = w3.heap[h]? := (Below.heap_setCell _ _ _ _ hne).trans (Below.heap_setCell _ _ _ _ hne)
  exact ⟨(World.cell?_of_block (w := w3) e).trans hk.1, (World.cell?_of_block (w := w3) e).trans hk.2⟩
theorem set_f (i : Nat) {cs : Array Value} (hr : w3.heap[h]? = some (.cells cs t (0, 0))) : w3.frozen? ⟨h, i, none⟩ = false := by simp [World.frozen?, hr]
end

set_option maxHeartbeats 2000000 in
theorem l20Set_any (g : Nat) (A : Option Addr) (len cap : Nat) (m n : Int) (w : World) (hr : RdrE w 64 g A len cap m) (hm : m ≤ 800000) (h1 : 1 ≤ n) (hn : n ≤ 1048576) :
    Calls Try.prog 34 #[.pointer (some ⟨g, 0, none⟩), .int .i64 n] w (SetPost w 64 g A len cap m) := by
  have hg := hr.lt
  have HR := Lib.hid hr
  clear hr
  go_enter Try.func34, Try.ntmps34
  go_wp2_with fail
  refine (l20Net_any g A len cap m n _ (HR.out.below (by go_grown)) (by omega) h1 hn).mono ?_
  rintro e w1 ⟨nn, A', c', ws, rfl, hrw, hA', hl10, hcc, hn0, hn7, hr1, hg1⟩
  have hsz1 : w.heap.size < w1.heap.size := by have := hg1.size; simp at this; omega
  have hres : w1.heap[w.heap.size]? = some (.cells #[.int .i64 0, .slice none 0 0] 25 (0, 0)) := by
    rw [hg1.block _ (by simp) (by intro e; injection e; omega)]
    exact heap_alloc_new w _
  have HG1 := Lib.hid (only_trans (only_below ((Below.refl w.heap.size w).alloc (Nat.le_refl _) (.cells #[.int .i64 0, .slice none 0 0] 25)) (some g)) hg1)
  have HR1 := Lib.hid hr1
  have HRES := Lib.hid hres
  have HRW := Lib.hid hrw
  have hgl : g < w1.heap.size := by omega
  clear hg1 hr1 hres hrw
  have a0 : w1.cell? ⟨w.heap.size, 0, none⟩ = some (.int .i64 0) := cell_of_row _ _ 0 _ _ (0, 0) HRES.out
  have hz1 : w1.heap.size ≠ w.heap.size := by omega
  have hNb : 1 ≤ IntKind.i64.wrap (2 ^ (if 9 < (ws.length : Int) then (9 : Int) else (ws.length : Int)).toNat) ∧ IntKind.i64.wrap (2 ^ (if 9 < (ws.length : Int) then (9 : Int) else (ws.length : Int)).toNat) ≤ 512 := by
    have hb := pow_bd (if 9 < (ws.length : Int) then (9 : Int) else (ws.length : Int)) 9 (by split <;> omega)
    rw [IntWalk.i64_in _ ⟨by omega, by omega⟩]
    omega
  have HGE := Lib.hid hNb.1
  have H512 := Lib.hid hNb.2
  clear hNb
  by_cases h9 : 9 < (ws.length : Int)
  · have hN : IntKind.i64.wrap 512 = 512 := IntWalk.i64_in _ ⟨by omega, by omega⟩
    have HGE : Hid (1 ≤ IntKind.i64.wrap 512) := by
      show 1 ≤ IntKind.i64.wrap 512
      rw [hN]; omega
    have H512 : Hid (IntKind.i64.wrap 512 ≤ 512) := by
      show IntKind.i64.wrap 512 ≤ 512
      rw [hN]; omega
    clear hN
    go_wp2_with fail
    go_region_held3 (fun w' => w'.cell? ⟨w1.heap.size, 0, none⟩ = some (.int .i64 nn) ∧ w'.cell? ⟨w1.heap.size, 1, none⟩ = some (.slice A' ws.length c'))
      (first | exact hk5 | exact hk3 | exact hk2 | exact ⟨cell_of_row _ _ 0 _ _ (0, 0) (heap_alloc_new w1 _), cell_of_row _ _ 1 _ _ (0, 0) (heap_alloc_new w1 _)⟩)
      (first
        | (go_at_call 50; (with_reducible refine (pickE g A len cap (m + 40) _ (w1.alloc (.cells #[.int .i64 nn, .slice A' ws.length c'] 25)).drew (HR1.out.below (by go_grown)) (by omega) (by have := H512.out; omega)).mono ?_); rintro e w2 ⟨q1, rfl, hq10, hq11, hr2, hg2, hs2⟩; have hq12 : q1 < 512 := Int.lt_of_lt_of_le (hq11 HGE.out) H512.out; have hk2 := set_a hg2 hgl; have hz2 : w1.heap.size < w2.heap.size := set_z hs2; clear hq11 hs2)
        | (go_at_call 50; (with_reducible refine (pickE g A len cap (m + 40 + 1) 40 w2 hr2 (by omega) (by omega)).mono ?_); rintro e w3 ⟨q2, rfl, hq20, hq21, hr3, hg3, hs3⟩; have hq22 := hq21 (by omega); have hk3 := set_b hk2 hg3 hgl; have hr3' := set_c HRES.out hg2 hg3 hsz1 hg hz2; have hk5 := set_d (.int .i64 nn) (.slice A' ws.length c') hk3 hz1; have hz3 : w1.heap.size < w3.heap.size := hs3 ▸ hz2; have T := Lib.hid (two_cells (v0 := .int .i64 nn) (v1 := .slice A' ws.length c') hr3'); have z0 : w3.cell? ⟨w.heap.size, 0, none⟩ = some (.int .i64 0) := cell_of_row _ _ 0 _ _ (0, 0) hr3'; have z1 : w3.cell? ⟨w.heap.size, 1, none⟩ = some (.slice none 0 0) := cell_of_row _ _ 1 _ _ (0, 0) hr3'; have z2 := set_f 0 hr3'; have z3 := set_f 1 hr3'; clear hq21 hs3))
    obtain ⟨t, ht⟩ : ∃ t : Int, q2.tdiv 39 = t := ⟨_, rfl⟩
    have ht0 : 0 ≤ t ∧ t ≤ 1 := by rw [← ht, Int.tdiv_eq_ediv_of_nonneg hq20]; omega
    have e1 : IntKind.i64.wrap (q2.tdiv 39) = t := by rw [ht]; exact IntWalk.i64_in _ ⟨by omega, by omega⟩
    have e2 : IntKind.i64.wrap (t * 1024) = t * 1024 := IntWalk.i64_in _ ⟨by omega, by omega⟩
    have e3 : IntKind.i64.wrap (q1 + t * 1024) = q1 + t * 1024 := IntWalk.i64_in _ ⟨by omega, by omega⟩
    have hrw3 : RW w3 w3.heap.size A' ws := by
      intro i x hx
      obtain ⟨b, o, ha, hB, g0, g1, g2⟩ := HRW.out i x hx
      have hbb := hA' _ ha
      simp at hbb
      have hk : w3.heap[b]? = w1.heap[b]? := by
        rw [hg3.block _ (by omega) (by intro e; injection e; omega), hg2.block _ (by simp; omega) (by intro e; injection e; omega)]
        exact Below.heap_alloc _ _ _ hB
      exact ⟨b, o, ha, by omega, (World.cell?_of_block (w := w1) hk).trans g0, (World.cell?_of_block (w := w1) hk).trans g1, (World.cell?_of_block (w := w1) hk).trans g2⟩
    have HRW3 := Lib.hid hrw3
    have HR3 := Lib.hid hr3
    have HG3 := Lib.hid (only_trans (only_trans (only_drew (only_alloc HG1.out (.cells #[.int .i64 nn, .slice A' ws.length c'] 25))) hg2) hg3)
    clear hrw3 hr3 hg2 hg3 hr2 hk2 hk3 hk5 hr3' ht
    go_wp2_with fail
    obtain ⟨t0, t1⟩ := T.out
    refine bodyPost_ret (v := .tuple #[.agg #[.int .i64 nn, .slice A' ws.length c'], .int .i64 (q1 + t * 1024)]) (by simp [results, Try.results34, go_sem, t0, t1, e1, e2, e3]) rfl
      ⟨nn, q1 + t * 1024, A', c', ws, rfl, ?_, (fun ad h => by have := hA' ad h; simp at this; omega), hl10, hcc, hn0, hn7, by omega, by omega, ?_, only_setCell (only_setCell HG3.out (.inr (by simp)) _) (.inr (by simp)) _⟩
    · intro i x hx
      obtain ⟨b, o, ha, hB, g0, g1, g2⟩ := HRW3.out i x hx
      have hbb := hA' _ ha
      simp at hbb
      have hk : ((w3.setCell ⟨w.heap.size, 0, none⟩ (.int .i64 nn)).setCell ⟨w.heap.size, 1, none⟩ (.slice A' ws.length c')).heap[b]? = w3.heap[b]? := (Below.heap_setCell _ _ _ _ (by simp; omega)).trans (Below.heap_setCell _ _ _ _ (by simp; omega))
      exact ⟨b, o, ha, by simpa [World.setCell] using hB, (World.cell?_of_block (w := w3) hk).trans g0, (World.cell?_of_block (w := w3) hk).trans g1, (World.cell?_of_block (w := w3) hk).trans g2⟩
    · exact (HR3.out.keep fun k hk => (Below.heap_setCell _ _ _ _ (by simp; omega)).trans (Below.heap_setCell _ _ _ _ (by simp; omega))).more (by omega)
  · go_wp2_with fail
    go_region_held3 (fun w' => w'.cell? ⟨w1.heap.size, 0, none⟩ = some (.int .i64 nn) ∧ w'.cell? ⟨w1.heap.size, 1, none⟩ = some (.slice A' ws.length c'))
      (first | exact hk5 | exact hk3 | exact hk2 | exact ⟨cell_of_row _ _ 0 _ _ (0, 0) (heap_alloc_new w1 _), cell_of_row _ _ 1 _ _ (0, 0) (heap_alloc_new w1 _)⟩)
      (first
        | (go_at_call 50; (with_reducible refine (pickE g A len cap (m + 40) _ (w1.alloc (.cells #[.int .i64 nn, .slice A' ws.length c'] 25)).drew (HR1.out.below (by go_grown)) (by omega) (by have := H512.out; omega)).mono ?_); rintro e w2 ⟨q1, rfl, hq10, hq11, hr2, hg2, hs2⟩; have hq12 : q1 < 512 := Int.lt_of_lt_of_le (hq11 HGE.out) H512.out; have hk2 := set_a hg2 hgl; have hz2 : w1.heap.size < w2.heap.size := set_z hs2; clear hq11 hs2)
        | (go_at_call 50; (with_reducible refine (pickE g A len cap (m + 40 + 1) 40 w2 hr2 (by omega) (by omega)).mono ?_); rintro e w3 ⟨q2, rfl, hq20, hq21, hr3, hg3, hs3⟩; have hq22 := hq21 (by omega); have hk3 := set_b hk2 hg3 hgl; have hr3' := set_c HRES.out hg2 hg3 hsz1 hg hz2; have hk5 := set_d (.int .i64 nn) (.slice A' ws.length c') hk3 hz1; have hz3 : w1.heap.size < w3.heap.size := hs3 ▸ hz2; have T := Lib.hid (two_cells (v0 := .int .i64 nn) (v1 := .slice A' ws.length c') hr3'); have z0 : w3.cell? ⟨w.heap.size, 0, none⟩ = some (.int .i64 0) := cell_of_row _ _ 0 _ _ (0, 0) hr3'; have z1 : w3.cell? ⟨w.heap.size, 1, none⟩ = some (.slice none 0 0) := cell_of_row _ _ 1 _ _ (0, 0) hr3'; have z2 := set_f 0 hr3'; have z3 := set_f 1 hr3'; clear hq21 hs3))
    obtain ⟨t, ht⟩ : ∃ t : Int, q2.tdiv 39 = t := ⟨_, rfl⟩
    have ht0 : 0 ≤ t ∧ t ≤ 1 := by rw [← ht, Int.tdiv_eq_ediv_of_nonneg hq20]; omega
    have e1 : IntKind.i64.wrap (q2.tdiv 39) = t := by rw [ht]; exact IntWalk.i64_in _ ⟨by omega, by omega⟩
    have e2 : IntKind.i64.wrap (t * 1024) = t * 1024 := IntWalk.i64_in _ ⟨by omega, by omega⟩
    have e3 : IntKind.i64.wrap (q1 + t * 1024) = q1 + t * 1024 := IntWalk.i64_in _ ⟨by omega, by omega⟩
    have hrw3 : RW w3 w3.heap.size A' ws := by
      intro i x hx
      obtain ⟨b, o, ha, hB, g0, g1, g2⟩ := HRW.out i x hx
      have hbb := hA' _ ha
      simp at hbb
      have hk : w3.heap[b]? = w1.heap[b]? := by
        rw [hg3.block _ (by omega) (by intro e; injection e; omega), hg2.block _ (by simp; omega) (by intro e; injection e; omega)]
        exact Below.heap_alloc _ _ _ hB
      exact ⟨b, o, ha, by omega, (World.cell?_of_block (w := w1) hk).trans g0, (World.cell?_of_block (w := w1) hk).trans g1, (World.cell?_of_block (w := w1) hk).trans g2⟩
    have HRW3 := Lib.hid hrw3
    have HR3 := Lib.hid hr3
    have HG3 := Lib.hid (only_trans (only_trans (only_drew (only_alloc HG1.out (.cells #[.int .i64 nn, .slice A' ws.length c'] 25))) hg2) hg3)
    clear hrw3 hr3 hg2 hg3 hr2 hk2 hk3 hk5 hr3' ht
    go_wp2_with fail
    obtain ⟨t0, t1⟩ := T.out
    refine bodyPost_ret (v := .tuple #[.agg #[.int .i64 nn, .slice A' ws.length c'], .int .i64 (q1 + t * 1024)]) (by simp [results, Try.results34, go_sem, t0, t1, e1, e2, e3]) rfl
      ⟨nn, q1 + t * 1024, A', c', ws, rfl, ?_, (fun ad h => by have := hA' ad h; simp at this; omega), hl10, hcc, hn0, hn7, by omega, by omega, ?_, only_setCell (only_setCell HG3.out (.inr (by simp)) _) (.inr (by simp)) _⟩
    · intro i x hx
      obtain ⟨b, o, ha, hB, g0, g1, g2⟩ := HRW3.out i x hx
      have hbb := hA' _ ha
      simp at hbb
      have hk : ((w3.setCell ⟨w.heap.size, 0, none⟩ (.int .i64 nn)).setCell ⟨w.heap.size, 1, none⟩ (.slice A' ws.length c')).heap[b]? = w3.heap[b]? := (Below.heap_setCell _ _ _ _ (by simp; omega)).trans (Below.heap_setCell _ _ _ _ (by simp; omega))
      exact ⟨b, o, ha, by simpa [World.setCell] using hB, (World.cell?_of_block (w := w3) hk).trans g0, (World.cell?_of_block (w := w3) hk).trans g1, (World.cell?_of_block (w := w3) hk).trans g2⟩
    · exact (HR3.out.keep fun k hk => (Below.heap_setCell _ _ _ _ (by simp; omega)).trans (Below.heap_setCell _ _ _ _ (by simp; omega))).more (by omega)
end Go.Proofs.Ythadehgpeafniaa
