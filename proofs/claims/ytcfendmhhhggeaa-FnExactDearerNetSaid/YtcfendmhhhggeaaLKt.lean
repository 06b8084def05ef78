/- The first ways alone, and a copy of ways that is appended to a slice that holds nothing. -/
import Derived.Test.YtcfendmhhhggeaaWN
import Derived.Test.YtcfendmhhhggeaaMA
import Derived.Test.YtcfendmhhhggeaaMC
import Derived.Deep.AppendLies
import Derived.Deep.RegionHeld3
set_option linter.unusedSimpArgs false
set_option linter.unusedVariables false
attribute [local go_sem ↓] Go.wp_at_zero Go.wp_at_succ
namespace Go.Proofs.Ytcfendmhhhggeaa
open Go.ChangeShapes Go.WideShapes Go.ChangeAt Go.RowKit

/-! ### the first ways alone -/
theorem take_at {ws : List Wy} {m k : Nat} (h : k < m) : (ws.take m)[k]? = ws[k]? := by
  rw [List.getElem?_take, if_pos h]
theorem take_net {n : Int} {ws : List Wy} (hn : NetIs n ws) (m : Nat) : NetIs n (ws.take m) :=
  ⟨hn.lo, hn.hi, by have := hn.len; rw [List.length_take]; omega, fun x hx => hn.ok x (List.mem_of_mem_take hx)⟩
theorem take_cost {ws : List Wy} {m : Nat} {t : Int} (t0 : 0 ≤ t) (t1 : t < 2 ^ m) : ∀ d, m + d ≤ ws.length → cost (ws.take (m + d)) t = cost (ws.take m) t
  | 0, _ => rfl
  | d + 1, h => by
    obtain ⟨x, hx⟩ : ∃ x, ws[m + d]? = some x := ⟨_, List.getElem?_eq_getElem (by omega)⟩
    rw [show m + (d + 1) = m + d + 1 from by omega, cost_take ws t (m + d) x hx, take_cost t0 t1 d (by omega), bit_big t0 t1 (by omega)]
    simp
theorem take_costs {ws : List Wy} {m : Nat} {t : Int} (hm : m ≤ ws.length) (t0 : 0 ≤ t) (t1 : t < 2 ^ m) : cost (ws.take m) t = cost ws t := by
  have := take_cost (ws := ws) t0 t1 (ws.length - m) (by omega)
  rw [show m + (ws.length - m) = ws.length from by omega, List.take_length] at this
  exact this.symm
/-! ### memory -/
theorem rw_of_own {w : World} {base : Nat} {tw : TypeId} {A1 : Option Addr} {l1 c1 : Nat} {ws : List Wy} (h : w.ownsRow base tw 3 (.slice A1 l1 c1) ws.length (wyCells ws)) : RW w w.heap.size A1 ws := by
  intro i x hx
  have hl := (List.getElem?_eq_some_iff.1 hx).1
  obtain ⟨g', c', hv, hb, hlt⟩ := h.form (by omega)
  injection hv with hv1 hv2 hv3
  obtain ⟨e0, e1, e2⟩ := wyCells_get ws i x hx
  have hc := h.cells (g := g') (by rw [hv1]; rfl)
  have a0 := hc _ _ e0
  have a1 := hc _ _ e1
  have a2 := hc _ _ e2
  have add0 : ∀ n, (⟨g', 0, none⟩ : Addr).add n = ⟨g', n, none⟩ := fun n => by unfold Addr.add; split <;> simp_all
  rw [add0] at a0 a1 a2
  exact ⟨g', 0, hv1, hlt, by simpa using a0, by simpa using a1, by simpa using a2⟩
theorem wyCells_len : ∀ ws : List Wy, (wyCells ws).length = ws.length * 3
  | [] => rfl
  | x :: ws => by simp only [wyCells, List.length_cons, wyCells_len ws]; omega
theorem wyCells_one : ∀ (ws : List Wy) (u : Value), u ∈ wyCells ws → u.oneCell' = true
  | [], u, h => by cases h
  | x :: ws, u, h => by
    simp only [wyCells, List.mem_cons] at h
    rcases h with rfl | rfl | rfl | h
    · rfl
    · rfl
    · rfl
    · exact wyCells_one ws u h
/-- the cells of ways, as they lie in memory -/
theorem wyCells_mem {w : World} {b : Nat} : ∀ (ws : List Wy) (o : Nat), (∀ i x, ws[i]? = some x → w.cell? ⟨b, o + i * 3, none⟩ = some (.int .i64 x.a) ∧ w.cell? ⟨b, o + i * 3 + 1, none⟩ = some (.int .i64 x.b) ∧ w.cell? ⟨b, o + i * 3 + 2, none⟩ = some (.int .i64 x.c)) →
    ∀ j u, (wyCells ws)[j]? = some u → w.cell? ⟨b, o + j, none⟩ = some u
  | [], _, _, j, u, h => by simp [wyCells] at h
  | x :: ws, o, hc, j, u, h => by
    obtain ⟨h0, h1, h2⟩ := hc 0 x (by simp)
    simp only [wyCells] at h
    match j, h with
    | 0, h => simp at h; subst h; simpa using h0
    | 1, h => simp at h; subst h; simpa using h1
    | 2, h => simp at h; subst h; simpa using h2
    | j + 3, h =>
      simp only [List.getElem?_cons_succ] at h
      have := wyCells_mem ws (o + 3) (fun i y hy => by
        obtain ⟨g0, g1, g2⟩ := hc (i + 1) y (by simpa using hy)
        rw [show o + (i + 1) * 3 = o + 3 + i * 3 from by omega] at g0 g1 g2
        exact ⟨g0, g1, g2⟩) j u h
      rw [show o + 3 + j = o + (j + 3) from by omega] at this
      exact this
theorem RW.news {w : World} {B b o : Nat} {ws : List Wy} (h : RW w B (some ⟨b, o, none⟩) ws) : ∀ j u, (wyCells ws)[j]? = some u → w.cell? ((⟨b, o, none⟩ : Addr).add j) = some u := fun j u hu => by
  have add0 : (⟨b, o, none⟩ : Addr).add j = ⟨b, o + j, none⟩ := by unfold Addr.add; split <;> simp_all
  rw [add0]
  refine wyCells_mem ws o (fun i x hx => ?_) j u hu
  obtain ⟨b', o', ha, _, g0, g1, g2⟩ := h i x hx
  injection ha with ha; injection ha with e1 e2; subst e1; subst e2
  exact ⟨g0, g1, g2⟩
theorem RW.take {w : World} {B : Nat} {A : Option Addr} {ws : List Wy} (h : RW w B A ws) (m : Nat) : RW w B A (ws.take m) := fun i x hx => by
  have hi : i < m := by
    have := (List.getElem?_eq_some_iff.1 hx).1
    rw [List.length_take] at this; omega
  rw [take_at hi] at hx
  exact h i x hx

/-- a copy is appended to a slice that holds nothing -/
theorem step_append_copy {P : Program} {ops : Array Oper} {w : World} {o : Oper} {a : Act} {K : Act → World → Prop} {Q : Exit → Act → World → Prop} {E : Prop} (hgd : o.guard = none) (s x : Operand) (t : TypeId)
    (ho : o.op = .call { callee := .builtin .append, args := #[s, x], argTypes := #[t, t] })
    (base : Nat) (e : TypeId) (i : TypeInfo) (z : Value) (size bytes : Nat) (ht : P.underlying t = some (.slice e)) (hi : P.info? e = some i) (hz : i.zero = some z)
    (hsize : i.size = size) (hby : i.bytes = bytes) (hzs : z.cells.size = size) (hsz : 0 < size)
    (v : Value) (hs : a.eval s = v) (hown : w.ownsRow base e size v 0 [])
    (ad : Addr) (m c : Nat) (news : List Value) (hx : a.eval x = .slice (some ad) m c) (hl : news.length = m * size) (hnews : ∀ j u, news[j]? = some u → w.cell? (ad.add j) = some u) (h1 : ∀ u ∈ news, u.oneCell' = true)
    (h63 : m ≤ maxLen) (hbytes : m * bytes ≤ 140737488355328) (hbase : base ≤ w.heap.size)
    (H : Nat) (hH : w.heap.size = H) (h : ∀ A1 c1 w', w'.ownsRow base e size (.slice A1 m c1) m news → w.grownBy w' v.ownBlock → ((Value.slice A1 m c1).ownBlock = v.ownBlock ∨ (Value.slice A1 m c1).ownBlock = some H) → K (a.put o.dst (.slice A1 m c1)) w') :
    if Region.wanted o (yielded ops a.tmps) = true then Oper.wp P o a w K Q else E := by
  have hw : Region.wanted o (yielded ops a.tmps) = true := by simp [Region.wanted, hgd]
  rw [if_pos hw]
  obtain ⟨v', w', hr, h2, h3, _, h5⟩ := run_append_own_at (P := P) w base t o.type e i z size bytes ht hi hz hsize hby hzs hsz v 0 [] hown ad m c news hl hnews h1 (by omega) (by simpa using hbytes) hbase
  rw [Nat.zero_add, List.nil_append] at h2
  obtain ⟨A1, c1, rfl⟩ : ∃ A1 c1, v' = .slice A1 m c1 := by
    rcases h2.2 with ⟨hv, h0⟩ | ⟨g', c, cur, hv, _⟩
    · exact ⟨none, 0, by rw [hv, h0]⟩
    · exact ⟨_, c, hv⟩
  unfold Oper.wp execOp
  simp only [ho, resolve, invoke, builtin, Sem.run_bind, Sem.run_pure, Result.andThen_ok, List.map_toArray, List.map_cons, List.map_nil, hs, hx, hr]
  rw [hH] at h5
  exact h A1 c1 w' h2 h3 h5
theorem fin_store {w2 w3 : World} {Bx : Nat} {A1 : Option Addr} {ws : List Wy} {x0 x1 v0 v1 : Value} {t : TypeId} (hlow : Below w2.heap.size w2 w3) (hBx : w2.heap.size ≤ Bx) (hblk : w3.heap[Bx]? = some (.cells #[x0, x1] t (0, 0))) (hrw : RW w3 w3.heap.size A1 ws)
    (hne : ∀ b o, A1 = some ⟨b, o, none⟩ → b ≠ Bx) :
    Below w2.heap.size w2 ((w3.setCell ⟨Bx, 0, none⟩ v0).setCell ⟨Bx, 1, none⟩ v1) ∧ ((w3.setCell ⟨Bx, 0, none⟩ v0).setCell ⟨Bx, 1, none⟩ v1).cell? ⟨Bx, 0, none⟩ = some v0 ∧ ((w3.setCell ⟨Bx, 0, none⟩ v0).setCell ⟨Bx, 1, none⟩ v1).cell? ⟨Bx, 1, none⟩ = some v1 ∧
      RW ((w3.setCell ⟨Bx, 0, none⟩ v0).setCell ⟨Bx, 1, none⟩ v1) ((w3.setCell ⟨Bx, 0, none⟩ v0).setCell ⟨Bx, 1, none⟩ v1).heap.size A1 ws ∧ Bx < ((w3.setCell ⟨Bx, 0, none⟩ v0).setCell ⟨Bx, 1, none⟩ v1).heap.size := by
  obtain ⟨t0, t1⟩ := two_cells (v0 := v0) (v1 := v1) hblk
  have hl := (Array.getElem?_eq_some_iff.1 hblk).1
  refine ⟨⟨hlow.os, hlow.tape, hlow.output, by have := hlow.size; simpa [World.setCell] using this, fun k hk => ?_⟩, t0, t1, fun i x hx => ?_, by simpa [World.setCell] using hl⟩
  · rw [Below.heap_setCell _ _ _ _ (by simp; omega), Below.heap_setCell _ _ _ _ (by simp; omega)]
    exact hlow.block k hk
  · obtain ⟨b, o, ha, hB, g0, g1, g2⟩ := hrw i x hx
    have hn := hne b o ha
    have hk : ((w3.setCell ⟨Bx, 0, none⟩ v0).setCell ⟨Bx, 1, none⟩ v1).heap[b]? = w3.heap[b]? := (Below.heap_setCell _ _ _ _ hn).trans (Below.heap_setCell _ _ _ _ hn)
    exact ⟨b, o, ha, by simpa [World.setCell] using hB, (World.cell?_of_block (w := w3) hk).trans g0, (World.cell?_of_block (w := w3) hk).trans g1, (World.cell?_of_block (w := w3) hk).trans g2⟩
theorem below_app {H : Nat} {w0 W w3 : World} (h : Below w0.heap.size w0 W) (hg : W.grownBy w3 (some H)) (hB : w0.heap.size ≤ H) : Below w0.heap.size w0 w3 :=
  ⟨hg.os.trans h.os, hg.tape.trans h.tape, hg.output.trans h.output, Nat.le_trans h.size hg.size, fun k hk => (hg.block k (Nat.lt_of_lt_of_le hk h.size) (by intro e; injection e with e; omega)).trans (h.block k hk)⟩
theorem frozen_of {w : World} {b : Nat} {c : Array Value} {t : TypeId} (h : w.heap[b]? = some (.cells c t (0, 0))) (o : Nat) : w.frozen? ⟨b, o, none⟩ = false := by simp [World.frozen?, h]
theorem emptyWays (W : World) : (Instr.buildSlice 26 0 #[]).run Try.prog W = .ok (.slice (some ⟨W.heap.size, 0, none⟩) 0 0) (W.alloc (.cells #[] 39)) := by kernel_rfl

end Go.Proofs.Ytcfendmhhhggeaa
