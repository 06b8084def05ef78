/- What the exact laws call of cuts: copies, and whether they are alike; cuts are marked, and held. -/
import Derived.Test.YtimccjmphdkbjaaDoorXA
import Derived.Test.YtimccjmphdkbjaaDoorMH
import Derived.Deep.AppendLies
import Derived.Deep.RegionHeld3
set_option linter.unusedSimpArgs false
set_option linter.unusedVariables false
attribute [local go_sem ↓] Go.wp_at_zero Go.wp_at_succ
namespace Go.Proofs.YtimccjmphdkbjaaDoor
open Go.ChangeShapes Go.WideShapes Go.ChangeAt Go.RowKit

/-- The slice that begins at A holds the cuts cs (places and weight of each), below block B. -/
def RC (w : World) (B : Nat) (A : Option Addr) (cs : List (Int × Int)) : Prop :=
  ∀ i x, cs[i]? = some x → ∃ b o, A = some ⟨b, o, none⟩ ∧ b < B ∧ w.cell? ⟨b, o + i * 2, none⟩ = some (.int .i64 x.1) ∧ w.cell? ⟨b, o + i * 2 + 1, none⟩ = some (.int .i64 x.2)
theorem RC.below {w w' : World} {B : Nat} {A : Option Addr} {cs : List (Int × Int)} (h : RC w B A cs) (hb : Below B w w') : RC w' B A cs := by
  intro i x hx
  obtain ⟨b, o, ha, hB, h0, h1⟩ := h i x hx
  exact ⟨b, o, ha, hB, (hb.cell hB).trans h0, (hb.cell hB).trans h1⟩
theorem RC.more {w : World} {B B' : Nat} {A : Option Addr} {cs : List (Int × Int)} (h : RC w B A cs) (hB : B ≤ B') : RC w B' A cs := by
  intro i x hx
  obtain ⟨b, o, ha, hb, h'⟩ := h i x hx
  exact ⟨b, o, ha, by omega, h'⟩
theorem RC.later {w w' : World} {A : Option Addr} {cs : List (Int × Int)} (h : RC w w.heap.size A cs) (hb : Below w.heap.size w w') : RC w' w'.heap.size A cs := (h.below hb).more hb.size
theorem RC.drewR {w : World} {B : Nat} {A : Option Addr} {cs : List (Int × Int)} (h : RC w B A cs) : RC w.drew B A cs := h
theorem RC.drewNR {w : World} {A : Option Addr} {cs : List (Int × Int)} (h : RC w w.heap.size A cs) (k : Nat) : RC (w.drewN k) (w.drewN k).heap.size A cs := h
theorem RC.nil_ (w : World) (A : Option Addr) : RC w w.heap.size A [] := fun i x hx => by simp at hx
theorem RC.take {w : World} {B : Nat} {A : Option Addr} {cs : List (Int × Int)} (h : RC w B A cs) (k : Nat) : RC w B A (cs.take k) := by
  intro i x hx
  rw [List.getElem?_take] at hx
  split at hx
  · exact h i x hx
  · cases hx

/-- n cuts, of which the first k are written -/
structure Row2 (w : World) (b : Nat) (t : TypeId) (cs : List (Int × Int)) (k : Nat) : Prop where
  blk : ∃ vs, w.heap[b]? = some (.cells vs t (0, 0)) ∧ vs.size = cs.length * 2 ∧ ∀ i x, i < k → cs[i]? = some x → vs[i * 2]? = some (.int .i64 x.1) ∧ vs[i * 2 + 1]? = some (.int .i64 x.2)
theorem Row2.keep {w w' : World} {b : Nat} {t : TypeId} {cs : List (Int × Int)} {k : Nat} (h : Row2 w b t cs k) (hb : w'.heap[b]? = w.heap[b]?) : Row2 w' b t cs k := by
  obtain ⟨vs, h1, h2⟩ := h.blk
  exact ⟨vs, hb.trans h1, h2⟩
theorem Row2.lt {w : World} {b : Nat} {t : TypeId} {cs : List (Int × Int)} {k : Nat} (h : Row2 w b t cs k) : b < w.heap.size := by
  obtain ⟨vs, h1, h2⟩ := h.blk
  exact (Array.getElem?_eq_some_iff.1 h1).1
theorem Row2.below {w w' : World} {b : Nat} {t : TypeId} {cs : List (Int × Int)} {k : Nat} (h : Row2 w b t cs k) (hb : Below w.heap.size w w') : Row2 w' b t cs k := h.keep (hb.block b h.lt)
theorem Row2.cell {w : World} {b : Nat} {t : TypeId} {cs : List (Int × Int)} {k : Nat} (h : Row2 w b t cs k) (j : Nat) (hj : j < cs.length * 2) : (∃ u, w.cell? ⟨b, j, none⟩ = some u) ∧ w.frozen? ⟨b, j, none⟩ = false := by
  obtain ⟨vs, h1, h2, _⟩ := h.blk
  refine ⟨⟨vs[j]'(by omega), ?_⟩, by simp [World.frozen?, h1]⟩
  rw [cell_of_row _ _ j _ _ (0, 0) h1]
  exact Array.getElem?_eq_getElem (by omega)
theorem Row2.rc {w : World} {b : Nat} {t : TypeId} {cs : List (Int × Int)} (h : Row2 w b t cs cs.length) : RC w w.heap.size (some ⟨b, 0, none⟩) cs := by
  obtain ⟨vs, h1, h2, h3⟩ := h.blk
  intro i x hx
  obtain ⟨g0, g1⟩ := h3 i x (List.getElem?_eq_some_iff.1 hx).1 hx
  refine ⟨b, 0, rfl, h.lt, ?_, ?_⟩
  · rw [cell_of_row _ _ _ _ _ (0, 0) h1]; simpa using g0
  · rw [cell_of_row _ _ _ _ _ (0, 0) h1]; simpa using g1
theorem Row2.write {w : World} {b : Nat} {t : TypeId} {cs : List (Int × Int)} {k : Nat} (h : Row2 w b t cs k) (x : Int × Int) (hx : cs[k]? = some x) :
    Row2 ((w.setCell ⟨b, k * 2, none⟩ (.int .i64 x.1)).setCell ⟨b, k * 2 + 1, none⟩ (.int .i64 x.2)) b t cs (k + 1) := by
  obtain ⟨vs, h1, h2, h3⟩ := h.blk
  have hk := (List.getElem?_eq_some_iff.1 hx).1
  refine ⟨(vs.setIfInBounds (k * 2) (.int .i64 x.1)).setIfInBounds (k * 2 + 1) (.int .i64 x.2), ?_, by simpa using h2, ?_⟩
  · simp [World.setCell, Array.getElem?_modify, h1]
  · intro i y hi hy
    by_cases hik : i = k
    · subst hik
      rw [hx] at hy; injection hy with hy; subst hy
      refine ⟨?_, ?_⟩ <;> simp [Array.getElem?_setIfInBounds] <;> omega
    · obtain ⟨g0, g1⟩ := h3 i y (by omega) hy
      refine ⟨?_, ?_⟩ <;> simp only [Array.getElem?_setIfInBounds] <;> rw [if_neg (by omega), if_neg (by omega)] <;> assumption
theorem Row2.made (w : World) (t : TypeId) (cs : List (Int × Int)) (vs : Array Value) (hs : vs.size = cs.length * 2) : Row2 (w.alloc (.cells vs t)) w.heap.size t cs 0 :=
  ⟨vs, heap_alloc_new w _, hs, fun i x hi => by omega⟩

def RetCuts (cs : List (Int × Int)) (w : World) (e : Ending) (w' : World) : Prop := ∃ b, w.heap.size ≤ b ∧ b < w'.heap.size ∧ e = .returned (.slice (some ⟨b, 0, none⟩) cs.length cs.length) ∧ RC w' w'.heap.size (some ⟨b, 0, none⟩) cs ∧ Below w.heap.size w w'

/-! ### the cells of cuts -/
def ctCells : List (Int × Int) → List Value
  | [] => []
  | x :: cs => .int .i64 x.1 :: .int .i64 x.2 :: ctCells cs
theorem ctCells_snoc (cs : List (Int × Int)) (x : Int × Int) : ctCells (cs ++ [x]) = ctCells cs ++ [.int .i64 x.1, .int .i64 x.2] := by
  induction cs with
  | nil => rfl
  | cons y cs ih => simp [ctCells, ih]
theorem ctCells_len : ∀ cs : List (Int × Int), (ctCells cs).length = cs.length * 2
  | [] => rfl
  | x :: cs => by simp only [ctCells, List.length_cons, ctCells_len cs]; omega
theorem ctCells_one : ∀ (cs : List (Int × Int)) (u : Value), u ∈ ctCells cs → u.oneCell' = true
  | [], u, h => by cases h
  | x :: cs, u, h => by
    simp only [ctCells, List.mem_cons] at h
    rcases h with rfl | rfl | h
    · rfl
    · rfl
    · exact ctCells_one cs u h
theorem ctCells_get : ∀ (cs : List (Int × Int)) (i : Nat) (x : Int × Int), cs[i]? = some x → (ctCells cs)[i * 2]? = some (.int .i64 x.1) ∧ (ctCells cs)[i * 2 + 1]? = some (.int .i64 x.2)
  | [], i, x, h => by simp at h
  | y :: cs, 0, x, h => by
    simp at h; subst h
    exact ⟨rfl, rfl⟩
  | y :: cs, i + 1, x, h => by
    have ih := ctCells_get cs i x (by simpa using h)
    have e0 : (i + 1) * 2 = i * 2 + 1 + 1 := by omega
    rw [e0]
    simpa [ctCells] using ih
theorem ctCells_mem {w : World} {b : Nat} : ∀ (cs : List (Int × Int)) (o : Nat), (∀ i x, cs[i]? = some x → w.cell? ⟨b, o + i * 2, none⟩ = some (.int .i64 x.1) ∧ w.cell? ⟨b, o + i * 2 + 1, none⟩ = some (.int .i64 x.2)) →
    ∀ j u, (ctCells cs)[j]? = some u → w.cell? ⟨b, o + j, none⟩ = some u
  | [], _, _, j, u, h => by simp [ctCells] at h
  | x :: cs, o, hc, j, u, h => by
    obtain ⟨h0, h1⟩ := hc 0 x (by simp)
    simp only [ctCells] at h
    match j, h with
    | 0, h => simp at h; subst h; simpa using h0
    | 1, h => simp at h; subst h; simpa using h1
    | j + 2, h =>
      have ih := ctCells_mem cs (o + 2) (fun i y hy => by
        have := hc (i + 1) y (by simpa using hy)
        rw [show o + (i + 1) * 2 = o + 2 + i * 2 from by omega] at this
        exact this) j u (by simpa using h)
      rw [show o + (j + 2) = o + 2 + j from by omega]; exact ih
theorem RC.news {w : World} {B b o : Nat} {cs : List (Int × Int)} (h : RC w B (some ⟨b, o, none⟩) cs) : ∀ j u, (ctCells cs)[j]? = some u → w.cell? ((⟨b, o, none⟩ : Addr).add j) = some u := fun j u hu => by
  have add0 : (⟨b, o, none⟩ : Addr).add j = ⟨b, o + j, none⟩ := by unfold Addr.add; split <;> simp_all
  rw [add0]
  refine ctCells_mem cs o (fun i x hx => ?_) j u hu
  obtain ⟨b', o', ha, _, g0, g1⟩ := h i x hx
  injection ha with ha; injection ha with e1 e2; subst e1; subst e2
  exact ⟨g0, g1⟩
/-- the numbers of cuts, one after the other -/
def ctF (cs : List (Int × Int)) (j : Nat) : Int := match cs[j / 2]? with
  | some x => if j % 2 = 0 then x.1 else x.2
  | none => 0
theorem ctF_at {cs : List (Int × Int)} {i : Nat} {x : Int × Int} (h : cs[i]? = some x) : ctF cs (i * 2) = x.1 ∧ ctF cs (i * 2 + 1) = x.2 := by
  have e0 : i * 2 / 2 = i := by omega
  have e1 : (i * 2 + 1) / 2 = i := by omega
  unfold ctF
  rw [e0, e1, h]
  simp only
  rw [if_pos (by omega), if_neg (by omega)]
  exact ⟨rfl, rfl⟩
theorem ctF_cells {cs : List (Int × Int)} {j : Nat} (hj : j < cs.length * 2) : (ctCells cs)[j]? = some (.int .i64 (ctF cs j)) := by
  obtain ⟨x, hx⟩ : ∃ x, cs[j / 2]? = some x := ⟨_, List.getElem?_eq_getElem (by omega)⟩
  obtain ⟨g0, g1⟩ := ctCells_get cs (j / 2) x hx
  obtain ⟨f0, f1⟩ := ctF_at hx
  by_cases h : j % 2 = 0
  · rw [show j / 2 * 2 = j from by omega] at g0 f0
    rw [g0, f0]
  · rw [show j / 2 * 2 + 1 = j from by omega] at g1 f1
    rw [g1, f1]
theorem RowF.rc {w : World} {lo hi : Nat} {A : Option Addr} {cs : List (Int × Int)} (h : RowF w lo hi A (cs.length * 2) (ctF cs)) : RC w w.heap.size A cs := by
  intro i x hx
  have hl := (List.getElem?_eq_some_iff.1 hx).1
  obtain ⟨f0, f1⟩ := ctF_at hx
  obtain ⟨b, o, ha, _, hh, c0, _⟩ := h.at_ (i * 2) (by omega)
  obtain ⟨b', o', ha', _, _, c1, _⟩ := h.at_ (i * 2 + 1) (by omega)
  rw [ha] at ha'
  injection ha' with ha'; injection ha' with e1 e2; subst e1; subst e2
  rw [f0] at c0
  rw [f1] at c1
  exact ⟨b, o, ha, Nat.lt_of_lt_of_le hh h.top, c0, c1⟩
theorem rowF_of_cuts {w : World} {base c1 : Nat} {e : TypeId} {A1 : Option Addr} {cs : List (Int × Int)} (h : w.ownsRow base e 2 (.slice A1 cs.length c1) cs.length (ctCells cs)) : RowF w base w.heap.size A1 (cs.length * 2) (ctF cs) := by
  refine ⟨fun j hj => ?_, Nat.le_refl _⟩
  rcases h.2 with ⟨_, h2⟩ | ⟨g, cap, cur, hv, h3, h4, h5, h6, h7, h8⟩
  · omega
  · injection hv with hv1 hv2 hv3
    have hg := (Array.getElem?_eq_some_iff.1 h4).1
    refine ⟨g, 0, hv1, h3, hg, ?_, by simp [World.frozen?, h4]⟩
    rw [cell_of_row _ _ _ _ _ (0, 0) h4, Nat.zero_add, ← Array.getElem?_toList]
    have h9 := ctF_cells hj
    rw [← h8, List.getElem?_take, if_pos hj] at h9
    exact h9
/-- cuts are copied behind a slice that holds nothing -/
theorem wp_append_copy {P : Program} {w : World} {o : Oper} {a : Act} {K : Act → World → Prop} {Q : Exit → Act → World → Prop} (s x : Operand) (t : TypeId)
    (ho : o.op = .call { callee := .builtin .append, args := #[s, x], argTypes := #[t, t] })
    (base : Nat) (e : TypeId) (i : TypeInfo) (z : Value) (size bytes : Nat) (ht : P.underlying t = some (.slice e)) (hi : P.info? e = some i) (hz : i.zero = some z)
    (hsize : i.size = size) (hby : i.bytes = bytes) (hzs : z.cells.size = size) (hsz : 0 < size)
    (v : Value) (hs : a.eval s = v) (hown : w.ownsRow base e size v 0 [])
    (ad : Addr) (m c : Nat) (news : List Value) (hx : a.eval x = .slice (some ad) m c) (hl : news.length = m * size) (hnews : ∀ j u, news[j]? = some u → w.cell? (ad.add j) = some u) (h1 : ∀ u ∈ news, u.oneCell' = true)
    (h63 : m ≤ maxLen) (hbytes : m * bytes ≤ 140737488355328) (hbase : base ≤ w.heap.size)
    (h : ∀ A1 c1 w', w'.ownsRow base e size (.slice A1 m c1) m news → w.grownBy w' v.ownBlock → K (a.put o.dst (.slice A1 m c1)) w') : Oper.wp P o a w K Q := by
  obtain ⟨v', w', hr, h2, h3, _, _⟩ := run_append_own_at (P := P) w base t o.type e i z size bytes ht hi hz hsize hby hzs hsz v 0 [] hown ad m c news hl hnews h1 (by omega) (by simpa using hbytes) hbase
  rw [Nat.zero_add, List.nil_append] at h2
  obtain ⟨A1, c1, rfl⟩ : ∃ A1 c1, v' = .slice A1 m c1 := by
    rcases h2.2 with ⟨hv, h0⟩ | ⟨g', c, cur, hv, _⟩
    · exact ⟨none, 0, by rw [hv, h0]⟩
    · exact ⟨_, c, hv⟩
  unfold Oper.wp execOp
  simp only [ho, resolve, invoke, builtin, Sem.run_bind, Sem.run_pure, Result.andThen_ok, List.map_toArray, List.map_cons, List.map_nil, hs, hx, hr]
  exact h A1 c1 w' h2 h3
theorem wpList_append_copy {P : Program} {w : World} {ops : Array Oper} {rest : List Oper} {o : Oper} {a : Act} {Q : Exit → Act → World → Prop} (hgd : o.guard = none) (s x : Operand) (t : TypeId)
    (ho : o.op = .call { callee := .builtin .append, args := #[s, x], argTypes := #[t, t] })
    (base : Nat) (e : TypeId) (i : TypeInfo) (z : Value) (size bytes : Nat) (ht : P.underlying t = some (.slice e)) (hi : P.info? e = some i) (hz : i.zero = some z)
    (hsize : i.size = size) (hby : i.bytes = bytes) (hzs : z.cells.size = size) (hsz : 0 < size)
    (v : Value) (hs : a.eval s = v) (hown : w.ownsRow base e size v 0 [])
    (ad : Addr) (m c : Nat) (news : List Value) (hx : a.eval x = .slice (some ad) m c) (hl : news.length = m * size) (hnews : ∀ j u, news[j]? = some u → w.cell? (ad.add j) = some u) (h1 : ∀ u ∈ news, u.oneCell' = true)
    (h63 : m ≤ maxLen) (hbytes : m * bytes ≤ 140737488355328) (hbase : base ≤ w.heap.size)
    (h : ∀ A1 c1 w', w'.ownsRow base e size (.slice A1 m c1) m news → w.grownBy w' v.ownBlock → wpList P ops Q rest (a.put o.dst (.slice A1 m c1)) w') : wpList P ops Q (o :: rest) a w :=
  wpList_plain hgd fun _ hK => wp_append_copy s x t ho base e i z size bytes ht hi hz hsize hby hzs hsz v hs hown ad m c news hx hl hnews h1 h63 hbytes hbase fun A1 c1 w' h2 h3 => hK _ _ (h A1 c1 w' h2 h3)
theorem below_grow {H : Nat} {w0 W w3 : World} (h : Below w0.heap.size w0 W) (hg : W.grownBy w3 (some H)) (hB : w0.heap.size ≤ H) : Below w0.heap.size w0 w3 :=
  ⟨hg.os.trans h.os, hg.tape.trans h.tape, hg.output.trans h.output, Nat.le_trans h.size hg.size, fun k hk => (hg.block k (Nat.lt_of_lt_of_le hk h.size) (by intro e; injection e with e; omega)).trans (h.block k hk)⟩
theorem rc_of_own {w : World} {base : Nat} {e : TypeId} {A1 : Option Addr} {c1 : Nat} {cs : List (Int × Int)} (h : w.ownsRow base e 2 (.slice A1 cs.length c1) cs.length (ctCells cs)) : RC w w.heap.size A1 cs := (rowF_of_cuts h).rc
/-- new memory that holds cuts, if they are told -/
def NewCuts (o : Option (List (Int × Int))) (w : World) (en : Ending) (w' : World) : Prop := match o with
  | none => ∃ A1 c1, en = .returned (.tuple #[.slice A1 0 c1, .bool false]) ∧ Below w.heap.size w w'
  | some L => ∃ A1 c1 lo hi, en = .returned (.tuple #[.slice A1 L.length c1, .bool true]) ∧ RowF w' lo hi A1 (L.length * 2) (ctF L) ∧ w.heap.size ≤ lo ∧ Below w.heap.size w w'
end Go.Proofs.YtimccjmphdkbjaaDoor
