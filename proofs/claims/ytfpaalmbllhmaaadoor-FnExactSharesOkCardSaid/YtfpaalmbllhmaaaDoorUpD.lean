/- The model's ways up: l7Up, UpWays. -/
import Derived.Test.YtfpaalmbllhmaaaDoorUpL
import Derived.Test.YtfpaalmbllhmaaaDoorSR
import Derived.Test.YtfpaalmbllhmaaaDoorCuD
import Derived.Test.YtfpaalmbllhmaaaDoorMJ
import Derived.Test.YtfpaalmbllhmaaaDoorMH
set_option linter.unusedSimpArgs false
set_option linter.unusedVariables false
attribute [local go_sem ↓] Go.wp_at_zero Go.wp_at_succ
namespace Go.Proofs.YtfpaalmbllhmaaaDoor
open Go.ChangeShapes Go.WideShapes Go.ChangeAt Go.RowKit

/-- the row of ways up while places are found -/
noncomputable def upNow (ws : List Wy) (t now : Int) (j : Nat) : Int := if bit now (j : Int) = true then up ws t j else -1
theorem upNow_start {n : Int} {ws : List Wy} (hn : NetIs n ws) (t : Int) (j : Nat) : upNow ws t 1 j = -1 := by
  unfold upNow
  rw [bit_src1 j (by omega)]
  by_cases h : (j : Int) = 0
  · rw [if_pos (by simpa using h), h, up_src hn]
  · rw [if_neg (by simpa using h)]
theorem upNow_step {n : Int} {ws : List Wy} (hn : NetIs n ws) {t now : Int} {v k : Nat} (hr : bit (reach ws t 0) (v : Int) = true) (h : Up ws t v k) (j : Nat) : upNow ws t (ior now (2 ^ v)) j = if j = v then (k : Int) else upNow ws t now j := by
  unfold upNow
  rw [bit_ior, bit_pow v j (by omega)]
  by_cases e : j = v
  · subst e
    rw [if_pos rfl, if_pos (by simp), up_is hn (by omega) hr h]
  · rw [if_neg e]
    have : decide ((j : Int) = v) = false := by simp; omega
    rw [this, Bool.or_false]
theorem upNow_end {ws : List Wy} {t now : Int} {j : Nat} (h : bit now (j : Int) = true) : upNow ws t now j = up ws t j := by unfold upNow; rw [if_pos h]
theorem bv_eq (P Q i j : Int) : (bv P i == bv Q j) = (bit P i == bit Q j) := by
  unfold bv
  cases bit P i <;> cases bit Q j <;> rfl
theorem now_more {now : Int} {v : Nat} (h0 : 0 ≤ now) (h : bit now (v : Int) = false) : now < ior now (2 ^ v) := by
  have h1 := ior_ge now (2 ^ v) h0
  have h2 : ior now (2 ^ v) ≠ now := fun e => by
    have h3 : bit (ior now (2 ^ v)) (v : Int) = true := by rw [bit_ior, bit_pow v v (by omega)]; simp
    rw [e, h] at h3
    cases h3
  omega
/-- the least tree of a net that is joined: what its ways up want -/
structure TreeFor (n : Int) (ws : List Wy) (t : Int) : Prop where
  net : NetIs n ws
  lo : 0 ≤ t
  hi : t ≤ full ws.length
  indep : Indep ws t
  all : ∀ v : Int, 0 ≤ v → v < n → bit (reach ws t 0) v = true
theorem treeFor {n : Int} {ws : List Wy} (h : 0 ≤ spanTreeOf n ws) : TreeFor n ws (spanTreeOf n ws) ∧ netOk n ws = true := by
  have h0 : 0 ≤ spanCostOf n ws := by
    have := tree_told n ws
    by_cases hc : spanCostOf n ws < 0
    · exact absurd (this.2 hc) (by omega)
    · omega
  obtain ⟨h1, h2, h3, h4⟩ := span_yes h0
  have hn := netOk_t h1
  have hb := span_bd ws (allPl n)
  rw [h3]
  exact ⟨⟨hn, hb.1, hb.2, span_indep hn _, span_from hn h2⟩, h1⟩
theorem rowF_alloc {w : World} {lo hi : Nat} {A : Option Addr} {m : Nat} {f : Nat → Int} (h : RowF w lo hi A m f) (o : Obj) : RowF (w.alloc o) lo hi A m f := h.below ((Below.refl _ _).alloc (Nat.le_refl _) o)
theorem rowF_drew {w : World} {lo hi : Nat} {A : Option Addr} {m : Nat} {f : Nat → Int} (h : RowF w lo hi A m f) : RowF w.drew lo hi A m f := ⟨h.at_, h.top⟩
theorem setc_keep {w : World} {h i g j : Nat} {v : Value} (hne : h ≠ g) : (w.setCell ⟨g, j, none⟩ v).cell? ⟨h, i, none⟩ = w.cell? ⟨h, i, none⟩ := World.cell?_of_block (w := w) (Below.heap_setCell _ _ _ _ hne)
theorem RowF.upto {w : World} {lo hi : Nat} {A : Option Addr} {m : Nat} {f : Nat → Int} (h : RowF w lo hi A m f) (hh : hi ≤ w.heap.size) : RowF w lo w.heap.size A m f :=
  ⟨fun j hj => by obtain ⟨b, o, h1, h2, h3, h4⟩ := h.at_ j hj; exact ⟨b, o, h1, h2, Nat.lt_of_lt_of_le h3 hh, h4⟩, Nat.le_refl _⟩
theorem rowF_keep {w w' : World} {lo hi : Nat} {A : Option Addr} {m : Nat} {f : Nat → Int} (h : RowF w lo hi A m f) (hk : ∀ g, lo ≤ g → g < hi → w'.heap[g]? = w.heap[g]?) (hs : w.heap.size ≤ w'.heap.size) : RowF w' lo hi A m f :=
  ⟨fun j hj => by
    obtain ⟨b, o, h1, h2, h3, h4, h5⟩ := h.at_ j hj
    exact ⟨b, o, h1, h2, h3, (World.cell?_of_block (w := w) (hk b h2 h3)).trans h4, (World.frozen?_of_block (w := w) (hk b h2 h3)).trans h5⟩, Nat.le_trans h.top hs⟩
set_option maxRecDepth 100000 in
set_option maxHeartbeats 8000000 in
theorem l7Up_any (m : Nat) (t : Int) (A : Option Addr) (cap : Nat) (ws : List Wy) (w : World) (hr : RW w w.heap.size A ws) (ht : TreeFor (m : Int) ws t) :
    Calls Tryd.prog 42 #[.agg #[.int .i64 m, .slice A ws.length cap], .int .i64 t] w (NewInts (upRow ws t m) w) := by
  have HR := Lib.hid hr
  have HN := Lib.hid ht.net
  have HI := Lib.hid ht.indep
  have HA := Lib.hid ht.all
  have hl9 := ht.net.len
  have hn2 := ht.net.lo
  have hn6 := ht.net.hi
  have t0 := ht.lo
  have hm6 : m ≤ 6 := by omega
  have hfb := full_bd ws.length hl9
  have t1 : t ≤ 1048576 := by have := ht.hi; omega
  have hbs := emptyInts
  obtain ⟨i0, hi0, hz0, hz1', hz2⟩ := info_parts infoInt
  have h2m : (2 : Int) ^ m ≤ 64 := by
    have h9 := Nat.pow_le_pow_right (n := 2) (by omega) hm6
    have e9 : ((2 : Int) ^ m) = ((2 ^ m : Nat) : Int) := by simp
    omega
  have h12 : (1 : Int) < 2 ^ m := by have := one_lt ht.net; rwa [Int.toNat_natCast] at this
  obtain ⟨L, hL⟩ : ∃ L, upRow ws t m = L := ⟨_, rfl⟩
  have HLE : Hid (L.length = m) := by show _ = _; rw [← hL]; exact upRow_len ws t m
  have HLA : Hid (∀ j, j < m → L.getD j 0 = up ws t j) := fun j hj => by rw [← hL]; exact upRow_at ws t m hj
  rw [hL]
  clear hr ht hfb hL
  go_enter Tryd.func42, Tryd.ntmps42
  go_wp2_with fail
  go_loopw [5, 6] (fun v i wr => ∃ k : Nat, k ≤ m ∧ i = .int .i64 k ∧ wr.cell? ⟨w.heap.size, 0, none⟩ = some (.int .i64 m) ∧ wr.cell? ⟨w.heap.size, 1, none⟩ = some (.slice A ws.length cap) ∧ Below w.heap.size w wr ∧ w.heap.size < wr.heap.size ∧ wr.ownsRow (w.heap.size + 1) 3 1 v k (numCells (fun _ => -1) k)) (fun _ i _ => m - (intOf i).toNat)
  case atStart => exact ⟨0, Nat.zero_le _, rfl, by go_simp, by go_simp, by go_grown, by simp; omega, by have h7 := World.ownsRow_made (base := w.heap.size + 1) (e := 3) (size := 1) (w.alloc (.cells #[.int .i64 m, .slice A ws.length cap] 25)) #[] 0 (by simp) (by unfold maxLen; omega) rfl; rw [World.size_alloc] at h7; exact h7⟩
  case round =>
    obtain ⟨k, hk, rfl, b0, b1, hb, hz, hown⟩ := hrel
    obtain ⟨A1, c1, rfl⟩ := own_form hown
    have HB0 := Lib.hid hb
    have HOWN := Lib.hid hown
    clear hb hown
    by_cases hlt : k < m
    · have hk0 : (0 : Int) ≤ (k : Int) := by omega
      have hk1 : (k : Int) < (m : Int) := by omega
      go_wp2_with (at_builtin; refine wpList_append_lies _ rfl _ _ _ rfl (w.heap.size + 1) 3 i0 _ 1 8 Tryd.underlying27 hi0 hz0 hz1' hz2 rfl (by omega) (.slice A1 k c1) k (numCells (fun _ => -1) k) rfl (HOWN.out.alloc _) ⟨wr.heap.size, 0, none⟩ 1 1 [.int .i64 (-1)] rfl rfl (World.news_of_block (cs := #[.int .i64 (-1)]) (t := 3) (fr := (0, 0)) (heap_alloc_new wr _)) (by simp [Value.oneCell']) (by omega) (by unfold maxLen; omega) (by omega) (by simp; omega) (wr.heap.size + 1) (by simp) ?_; intro gg cc w5 hown5 hgrow5 hat5 hlt5)
      have HO5 : Hid (w5.ownsRow (w.heap.size + 1) 3 1 (.slice (some ⟨gg, 0, none⟩) (k + 1) cc) (k + 1) (numCells (fun _ => -1) (k + 1))) := by
        show World.ownsRow _ _ _ _ _ _ _
        rw [numCells_snoc]; exact hown5
      have hvl := HOWN.out.lt
      have HB5 : Hid (Below w.heap.size w w5) := by
        have h9 := HB0.out.alloc (Nat.le_of_lt hz) (.cells #[.int .i64 (-1)] 3)
        exact ⟨hgrow5.os.trans h9.os, hgrow5.tape.trans h9.tape, hgrow5.output.trans h9.output, Nat.le_trans h9.size hgrow5.size, fun i hi => (hgrow5.block i (by simp; omega) (fun e => by have := (hvl i e.symm).1; omega)).trans (h9.block i hi)⟩
      have hkeep : w5.heap[w.heap.size]? = wr.heap[w.heap.size]? := (hgrow5.block w.heap.size (by simp; omega) (fun e => by have := (hvl _ e.symm).1; omega)).trans (Below.heap_alloc _ _ _ hz)
      have y0 : w5.cell? ⟨w.heap.size, 0, none⟩ = some (.int .i64 m) := (World.cell?_of_block (w := wr) hkeep).trans b0
      have y1 : w5.cell? ⟨w.heap.size, 1, none⟩ = some (.slice A ws.length cap) := (World.cell?_of_block (w := wr) hkeep).trans b1
      have hs5 : wr.heap.size + 1 ≤ w5.heap.size := by have := hgrow5.size; simpa using this
      clear hown5 hgrow5 hat5 hlt5 hvl hkeep
      go_wp2_with fail
      go_roundw
      case rel => exact ⟨k + 1, by omega, by go_num, y0, y1, HB5.out, by omega, HO5.out⟩
      case measure => (simp [intOf]) <;> omega
    · obtain rfl : k = m := by omega
      have hro := (rowF_of_own (f := fun _ => -1) HOWN.out (fun j hj => numCells_at _ hj)).congr (g := upNow ws t 1) (fun j _ => (upNow_start HN.out t j).symm)
      obtain ⟨g, o, rfl, hg1, hg2, -, -⟩ := hro.at_ 0 (by omega)
      have HRO := Lib.hid hro
      obtain ⟨hh, hhe⟩ : ∃ h, wr.heap.size = h := ⟨_, rfl⟩
      rw [hhe] at HRO hg2
      have HHE : hh ≤ wr.heap.size := by omega
      clear hro hhe HOWN hbs
      go_wp2_with fail
      go_loopw [7, 8] (fun nv av wr => ∃ (P : Int) (ag : Bool), nv = .int .i64 P ∧ av = .bool ag ∧ 1 ≤ P ∧ P < 2 ^ k ∧ Found (k : Int) ws t P ∧ (ag = false → ∀ (j : Nat) (y : Wy), ws[j]? = some y → bit t j = true → bit P y.a = bit P y.b) ∧ wr.cell? ⟨w.heap.size, 0, none⟩ = some (.int .i64 k) ∧ wr.cell? ⟨w.heap.size, 1, none⟩ = some (.slice A ws.length cap) ∧ Below w.heap.size w wr ∧ hh ≤ wr.heap.size ∧ RowF wr (w.heap.size + 1) hh (some ⟨g, o, none⟩) k (upNow ws t P)) (fun nv av _ => (2 * (64 - intOf nv)).toNat + (match av with | .bool true => 1 | _ => 0))
      case atStart => exact ⟨1, true, rfl, rfl, by omega, h12, Found.start HN.out t, (fun h => by cases h), b0, b1, HB0.out, HHE, HRO.out⟩
      case round =>
        clear b0 b1 HB0 HRO hz HHE
        obtain ⟨P, ag, rfl, rfl, hP1, hP2, hfo, hcl, b0, b1, hb, hz, hrow⟩ := hrel
        have HB0 := Lib.hid hb
        have HFO := Lib.hid hfo
        have HCL := Lib.hid hcl
        have HRO := Lib.hid hrow
        clear hb hfo hcl hrow
        cases ag
        · have HEND : Hid (∀ j : Nat, j < k → upNow ws t P j = L.getD j 0) := fun j hj => by
            rw [HLA.out j hj]
            exact upNow_end (HFO.out.all HN.out (HCL.out rfl) (by omega) (HA.out j (by omega) (by omega)))
          go_wp2_with fail
          go_ret
          exact ⟨some ⟨g, o, none⟩, c1, by rw [HLE.out] <;> rfl, by rw [HLE.out]; exact ((HRO.out.congr (g := fun j => L.getD j 0) HEND.out).wider (Nat.le_succ _)).upto hz, HB0.out⟩
        · clear HCL
          go_wp2_with fail
          go_loopw [7, 8, 9] (fun nv av i wr => ∃ (q : Nat) (Q : Int) (ag : Bool), q ≤ ws.length ∧ i = .int .i64 q ∧ nv = .int .i64 Q ∧ av = .bool ag ∧ P ≤ Q ∧ Q < 2 ^ k ∧ Found (k : Int) ws t Q ∧ (ag = true → P < Q) ∧ (ag = false → Q = P ∧ ∀ (j : Nat) (y : Wy), j < q → ws[j]? = some y → bit t j = true → bit Q y.a = bit Q y.b) ∧ wr.cell? ⟨w.heap.size, 0, none⟩ = some (.int .i64 k) ∧ wr.cell? ⟨w.heap.size, 1, none⟩ = some (.slice A ws.length cap) ∧ Below w.heap.size w wr ∧ hh ≤ wr.heap.size ∧ RowF wr (w.heap.size + 1) hh (some ⟨g, o, none⟩) k (upNow ws t Q)) (fun _ _ i _ => ws.length - (intOf i).toNat)
          case atStart => exact ⟨0, P, false, Nat.zero_le _, rfl, rfl, rfl, Int.le_refl _, hP2, HFO.out, (fun h => by cases h), (fun _ => ⟨rfl, fun j y hj => by omega⟩), b0, b1, HB0.out, hz, HRO.out⟩
          case round =>
            clear b0 b1 HB0 HRO hz HFO
            obtain ⟨q, Q, ag, hq, rfl, rfl, rfl, hPQ, hQ2, hfo, hat, haf, b0, b1, hb, hz, hrow⟩ := hrel
            have HB0 := Lib.hid hb
            have HFO := Lib.hid hfo
            have HAT := Lib.hid hat
            have HAF := Lib.hid haf
            have HRO := Lib.hid hrow
            have hq0 : (0 : Int) ≤ (q : Int) := by omega
            have hQ0 : 0 ≤ Q := by omega
            clear hfo hat haf hrow
            by_cases hlq : q < ws.length
            · have hq1 : (q : Int) < (ws.length : Int) := by omega
              have hq60 : (q : Int) ≤ 60 := by omega
              obtain ⟨x, hx⟩ : ∃ x, ws[q]? = some x := ⟨_, List.getElem?_eq_getElem hlq⟩
              have hxa := HN.out.at_ hx
              obtain ⟨b, ob, rfl, hB, c0, c1, c2⟩ := HR.out.below hb q x hx
              obtain ⟨ia, hia⟩ : ∃ ia : Nat, x.a = ia := ⟨x.a.toNat, by omega⟩
              obtain ⟨ib, hib⟩ : ∃ ib : Nat, x.b = ib := ⟨x.b.toNat, by omega⟩
              have hiam : ia < k := by omega
              have hibm : ib < k := by omega
              have HX := Lib.hid hx
              rw [hia] at c0
              rw [hib] at c1
              have HIA := Lib.hid hia
              have HIB := Lib.hid hib
              have ht0 : 0 ≤ t / 2 ^ q := (div_pow_bd t q t0).1
              have ht1 : (t / 2 ^ q % 2 == 1) = bit t q := bit_mod_nat t q t0
              clear hx hxa hia hib hb
              have hzz : w.heap.size < wr.heap.size := by omega
              cases hbt : bit t q
              · have hzt := bit_zero (i := (q : Int)) hq0 t0 hbt
                rw [Int.toNat_natCast] at hzt
                have d1 : (t / 2 ^ q % 2 == 0) = true := by rw [hzt.1]; rfl
                have d2 : ((t / 2 ^ q).tmod 2 == 0) = true := by rw [hzt.2]; rfl
                have HAF2 : Hid (ag = false → Q = P ∧ ∀ (j : Nat) (y : Wy), j < q + 1 → ws[j]? = some y → bit t j = true → bit Q y.a = bit Q y.b) := fun h => ⟨(HAF.out h).1, fun j y hj hy ht => by
                  by_cases e : j = q
                  · subst e; rw [hbt] at ht; cases ht
                  · exact (HAF.out h).2 j y (by omega) hy ht⟩
                clear hzt ht1 hbt HAF
                go_wp2_with fail
                refine wp_region_held_drew (S := (fun w' => w'.cell? ⟨wr.heap.size, 0, none⟩ = some (.int .i64 ia) ∧ w'.cell? ⟨wr.heap.size, 1, none⟩ = some (.int .i64 ib))) (by kernel_rfl) ?_ (fun hHeld => ?_)
                · exact ⟨cell_of_row _ _ 0 _ _ (0, 0) (heap_alloc_new wr _), cell_of_row _ _ 1 _ _ (0, 0) (heap_alloc_new wr _)⟩
                refine wpAnyH_take (i := 0) (v := ?_) rfl (by kernel_rfl) (by kernel_rfl) (by kernel_rfl) (fun _ _ _ h => h) (Or.inl ⟨by rfl, ?_⟩) (by assumption) ?_
                rotate_left
                · (intro w hSw; (try dsimp only at hSw); (try simp only [List.getElem_toArray, List.getElem_cons_succ, List.getElem_cons_zero]); first | (go_simp; done) | (go_simp; with_reducible rfl))
                try simp only [Act.put, List.getElem_toArray, List.getElem_cons_succ, List.getElem_cons_zero, List.setIfInBounds_toArray, List.set_cons_zero, List.set_cons_succ]
                refine wpAnyH_take (i := 1) (v := ?_) rfl (by kernel_rfl) (by kernel_rfl) (by kernel_rfl) (fun _ _ _ h => h) (Or.inl ⟨by rfl, ?_⟩) (by assumption) ?_
                rotate_left
                · (intro w hSw; (try dsimp only at hSw); (try simp only [List.getElem_toArray, List.getElem_cons_succ, List.getElem_cons_zero]); first | (go_simp; done) | (go_simp; with_reducible rfl))
                try simp only [Act.put, List.getElem_toArray, List.getElem_cons_succ, List.getElem_cons_zero, List.setIfInBounds_toArray, List.set_cons_zero, List.set_cons_succ]
                refine wpAnyH_take (i := 2) (v := ?_) rfl (by kernel_rfl) (by kernel_rfl) (by kernel_rfl) (fun _ _ _ h => h) (Or.inl ⟨by rfl, ?_⟩) (by assumption) ?_
                rotate_left
                · (intro w hSw; (try dsimp only at hSw); (try simp only [List.getElem_toArray, List.getElem_cons_succ, List.getElem_cons_zero]); first | (go_simp; done) | (go_simp; with_reducible rfl))
                try simp only [Act.put, List.getElem_toArray, List.getElem_cons_succ, List.getElem_cons_zero, List.setIfInBounds_toArray, List.set_cons_zero, List.set_cons_succ]
                refine wpAnyH_take (i := 3) (v := ?_) rfl (by kernel_rfl) (by kernel_rfl) (by kernel_rfl) (fun _ _ _ h => h) (Or.inl ⟨by rfl, ?_⟩) (by assumption) ?_
                rotate_left
                · (intro w hSw; (try dsimp only at hSw); (try simp only [List.getElem_toArray, List.getElem_cons_succ, List.getElem_cons_zero]); first | (go_simp; done) | (go_simp; with_reducible rfl))
                try simp only [Act.put, List.getElem_toArray, List.getElem_cons_succ, List.getElem_cons_zero, List.setIfInBounds_toArray, List.set_cons_zero, List.set_cons_succ]
                refine wpAnyH_take (i := 4) (v := ?_) rfl (by kernel_rfl) (by kernel_rfl) (by kernel_rfl) (fun _ _ _ h => h) (Or.inl ⟨by rfl, ?_⟩) (by assumption) ?_
                rotate_left
                · (intro w hSw; (try dsimp only at hSw); (try simp only [List.getElem_toArray, List.getElem_cons_succ, List.getElem_cons_zero]); first | (go_simp; done) | (go_simp; with_reducible rfl))
                try simp only [Act.put, List.getElem_toArray, List.getElem_cons_succ, List.getElem_cons_zero, List.setIfInBounds_toArray, List.set_cons_zero, List.set_cons_succ]
                refine wpAnyH_take (i := 5) (v := ?_) rfl (by kernel_rfl) (by kernel_rfl) (by kernel_rfl) (fun _ _ _ h => h) (Or.inl ⟨by rfl, ?_⟩) (by assumption) ?_
                rotate_left
                · (intro w hSw; (try dsimp only at hSw); (try simp only [List.getElem_toArray, List.getElem_cons_succ, List.getElem_cons_zero]); first | (go_simp; done) | (go_simp; with_reducible rfl))
                try simp only [Act.put, List.getElem_toArray, List.getElem_cons_succ, List.getElem_cons_zero, List.setIfInBounds_toArray, List.set_cons_zero, List.set_cons_succ]
                refine wpAnyH_take (i := 6) (v := undef) rfl (by kernel_rfl) (by kernel_rfl) (by kernel_rfl) (fun _ _ _ h => h) (Or.inr ⟨by rfl, rfl⟩) (by assumption) ?_
                try simp only [Act.put, List.getElem_toArray, List.getElem_cons_succ, List.getElem_cons_zero, List.setIfInBounds_toArray, List.set_cons_zero, List.set_cons_succ]
                refine wpAnyH_take (i := 7) (v := undef) rfl (by kernel_rfl) (by kernel_rfl) (by kernel_rfl) (fun _ _ _ h => h) (Or.inr ⟨by rfl, rfl⟩) (by assumption) ?_
                try simp only [Act.put, List.getElem_toArray, List.getElem_cons_succ, List.getElem_cons_zero, List.setIfInBounds_toArray, List.set_cons_zero, List.set_cons_succ]
                refine wpAnyH_take (i := 8) (v := undef) rfl (by kernel_rfl) (by kernel_rfl) (by kernel_rfl) (fun _ _ _ h => h) (Or.inr ⟨by rfl, rfl⟩) (by assumption) ?_
                try simp only [Act.put, List.getElem_toArray, List.getElem_cons_succ, List.getElem_cons_zero, List.setIfInBounds_toArray, List.set_cons_zero, List.set_cons_succ]
                refine wpAnyH_take (i := 9) (v := undef) rfl (by kernel_rfl) (by kernel_rfl) (by kernel_rfl) (fun _ _ _ h => h) (Or.inr ⟨by rfl, rfl⟩) (by assumption) ?_
                try simp only [Act.put, List.getElem_toArray, List.getElem_cons_succ, List.getElem_cons_zero, List.setIfInBounds_toArray, List.set_cons_zero, List.set_cons_succ]
                refine wpAnyH_take (i := 10) (v := undef) rfl (by kernel_rfl) (by kernel_rfl) (by kernel_rfl) (fun _ _ _ h => h) (Or.inr ⟨by rfl, rfl⟩) (by assumption) ?_
                try simp only [Act.put, List.getElem_toArray, List.getElem_cons_succ, List.getElem_cons_zero, List.setIfInBounds_toArray, List.set_cons_zero, List.set_cons_succ]
                refine wpAnyH_take (i := 11) (v := undef) rfl (by kernel_rfl) (by kernel_rfl) (by kernel_rfl) (fun _ _ _ h => h) (Or.inr ⟨by rfl, rfl⟩) (by assumption) ?_
                try simp only [Act.put, List.getElem_toArray, List.getElem_cons_succ, List.getElem_cons_zero, List.setIfInBounds_toArray, List.set_cons_zero, List.set_cons_succ]
                refine wpAnyH_take (i := 12) (v := undef) rfl (by kernel_rfl) (by kernel_rfl) (by kernel_rfl) (fun _ _ _ h => h) (Or.inr ⟨by rfl, rfl⟩) (by assumption) ?_
                try simp only [Act.put, List.getElem_toArray, List.getElem_cons_succ, List.getElem_cons_zero, List.setIfInBounds_toArray, List.set_cons_zero, List.set_cons_succ]
                refine wpAnyH_take (i := 13) (v := undef) rfl (by kernel_rfl) (by kernel_rfl) (by kernel_rfl) (fun _ _ _ h => h) (Or.inr ⟨by rfl, rfl⟩) (by assumption) ?_
                try simp only [Act.put, List.getElem_toArray, List.getElem_cons_succ, List.getElem_cons_zero, List.setIfInBounds_toArray, List.set_cons_zero, List.set_cons_succ]
                refine wpAnyH_take (i := 14) (v := undef) rfl (by kernel_rfl) (by kernel_rfl) (by kernel_rfl) (fun _ _ _ h => h) (Or.inr ⟨by rfl, rfl⟩) (by assumption) ?_
                try simp only [Act.put, List.getElem_toArray, List.getElem_cons_succ, List.getElem_cons_zero, List.setIfInBounds_toArray, List.set_cons_zero, List.set_cons_succ]
                refine wpAnyH_take (i := 15) (v := undef) rfl (by kernel_rfl) (by kernel_rfl) (by kernel_rfl) (fun _ _ _ h => h) (Or.inr ⟨by rfl, rfl⟩) (by assumption) ?_
                try simp only [Act.put, List.getElem_toArray, List.getElem_cons_succ, List.getElem_cons_zero, List.setIfInBounds_toArray, List.set_cons_zero, List.set_cons_succ]
                refine wpAnyH_take (i := 16) (v := undef) rfl (by kernel_rfl) (by kernel_rfl) (by kernel_rfl) (fun _ _ _ h => h) (Or.inr ⟨by rfl, rfl⟩) (by assumption) ?_
                try simp only [Act.put, List.getElem_toArray, List.getElem_cons_succ, List.getElem_cons_zero, List.setIfInBounds_toArray, List.set_cons_zero, List.set_cons_succ]
                refine wpAnyH_take (i := 17) (v := ?_) rfl (by kernel_rfl) (by kernel_rfl) (by kernel_rfl) (fun _ _ _ h => h) (Or.inl ⟨by rfl, ?_⟩) (by assumption) ?_
                rotate_left
                · (intro w hSw; (try dsimp only at hSw); (try simp only [List.getElem_toArray, List.getElem_cons_succ, List.getElem_cons_zero]); first | (go_simp; done) | (go_simp; with_reducible rfl))
                try simp only [Act.put, List.getElem_toArray, List.getElem_cons_succ, List.getElem_cons_zero, List.setIfInBounds_toArray, List.set_cons_zero, List.set_cons_succ]
                refine wpAnyH_done (by kernel_rfl) ?_ _
                go_wp2_with fail
                go_roundw
                case rel => exact ⟨q + 1, Q, ag, by omega, by go_num, rfl, rfl, hPQ, hQ2, HFO.out, HAT.out, HAF2.out, (World.cell?_alloc_lt _ _ _ hzz).trans b0, (World.cell?_alloc_lt _ _ _ hzz).trans b1, (HB0.out.alloc (Nat.le_of_lt hzz) _).drew, by simp; omega, rowF_drew (rowF_alloc HRO.out _)⟩
                case measure => (simp [intOf]) <;> omega
              · have hzt := bit_one (i := (q : Int)) hq0 t0 hbt
                rw [Int.toNat_natCast] at hzt
                have d1 : (t / 2 ^ q % 2 == 0) = false := by rw [hzt.1]; rfl
                have d2 : ((t / 2 ^ q).tmod 2 == 0) = false := by rw [hzt.2]; rfl
                have qa := (div_pow_bd Q ia hQ0).1
                have qb := (div_pow_bd Q ib hQ0).1
                have ia0 : (0 : Int) ≤ (ia : Int) := by omega
                have ib0 : (0 : Int) ≤ (ib : Int) := by omega
                have ia60 : (ia : Int) ≤ 60 := by omega
                have ib60 : (ib : Int) ≤ 60 := by omega
                clear hzt ht1
                cases hA : bit Q ia
                · have ea := bit_zero (i := (ia : Int)) ia0 hQ0 hA
                  rw [Int.toNat_natCast] at ea
                  obtain ⟨ea1, ea2⟩ := ea
                  cases hB9 : bit Q ib
                  · have eb := bit_zero (i := (ib : Int)) ib0 hQ0 hB9
                    rw [Int.toNat_natCast] at eb
                    obtain ⟨eb1, eb2⟩ := eb
                    have HAF2 : Hid (ag = false → Q = P ∧ ∀ (j : Nat) (y : Wy), j < q + 1 → ws[j]? = some y → bit t j = true → bit Q y.a = bit Q y.b) := fun h => ⟨(HAF.out h).1, fun j y hj hy ht => by
                      by_cases e : j = q
                      · subst e
                        have := HX.out.symm.trans hy
                        obtain rfl := Option.some.inj this
                        rw [HIA.out, HIB.out, hA, hB9]
                      · exact (HAF.out h).2 j y (by omega) hy ht⟩
                    clear hbt hA hB9 HAF
                    go_wp2_with fail
                    refine wp_region_held_drew (S := (fun w' => w'.cell? ⟨wr.heap.size, 0, none⟩ = some (.int .i64 ia) ∧ w'.cell? ⟨wr.heap.size, 1, none⟩ = some (.int .i64 ib))) (by kernel_rfl) ?_ (fun hHeld => ?_)
                    · exact ⟨cell_of_row _ _ 0 _ _ (0, 0) (heap_alloc_new wr _), cell_of_row _ _ 1 _ _ (0, 0) (heap_alloc_new wr _)⟩
                    refine wpAnyH_take (i := 0) (v := ?_) rfl (by kernel_rfl) (by kernel_rfl) (by kernel_rfl) (fun _ _ _ h => h) (Or.inl ⟨by rfl, ?_⟩) (by assumption) ?_
                    rotate_left
                    · (intro w hSw; (try dsimp only at hSw); (try simp only [List.getElem_toArray, List.getElem_cons_succ, List.getElem_cons_zero]); first | (go_simp; done) | (go_simp; with_reducible rfl))
                    try simp only [Act.put, List.getElem_toArray, List.getElem_cons_succ, List.getElem_cons_zero, List.setIfInBounds_toArray, List.set_cons_zero, List.set_cons_succ]
                    refine wpAnyH_take (i := 1) (v := ?_) rfl (by kernel_rfl) (by kernel_rfl) (by kernel_rfl) (fun _ _ _ h => h) (Or.inl ⟨by rfl, ?_⟩) (by assumption) ?_
                    rotate_left
                    · (intro w hSw; (try dsimp only at hSw); (try simp only [List.getElem_toArray, List.getElem_cons_succ, List.getElem_cons_zero]); first | (go_simp; done) | (go_simp; with_reducible rfl))
                    try simp only [Act.put, List.getElem_toArray, List.getElem_cons_succ, List.getElem_cons_zero, List.setIfInBounds_toArray, List.set_cons_zero, List.set_cons_succ]
                    refine wpAnyH_take (i := 2) (v := ?_) rfl (by kernel_rfl) (by kernel_rfl) (by kernel_rfl) (fun _ _ _ h => h) (Or.inl ⟨by rfl, ?_⟩) (by assumption) ?_
                    rotate_left
                    · (intro w hSw; (try dsimp only at hSw); (try simp only [List.getElem_toArray, List.getElem_cons_succ, List.getElem_cons_zero]); first | (go_simp; done) | (go_simp; with_reducible rfl))
                    try simp only [Act.put, List.getElem_toArray, List.getElem_cons_succ, List.getElem_cons_zero, List.setIfInBounds_toArray, List.set_cons_zero, List.set_cons_succ]
                    refine wpAnyH_take (i := 3) (v := ?_) rfl (by kernel_rfl) (by kernel_rfl) (by kernel_rfl) (fun _ _ _ h => h) (Or.inl ⟨by rfl, ?_⟩) (by assumption) ?_
                    rotate_left
                    · (intro w hSw; (try dsimp only at hSw); (try simp only [List.getElem_toArray, List.getElem_cons_succ, List.getElem_cons_zero]); first | (go_simp; done) | (go_simp; with_reducible rfl))
                    try simp only [Act.put, List.getElem_toArray, List.getElem_cons_succ, List.getElem_cons_zero, List.setIfInBounds_toArray, List.set_cons_zero, List.set_cons_succ]
                    refine wpAnyH_take (i := 4) (v := ?_) rfl (by kernel_rfl) (by kernel_rfl) (by kernel_rfl) (fun _ _ _ h => h) (Or.inl ⟨by rfl, ?_⟩) (by assumption) ?_
                    rotate_left
                    · (intro w hSw; (try dsimp only at hSw); (try simp only [List.getElem_toArray, List.getElem_cons_succ, List.getElem_cons_zero]); first | (go_simp; done) | (go_simp; with_reducible rfl))
                    try simp only [Act.put, List.getElem_toArray, List.getElem_cons_succ, List.getElem_cons_zero, List.setIfInBounds_toArray, List.set_cons_zero, List.set_cons_succ]
                    refine wpAnyH_take (i := 5) (v := ?_) rfl (by kernel_rfl) (by kernel_rfl) (by kernel_rfl) (fun _ _ _ h => h) (Or.inl ⟨by rfl, ?_⟩) (by assumption) ?_
                    rotate_left
                    · (intro w hSw; (try dsimp only at hSw); (try simp only [List.getElem_toArray, List.getElem_cons_succ, List.getElem_cons_zero]); first | (go_simp; done) | (go_simp; with_reducible rfl))
                    try simp only [Act.put, List.getElem_toArray, List.getElem_cons_succ, List.getElem_cons_zero, List.setIfInBounds_toArray, List.set_cons_zero, List.set_cons_succ]
                    refine wpAnyH_take (i := 6) (v := ?_) rfl (by kernel_rfl) (by kernel_rfl) (by kernel_rfl) (fun _ _ _ h => h) (Or.inl ⟨by rfl, ?_⟩) (by assumption) ?_
                    rotate_left
                    · (intro w hSw; (try dsimp only at hSw); (try simp only [List.getElem_toArray, List.getElem_cons_succ, List.getElem_cons_zero]); first | (go_simp; done) | (go_simp; with_reducible rfl))
                    try simp only [Act.put, List.getElem_toArray, List.getElem_cons_succ, List.getElem_cons_zero, List.setIfInBounds_toArray, List.set_cons_zero, List.set_cons_succ]
                    refine wpAnyH_take (i := 7) (v := ?_) rfl (by kernel_rfl) (by kernel_rfl) (by kernel_rfl) (fun _ _ _ h => h) (Or.inl ⟨by rfl, ?_⟩) (by assumption) ?_
                    rotate_left
                    · (intro w hSw; (try dsimp only at hSw); (try simp only [List.getElem_toArray, List.getElem_cons_succ, List.getElem_cons_zero]); first | (go_simp; done) | (go_simp; with_reducible rfl))
                    try simp only [Act.put, List.getElem_toArray, List.getElem_cons_succ, List.getElem_cons_zero, List.setIfInBounds_toArray, List.set_cons_zero, List.set_cons_succ]
                    refine wpAnyH_take (i := 8) (v := ?_) rfl (by kernel_rfl) (by kernel_rfl) (by kernel_rfl) (fun _ _ _ h => h) (Or.inl ⟨by rfl, ?_⟩) (by assumption) ?_
                    rotate_left
                    · (intro w hSw; (try dsimp only at hSw); (try simp only [List.getElem_toArray, List.getElem_cons_succ, List.getElem_cons_zero]); first | (go_simp; done) | (go_simp; with_reducible rfl))
                    try simp only [Act.put, List.getElem_toArray, List.getElem_cons_succ, List.getElem_cons_zero, List.setIfInBounds_toArray, List.set_cons_zero, List.set_cons_succ]
                    refine wpAnyH_take (i := 9) (v := ?_) rfl (by kernel_rfl) (by kernel_rfl) (by kernel_rfl) (fun _ _ _ h => h) (Or.inl ⟨by rfl, ?_⟩) (by assumption) ?_
                    rotate_left
                    · (intro w hSw; (try dsimp only at hSw); (try simp only [List.getElem_toArray, List.getElem_cons_succ, List.getElem_cons_zero]); first | (go_simp; done) | (go_simp; with_reducible rfl))
                    try simp only [Act.put, List.getElem_toArray, List.getElem_cons_succ, List.getElem_cons_zero, List.setIfInBounds_toArray, List.set_cons_zero, List.set_cons_succ]
                    refine wpAnyH_take (i := 10) (v := ?_) rfl (by kernel_rfl) (by kernel_rfl) (by kernel_rfl) (fun _ _ _ h => h) (Or.inl ⟨by rfl, ?_⟩) (by assumption) ?_
                    rotate_left
                    · (intro w hSw; (try dsimp only at hSw); (try simp only [List.getElem_toArray, List.getElem_cons_succ, List.getElem_cons_zero]); first | (go_simp; done) | (go_simp; with_reducible rfl))
                    try simp only [Act.put, List.getElem_toArray, List.getElem_cons_succ, List.getElem_cons_zero, List.setIfInBounds_toArray, List.set_cons_zero, List.set_cons_succ]
                    refine wpAnyH_take (i := 11) (v := ?_) rfl (by kernel_rfl) (by kernel_rfl) (by kernel_rfl) (fun _ _ _ h => h) (Or.inl ⟨by rfl, ?_⟩) (by assumption) ?_
                    rotate_left
                    · (intro w hSw; (try dsimp only at hSw); (try simp only [List.getElem_toArray, List.getElem_cons_succ, List.getElem_cons_zero]); first | (go_simp; done) | (go_simp; with_reducible rfl))
                    try simp only [Act.put, List.getElem_toArray, List.getElem_cons_succ, List.getElem_cons_zero, List.setIfInBounds_toArray, List.set_cons_zero, List.set_cons_succ]
                    refine wpAnyH_take (i := 12) (v := ?_) rfl (by kernel_rfl) (by kernel_rfl) (by kernel_rfl) (fun _ _ _ h => h) (Or.inl ⟨by rfl, ?_⟩) (by assumption) ?_
                    rotate_left
                    · (intro w hSw; (try dsimp only at hSw); (try simp only [List.getElem_toArray, List.getElem_cons_succ, List.getElem_cons_zero]); first | (go_simp; done) | (go_simp; with_reducible rfl))
                    try simp only [Act.put, List.getElem_toArray, List.getElem_cons_succ, List.getElem_cons_zero, List.setIfInBounds_toArray, List.set_cons_zero, List.set_cons_succ]
                    refine wpAnyH_take (i := 13) (v := ?_) rfl (by kernel_rfl) (by kernel_rfl) (by kernel_rfl) (fun _ _ _ h => h) (Or.inl ⟨by rfl, ?_⟩) (by assumption) ?_
                    rotate_left
                    · (intro w hSw; (try dsimp only at hSw); (try simp only [List.getElem_toArray, List.getElem_cons_succ, List.getElem_cons_zero]); first | (go_simp; done) | (go_simp; with_reducible rfl))
                    try simp only [Act.put, List.getElem_toArray, List.getElem_cons_succ, List.getElem_cons_zero, List.setIfInBounds_toArray, List.set_cons_zero, List.set_cons_succ]
                    refine wpAnyH_take (i := 14) (v := ?_) rfl (by kernel_rfl) (by kernel_rfl) (by kernel_rfl) (fun _ _ _ h => h) (Or.inl ⟨by rfl, ?_⟩) (by assumption) ?_
                    rotate_left
                    · (intro w hSw; (try dsimp only at hSw); (try simp only [List.getElem_toArray, List.getElem_cons_succ, List.getElem_cons_zero]); first | (go_simp; done) | (go_simp; with_reducible rfl))
                    try simp only [Act.put, List.getElem_toArray, List.getElem_cons_succ, List.getElem_cons_zero, List.setIfInBounds_toArray, List.set_cons_zero, List.set_cons_succ]
                    refine wpAnyH_take (i := 15) (v := ?_) rfl (by kernel_rfl) (by kernel_rfl) (by kernel_rfl) (fun _ _ _ h => h) (Or.inl ⟨by rfl, ?_⟩) (by assumption) ?_
                    rotate_left
                    · (intro w hSw; (try dsimp only at hSw); (try simp only [List.getElem_toArray, List.getElem_cons_succ, List.getElem_cons_zero]); first | (go_simp; done) | (go_simp; with_reducible rfl))
                    try simp only [Act.put, List.getElem_toArray, List.getElem_cons_succ, List.getElem_cons_zero, List.setIfInBounds_toArray, List.set_cons_zero, List.set_cons_succ]
                    refine wpAnyH_take (i := 16) (v := ?_) rfl (by kernel_rfl) (by kernel_rfl) (by kernel_rfl) (fun _ _ _ h => h) (Or.inl ⟨by rfl, ?_⟩) (by assumption) ?_
                    rotate_left
                    · (intro w hSw; (try dsimp only at hSw); (try simp only [List.getElem_toArray, List.getElem_cons_succ, List.getElem_cons_zero]); first | (go_simp; done) | (go_simp; with_reducible rfl))
                    try simp only [Act.put, List.getElem_toArray, List.getElem_cons_succ, List.getElem_cons_zero, List.setIfInBounds_toArray, List.set_cons_zero, List.set_cons_succ]
                    refine wpAnyH_take (i := 17) (v := ?_) rfl (by kernel_rfl) (by kernel_rfl) (by kernel_rfl) (fun _ _ _ h => h) (Or.inl ⟨by rfl, ?_⟩) (by assumption) ?_
                    rotate_left
                    · (intro w hSw; (try dsimp only at hSw); (try simp only [List.getElem_toArray, List.getElem_cons_succ, List.getElem_cons_zero]); first | (go_simp; done) | (go_simp; with_reducible rfl))
                    try simp only [Act.put, List.getElem_toArray, List.getElem_cons_succ, List.getElem_cons_zero, List.setIfInBounds_toArray, List.set_cons_zero, List.set_cons_succ]
                    refine wpAnyH_done (by kernel_rfl) ?_ _
                    go_wp2_with fail
                    go_roundw
                    case rel => exact ⟨q + 1, Q, ag, by omega, by go_num, rfl, rfl, hPQ, hQ2, HFO.out, HAT.out, HAF2.out, (World.cell?_alloc_lt _ _ _ hzz).trans b0, (World.cell?_alloc_lt _ _ _ hzz).trans b1, (HB0.out.alloc (Nat.le_of_lt hzz) _).drew, by simp; omega, rowF_drew (rowF_alloc HRO.out _)⟩
                    case measure => (simp [intOf]) <;> omega
                  · have eb := bit_one (i := (ib : Int)) ib0 hQ0 hB9
                    rw [Int.toNat_natCast] at eb
                    obtain ⟨eb1, eb2⟩ := eb
                    have HUP : Hid (Up ws t (ia : Nat) q) := Found.up HN.out HI.out HFO.out HX.out hbt (v := (ia : Nat)) (u := (ib : Nat)) (by rw [HIA.out, HIB.out]; exact .inl ⟨rfl, rfl⟩) hB9 hA
                    have HF2 : Hid (Found (k : Int) ws t (ior Q (2 ^ ia))) := by
                      have h9 := Found.step HN.out HFO.out HX.out hbt (v := (ia : Nat)) (u := (ib : Nat)) (by rw [HIA.out, HIB.out]; exact .inl ⟨rfl, rfl⟩) hB9 hA
                      rwa [Int.toNat_natCast] at h9
                    have hlt2 := now_more hQ0 hA
                    have hvk : (2 : Int) ^ ia < 2 ^ k := by
                      have h9 := Nat.pow_lt_pow_right (a := 2) (by omega) (show ia < k by omega)
                      have e9 : ((2 : Int) ^ ia) = ((2 ^ ia : Nat) : Int) := by simp
                      have e8 : ((2 : Int) ^ k) = ((2 ^ k : Nat) : Int) := by simp
                      omega
                    have hv0 : (0 : Int) < 2 ^ ia := by
                      have e9 : ((2 : Int) ^ ia) = ((2 ^ ia : Nat) : Int) := by simp
                      have := Nat.two_pow_pos ia
                      omega
                    have hlt3 := ior_lt hQ2 hvk
                    have HOR : Hid (bits .or .i64 Q (2 ^ ia) = ior Q (2 ^ ia)) := bits_or _ _ hQ0 (by omega) (by omega) (by omega)
                    have HWK : Hid (IntKind.i64.wrap (2 ^ ia) = 2 ^ ia) := IntWalk.i64_in _ ⟨by omega, by omega⟩
                    have HWK2 : Hid (wrap64 (2 ^ ia) = 2 ^ ia) := IntWalk.wrap64_in _ ⟨by omega, by omega⟩
                    have HST : Hid (∀ j : Nat, (if j = ia then (q : Int) else upNow ws t Q j) = upNow ws t (ior Q (2 ^ ia)) j) := fun j => (upNow_step HN.out (HA.out ia (by omega) (by omega)) HUP.out j).symm
                    obtain ⟨bb, oo, eg, -, -, r1, r2⟩ := (rowF_alloc HRO.out (.cells #[.int .i64 ia, .int .i64 ib, .int .i64 x.c] 33)).at_ ia (by omega)
                    injection eg with eg; injection eg with eg1 eg2; subst eg1; subst eg2
                    obtain ⟨old, hold⟩ : ∃ y, upNow ws t Q ia = y := ⟨_, rfl⟩
                    rw [hold] at r1
                    have HRO2 := Lib.hid (((rowF_alloc HRO.out (.cells #[.int .i64 ia, .int .i64 ib, .int .i64 x.c] 33)).put (k := ia) (by omega) (q : Int)).congr (g := upNow ws t (ior Q (2 ^ ia))) (fun j _ => HST.out j))
                    have HAF2 : Hid ((true = false) → ior Q (2 ^ ia) = P ∧ ∀ (j : Nat) (y : Wy), j < q + 1 → ws[j]? = some y → bit t j = true → bit (ior Q (2 ^ ia)) y.a = bit (ior Q (2 ^ ia)) y.b) := fun h => by cases h
                    obtain ⟨Q2, hQ2e⟩ : ∃ z, ior Q (2 ^ ia) = z := ⟨_, rfl⟩
                    rw [hQ2e] at HF2 hlt2 hlt3 HOR HRO2 HAF2
                    clear hbt hA hB9 HAF HUP HST hvk hv0 hold hQ2e HFO HAT
                    go_wp2_with fail
                    refine wp_region_held_drew (S := (fun w' => w'.cell? ⟨wr.heap.size, 0, none⟩ = some (.int .i64 ia) ∧ w'.cell? ⟨wr.heap.size, 1, none⟩ = some (.int .i64 ib))) (by kernel_rfl) ?_ (fun hHeld => ?_)
                    · exact ⟨cell_of_row _ _ 0 _ _ (0, 0) (heap_alloc_new wr _), cell_of_row _ _ 1 _ _ (0, 0) (heap_alloc_new wr _)⟩
                    refine wpAnyH_take (i := 0) (v := ?_) rfl (by kernel_rfl) (by kernel_rfl) (by kernel_rfl) (fun _ _ _ h => h) (Or.inl ⟨by rfl, ?_⟩) (by assumption) ?_
                    rotate_left
                    · (intro w hSw; (try dsimp only at hSw); (try simp only [List.getElem_toArray, List.getElem_cons_succ, List.getElem_cons_zero]); first | (go_simp; done) | (go_simp; with_reducible rfl))
                    try simp only [Act.put, List.getElem_toArray, List.getElem_cons_succ, List.getElem_cons_zero, List.setIfInBounds_toArray, List.set_cons_zero, List.set_cons_succ]
                    refine wpAnyH_take (i := 1) (v := ?_) rfl (by kernel_rfl) (by kernel_rfl) (by kernel_rfl) (fun _ _ _ h => h) (Or.inl ⟨by rfl, ?_⟩) (by assumption) ?_
                    rotate_left
                    · (intro w hSw; (try dsimp only at hSw); (try simp only [List.getElem_toArray, List.getElem_cons_succ, List.getElem_cons_zero]); first | (go_simp; done) | (go_simp; with_reducible rfl))
                    try simp only [Act.put, List.getElem_toArray, List.getElem_cons_succ, List.getElem_cons_zero, List.setIfInBounds_toArray, List.set_cons_zero, List.set_cons_succ]
                    refine wpAnyH_take (i := 2) (v := ?_) rfl (by kernel_rfl) (by kernel_rfl) (by kernel_rfl) (fun _ _ _ h => h) (Or.inl ⟨by rfl, ?_⟩) (by assumption) ?_
                    rotate_left
                    · (intro w hSw; (try dsimp only at hSw); (try simp only [List.getElem_toArray, List.getElem_cons_succ, List.getElem_cons_zero]); first | (go_simp; done) | (go_simp; with_reducible rfl))
                    try simp only [Act.put, List.getElem_toArray, List.getElem_cons_succ, List.getElem_cons_zero, List.setIfInBounds_toArray, List.set_cons_zero, List.set_cons_succ]
                    refine wpAnyH_take (i := 3) (v := ?_) rfl (by kernel_rfl) (by kernel_rfl) (by kernel_rfl) (fun _ _ _ h => h) (Or.inl ⟨by rfl, ?_⟩) (by assumption) ?_
                    rotate_left
                    · (intro w hSw; (try dsimp only at hSw); (try simp only [List.getElem_toArray, List.getElem_cons_succ, List.getElem_cons_zero]); first | (go_simp; done) | (go_simp; with_reducible rfl))
                    try simp only [Act.put, List.getElem_toArray, List.getElem_cons_succ, List.getElem_cons_zero, List.setIfInBounds_toArray, List.set_cons_zero, List.set_cons_succ]
                    refine wpAnyH_take (i := 4) (v := ?_) rfl (by kernel_rfl) (by kernel_rfl) (by kernel_rfl) (fun _ _ _ h => h) (Or.inl ⟨by rfl, ?_⟩) (by assumption) ?_
                    rotate_left
                    · (intro w hSw; (try dsimp only at hSw); (try simp only [List.getElem_toArray, List.getElem_cons_succ, List.getElem_cons_zero]); first | (go_simp; done) | (go_simp; with_reducible rfl))
                    try simp only [Act.put, List.getElem_toArray, List.getElem_cons_succ, List.getElem_cons_zero, List.setIfInBounds_toArray, List.set_cons_zero, List.set_cons_succ]
                    refine wpAnyH_take (i := 5) (v := ?_) rfl (by kernel_rfl) (by kernel_rfl) (by kernel_rfl) (fun _ _ _ h => h) (Or.inl ⟨by rfl, ?_⟩) (by assumption) ?_
                    rotate_left
                    · (intro w hSw; (try dsimp only at hSw); (try simp only [List.getElem_toArray, List.getElem_cons_succ, List.getElem_cons_zero]); first | (go_simp; done) | (go_simp; with_reducible rfl))
                    try simp only [Act.put, List.getElem_toArray, List.getElem_cons_succ, List.getElem_cons_zero, List.setIfInBounds_toArray, List.set_cons_zero, List.set_cons_succ]
                    refine wpAnyH_take (i := 6) (v := ?_) rfl (by kernel_rfl) (by kernel_rfl) (by kernel_rfl) (fun _ _ _ h => h) (Or.inl ⟨by rfl, ?_⟩) (by assumption) ?_
                    rotate_left
                    · (intro w hSw; (try dsimp only at hSw); (try simp only [List.getElem_toArray, List.getElem_cons_succ, List.getElem_cons_zero]); first | (go_simp; done) | (go_simp; with_reducible rfl))
                    try simp only [Act.put, List.getElem_toArray, List.getElem_cons_succ, List.getElem_cons_zero, List.setIfInBounds_toArray, List.set_cons_zero, List.set_cons_succ]
                    refine wpAnyH_take (i := 7) (v := ?_) rfl (by kernel_rfl) (by kernel_rfl) (by kernel_rfl) (fun _ _ _ h => h) (Or.inl ⟨by rfl, ?_⟩) (by assumption) ?_
                    rotate_left
                    · (intro w hSw; (try dsimp only at hSw); (try simp only [List.getElem_toArray, List.getElem_cons_succ, List.getElem_cons_zero]); first | (go_simp; done) | (go_simp; with_reducible rfl))
                    try simp only [Act.put, List.getElem_toArray, List.getElem_cons_succ, List.getElem_cons_zero, List.setIfInBounds_toArray, List.set_cons_zero, List.set_cons_succ]
                    refine wpAnyH_take (i := 8) (v := ?_) rfl (by kernel_rfl) (by kernel_rfl) (by kernel_rfl) (fun _ _ _ h => h) (Or.inl ⟨by rfl, ?_⟩) (by assumption) ?_
                    rotate_left
                    · (intro w hSw; (try dsimp only at hSw); (try simp only [List.getElem_toArray, List.getElem_cons_succ, List.getElem_cons_zero]); first | (go_simp; done) | (go_simp; with_reducible rfl))
                    try simp only [Act.put, List.getElem_toArray, List.getElem_cons_succ, List.getElem_cons_zero, List.setIfInBounds_toArray, List.set_cons_zero, List.set_cons_succ]
                    refine wpAnyH_take (i := 9) (v := ?_) rfl (by kernel_rfl) (by kernel_rfl) (by kernel_rfl) (fun _ _ _ h => h) (Or.inl ⟨by rfl, ?_⟩) (by assumption) ?_
                    rotate_left
                    · (intro w hSw; (try dsimp only at hSw); (try simp only [List.getElem_toArray, List.getElem_cons_succ, List.getElem_cons_zero]); first | (go_simp; done) | (go_simp; with_reducible rfl))
                    try simp only [Act.put, List.getElem_toArray, List.getElem_cons_succ, List.getElem_cons_zero, List.setIfInBounds_toArray, List.set_cons_zero, List.set_cons_succ]
                    refine wpAnyH_take (i := 10) (v := ?_) rfl (by kernel_rfl) (by kernel_rfl) (by kernel_rfl) (fun _ _ _ h => h) (Or.inl ⟨by rfl, ?_⟩) (by assumption) ?_
                    rotate_left
                    · (intro w hSw; (try dsimp only at hSw); (try simp only [List.getElem_toArray, List.getElem_cons_succ, List.getElem_cons_zero]); first | (go_simp; done) | (go_simp; with_reducible rfl))
                    try simp only [Act.put, List.getElem_toArray, List.getElem_cons_succ, List.getElem_cons_zero, List.setIfInBounds_toArray, List.set_cons_zero, List.set_cons_succ]
                    refine wpAnyH_take (i := 11) (v := ?_) rfl (by kernel_rfl) (by kernel_rfl) (by kernel_rfl) (fun _ _ _ h => h) (Or.inl ⟨by rfl, ?_⟩) (by assumption) ?_
                    rotate_left
                    · (intro w hSw; (try dsimp only at hSw); (try simp only [List.getElem_toArray, List.getElem_cons_succ, List.getElem_cons_zero]); first | (go_simp; done) | (go_simp; with_reducible rfl))
                    try simp only [Act.put, List.getElem_toArray, List.getElem_cons_succ, List.getElem_cons_zero, List.setIfInBounds_toArray, List.set_cons_zero, List.set_cons_succ]
                    refine wpAnyH_take (i := 12) (v := ?_) rfl (by kernel_rfl) (by kernel_rfl) (by kernel_rfl) (fun _ _ _ h => h) (Or.inl ⟨by rfl, ?_⟩) (by assumption) ?_
                    rotate_left
                    · (intro w hSw; (try dsimp only at hSw); (try simp only [List.getElem_toArray, List.getElem_cons_succ, List.getElem_cons_zero]); first | (go_simp; done) | (go_simp; with_reducible rfl))
                    try simp only [Act.put, List.getElem_toArray, List.getElem_cons_succ, List.getElem_cons_zero, List.setIfInBounds_toArray, List.set_cons_zero, List.set_cons_succ]
                    refine wpAnyH_take (i := 13) (v := ?_) rfl (by kernel_rfl) (by kernel_rfl) (by kernel_rfl) (fun _ _ _ h => h) (Or.inl ⟨by rfl, ?_⟩) (by assumption) ?_
                    rotate_left
                    · (intro w hSw; (try dsimp only at hSw); (try simp only [List.getElem_toArray, List.getElem_cons_succ, List.getElem_cons_zero]); first | (go_simp; done) | (go_simp; with_reducible rfl))
                    try simp only [Act.put, List.getElem_toArray, List.getElem_cons_succ, List.getElem_cons_zero, List.setIfInBounds_toArray, List.set_cons_zero, List.set_cons_succ]
                    refine wpAnyH_take (i := 14) (v := ?_) rfl (by kernel_rfl) (by kernel_rfl) (by kernel_rfl) (fun _ _ _ h => h) (Or.inl ⟨by rfl, ?_⟩) (by assumption) ?_
                    rotate_left
                    · (intro w hSw; (try dsimp only at hSw); (try simp only [List.getElem_toArray, List.getElem_cons_succ, List.getElem_cons_zero]); first | (go_simp; done) | (go_simp; with_reducible rfl))
                    try simp only [Act.put, List.getElem_toArray, List.getElem_cons_succ, List.getElem_cons_zero, List.setIfInBounds_toArray, List.set_cons_zero, List.set_cons_succ]
                    refine wpAnyH_take (i := 15) (v := ?_) rfl (by kernel_rfl) (by kernel_rfl) (by kernel_rfl) (fun _ _ _ h => h) (Or.inl ⟨by rfl, ?_⟩) (by assumption) ?_
                    rotate_left
                    · (intro w hSw; (try dsimp only at hSw); (try simp only [List.getElem_toArray, List.getElem_cons_succ, List.getElem_cons_zero]); first | (go_simp; done) | (go_simp; with_reducible rfl))
                    try simp only [Act.put, List.getElem_toArray, List.getElem_cons_succ, List.getElem_cons_zero, List.setIfInBounds_toArray, List.set_cons_zero, List.set_cons_succ]
                    refine wpAnyH_take (i := 16) (v := ?_) rfl (by kernel_rfl) (by kernel_rfl) (by kernel_rfl) (fun _ _ _ h => h) (Or.inl ⟨by rfl, ?_⟩) (by assumption) ?_
                    rotate_left
                    · (intro w hSw; (try dsimp only at hSw); (try simp only [List.getElem_toArray, List.getElem_cons_succ, List.getElem_cons_zero]); first | (go_simp; done) | (go_simp; with_reducible rfl))
                    try simp only [Act.put, List.getElem_toArray, List.getElem_cons_succ, List.getElem_cons_zero, List.setIfInBounds_toArray, List.set_cons_zero, List.set_cons_succ]
                    refine wpAnyH_take (i := 17) (v := ?_) rfl (by kernel_rfl) (by kernel_rfl) (by kernel_rfl) (fun _ _ _ h => h) (Or.inl ⟨by rfl, ?_⟩) (by assumption) ?_
                    rotate_left
                    · (intro w hSw; (try dsimp only at hSw); (try simp only [List.getElem_toArray, List.getElem_cons_succ, List.getElem_cons_zero]); first | (go_simp; done) | (go_simp; with_reducible rfl))
                    try simp only [Act.put, List.getElem_toArray, List.getElem_cons_succ, List.getElem_cons_zero, List.setIfInBounds_toArray, List.set_cons_zero, List.set_cons_succ]
                    refine wpAnyH_done (by kernel_rfl) ?_ _
                    have wk := HWK.out
                    have wk2 := HWK2.out
                    have hor := HOR.out
                    go_wp2_with fail
                    clear wk wk2 hor
                    go_roundw
                    case rel => exact ⟨q + 1, Q2, true, by omega, by go_num, rfl, rfl, by omega, hlt3, HF2.out, (fun _ => by omega), HAF2.out, (setc_keep (by omega)).trans ((World.cell?_alloc_lt _ _ _ hzz).trans b0), (setc_keep (by omega)).trans ((World.cell?_alloc_lt _ _ _ hzz).trans b1), ((HB0.out.alloc (Nat.le_of_lt hzz) _).setCell (p := ⟨g, o + ia, none⟩) (by show w.heap.size ≤ g; omega) _).drew, by simp [World.setCell]; omega, rowF_drew HRO2.out⟩
                    case measure => (simp [intOf]) <;> omega
                · have ea := bit_one (i := (ia : Int)) ia0 hQ0 hA
                  rw [Int.toNat_natCast] at ea
                  obtain ⟨ea1, ea2⟩ := ea
                  cases hB9 : bit Q ib
                  · have eb := bit_zero (i := (ib : Int)) ib0 hQ0 hB9
                    rw [Int.toNat_natCast] at eb
                    obtain ⟨eb1, eb2⟩ := eb
                    have HUP : Hid (Up ws t (ib : Nat) q) := Found.up HN.out HI.out HFO.out HX.out hbt (v := (ib : Nat)) (u := (ia : Nat)) (by rw [HIA.out, HIB.out]; exact .inr ⟨rfl, rfl⟩) hA hB9
                    have HF2 : Hid (Found (k : Int) ws t (ior Q (2 ^ ib))) := by
                      have h9 := Found.step HN.out HFO.out HX.out hbt (v := (ib : Nat)) (u := (ia : Nat)) (by rw [HIA.out, HIB.out]; exact .inr ⟨rfl, rfl⟩) hA hB9
                      rwa [Int.toNat_natCast] at h9
                    have hlt2 := now_more hQ0 hB9
                    have hvk : (2 : Int) ^ ib < 2 ^ k := by
                      have h9 := Nat.pow_lt_pow_right (a := 2) (by omega) (show ib < k by omega)
                      have e9 : ((2 : Int) ^ ib) = ((2 ^ ib : Nat) : Int) := by simp
                      have e8 : ((2 : Int) ^ k) = ((2 ^ k : Nat) : Int) := by simp
                      omega
                    have hv0 : (0 : Int) < 2 ^ ib := by
                      have e9 : ((2 : Int) ^ ib) = ((2 ^ ib : Nat) : Int) := by simp
                      have := Nat.two_pow_pos ib
                      omega
                    have hlt3 := ior_lt hQ2 hvk
                    have HOR : Hid (bits .or .i64 Q (2 ^ ib) = ior Q (2 ^ ib)) := bits_or _ _ hQ0 (by omega) (by omega) (by omega)
                    have HWK : Hid (IntKind.i64.wrap (2 ^ ib) = 2 ^ ib) := IntWalk.i64_in _ ⟨by omega, by omega⟩
                    have HWK2 : Hid (wrap64 (2 ^ ib) = 2 ^ ib) := IntWalk.wrap64_in _ ⟨by omega, by omega⟩
                    have HST : Hid (∀ j : Nat, (if j = ib then (q : Int) else upNow ws t Q j) = upNow ws t (ior Q (2 ^ ib)) j) := fun j => (upNow_step HN.out (HA.out ib (by omega) (by omega)) HUP.out j).symm
                    obtain ⟨bb, oo, eg, -, -, r1, r2⟩ := (rowF_alloc HRO.out (.cells #[.int .i64 ia, .int .i64 ib, .int .i64 x.c] 33)).at_ ib (by omega)
                    injection eg with eg; injection eg with eg1 eg2; subst eg1; subst eg2
                    obtain ⟨old, hold⟩ : ∃ y, upNow ws t Q ib = y := ⟨_, rfl⟩
                    rw [hold] at r1
                    have HRO2 := Lib.hid (((rowF_alloc HRO.out (.cells #[.int .i64 ia, .int .i64 ib, .int .i64 x.c] 33)).put (k := ib) (by omega) (q : Int)).congr (g := upNow ws t (ior Q (2 ^ ib))) (fun j _ => HST.out j))
                    have HAF2 : Hid ((true = false) → ior Q (2 ^ ib) = P ∧ ∀ (j : Nat) (y : Wy), j < q + 1 → ws[j]? = some y → bit t j = true → bit (ior Q (2 ^ ib)) y.a = bit (ior Q (2 ^ ib)) y.b) := fun h => by cases h
                    obtain ⟨Q2, hQ2e⟩ : ∃ z, ior Q (2 ^ ib) = z := ⟨_, rfl⟩
                    rw [hQ2e] at HF2 hlt2 hlt3 HOR HRO2 HAF2
                    clear hbt hA hB9 HAF HUP HST hvk hv0 hold hQ2e HFO HAT
                    go_wp2_with fail
                    refine wp_region_held_drew (S := (fun w' => w'.cell? ⟨wr.heap.size, 0, none⟩ = some (.int .i64 ia) ∧ w'.cell? ⟨wr.heap.size, 1, none⟩ = some (.int .i64 ib))) (by kernel_rfl) ?_ (fun hHeld => ?_)
                    · exact ⟨cell_of_row _ _ 0 _ _ (0, 0) (heap_alloc_new wr _), cell_of_row _ _ 1 _ _ (0, 0) (heap_alloc_new wr _)⟩
                    refine wpAnyH_take (i := 0) (v := ?_) rfl (by kernel_rfl) (by kernel_rfl) (by kernel_rfl) (fun _ _ _ h => h) (Or.inl ⟨by rfl, ?_⟩) (by assumption) ?_
                    rotate_left
                    · (intro w hSw; (try dsimp only at hSw); (try simp only [List.getElem_toArray, List.getElem_cons_succ, List.getElem_cons_zero]); first | (go_simp; done) | (go_simp; with_reducible rfl))
                    try simp only [Act.put, List.getElem_toArray, List.getElem_cons_succ, List.getElem_cons_zero, List.setIfInBounds_toArray, List.set_cons_zero, List.set_cons_succ]
                    refine wpAnyH_take (i := 1) (v := ?_) rfl (by kernel_rfl) (by kernel_rfl) (by kernel_rfl) (fun _ _ _ h => h) (Or.inl ⟨by rfl, ?_⟩) (by assumption) ?_
                    rotate_left
                    · (intro w hSw; (try dsimp only at hSw); (try simp only [List.getElem_toArray, List.getElem_cons_succ, List.getElem_cons_zero]); first | (go_simp; done) | (go_simp; with_reducible rfl))
                    try simp only [Act.put, List.getElem_toArray, List.getElem_cons_succ, List.getElem_cons_zero, List.setIfInBounds_toArray, List.set_cons_zero, List.set_cons_succ]
                    refine wpAnyH_take (i := 2) (v := ?_) rfl (by kernel_rfl) (by kernel_rfl) (by kernel_rfl) (fun _ _ _ h => h) (Or.inl ⟨by rfl, ?_⟩) (by assumption) ?_
                    rotate_left
                    · (intro w hSw; (try dsimp only at hSw); (try simp only [List.getElem_toArray, List.getElem_cons_succ, List.getElem_cons_zero]); first | (go_simp; done) | (go_simp; with_reducible rfl))
                    try simp only [Act.put, List.getElem_toArray, List.getElem_cons_succ, List.getElem_cons_zero, List.setIfInBounds_toArray, List.set_cons_zero, List.set_cons_succ]
                    refine wpAnyH_take (i := 3) (v := ?_) rfl (by kernel_rfl) (by kernel_rfl) (by kernel_rfl) (fun _ _ _ h => h) (Or.inl ⟨by rfl, ?_⟩) (by assumption) ?_
                    rotate_left
                    · (intro w hSw; (try dsimp only at hSw); (try simp only [List.getElem_toArray, List.getElem_cons_succ, List.getElem_cons_zero]); first | (go_simp; done) | (go_simp; with_reducible rfl))
                    try simp only [Act.put, List.getElem_toArray, List.getElem_cons_succ, List.getElem_cons_zero, List.setIfInBounds_toArray, List.set_cons_zero, List.set_cons_succ]
                    refine wpAnyH_take (i := 4) (v := ?_) rfl (by kernel_rfl) (by kernel_rfl) (by kernel_rfl) (fun _ _ _ h => h) (Or.inl ⟨by rfl, ?_⟩) (by assumption) ?_
                    rotate_left
                    · (intro w hSw; (try dsimp only at hSw); (try simp only [List.getElem_toArray, List.getElem_cons_succ, List.getElem_cons_zero]); first | (go_simp; done) | (go_simp; with_reducible rfl))
                    try simp only [Act.put, List.getElem_toArray, List.getElem_cons_succ, List.getElem_cons_zero, List.setIfInBounds_toArray, List.set_cons_zero, List.set_cons_succ]
                    refine wpAnyH_take (i := 5) (v := ?_) rfl (by kernel_rfl) (by kernel_rfl) (by kernel_rfl) (fun _ _ _ h => h) (Or.inl ⟨by rfl, ?_⟩) (by assumption) ?_
                    rotate_left
                    · (intro w hSw; (try dsimp only at hSw); (try simp only [List.getElem_toArray, List.getElem_cons_succ, List.getElem_cons_zero]); first | (go_simp; done) | (go_simp; with_reducible rfl))
                    try simp only [Act.put, List.getElem_toArray, List.getElem_cons_succ, List.getElem_cons_zero, List.setIfInBounds_toArray, List.set_cons_zero, List.set_cons_succ]
                    refine wpAnyH_take (i := 6) (v := ?_) rfl (by kernel_rfl) (by kernel_rfl) (by kernel_rfl) (fun _ _ _ h => h) (Or.inl ⟨by rfl, ?_⟩) (by assumption) ?_
                    rotate_left
                    · (intro w hSw; (try dsimp only at hSw); (try simp only [List.getElem_toArray, List.getElem_cons_succ, List.getElem_cons_zero]); first | (go_simp; done) | (go_simp; with_reducible rfl))
                    try simp only [Act.put, List.getElem_toArray, List.getElem_cons_succ, List.getElem_cons_zero, List.setIfInBounds_toArray, List.set_cons_zero, List.set_cons_succ]
                    refine wpAnyH_take (i := 7) (v := ?_) rfl (by kernel_rfl) (by kernel_rfl) (by kernel_rfl) (fun _ _ _ h => h) (Or.inl ⟨by rfl, ?_⟩) (by assumption) ?_
                    rotate_left
                    · (intro w hSw; (try dsimp only at hSw); (try simp only [List.getElem_toArray, List.getElem_cons_succ, List.getElem_cons_zero]); first | (go_simp; done) | (go_simp; with_reducible rfl))
                    try simp only [Act.put, List.getElem_toArray, List.getElem_cons_succ, List.getElem_cons_zero, List.setIfInBounds_toArray, List.set_cons_zero, List.set_cons_succ]
                    refine wpAnyH_take (i := 8) (v := ?_) rfl (by kernel_rfl) (by kernel_rfl) (by kernel_rfl) (fun _ _ _ h => h) (Or.inl ⟨by rfl, ?_⟩) (by assumption) ?_
                    rotate_left
                    · (intro w hSw; (try dsimp only at hSw); (try simp only [List.getElem_toArray, List.getElem_cons_succ, List.getElem_cons_zero]); first | (go_simp; done) | (go_simp; with_reducible rfl))
                    try simp only [Act.put, List.getElem_toArray, List.getElem_cons_succ, List.getElem_cons_zero, List.setIfInBounds_toArray, List.set_cons_zero, List.set_cons_succ]
                    refine wpAnyH_take (i := 9) (v := ?_) rfl (by kernel_rfl) (by kernel_rfl) (by kernel_rfl) (fun _ _ _ h => h) (Or.inl ⟨by rfl, ?_⟩) (by assumption) ?_
                    rotate_left
                    · (intro w hSw; (try dsimp only at hSw); (try simp only [List.getElem_toArray, List.getElem_cons_succ, List.getElem_cons_zero]); first | (go_simp; done) | (go_simp; with_reducible rfl))
                    try simp only [Act.put, List.getElem_toArray, List.getElem_cons_succ, List.getElem_cons_zero, List.setIfInBounds_toArray, List.set_cons_zero, List.set_cons_succ]
                    refine wpAnyH_take (i := 10) (v := ?_) rfl (by kernel_rfl) (by kernel_rfl) (by kernel_rfl) (fun _ _ _ h => h) (Or.inl ⟨by rfl, ?_⟩) (by assumption) ?_
                    rotate_left
                    · (intro w hSw; (try dsimp only at hSw); (try simp only [List.getElem_toArray, List.getElem_cons_succ, List.getElem_cons_zero]); first | (go_simp; done) | (go_simp; with_reducible rfl))
                    try simp only [Act.put, List.getElem_toArray, List.getElem_cons_succ, List.getElem_cons_zero, List.setIfInBounds_toArray, List.set_cons_zero, List.set_cons_succ]
                    refine wpAnyH_take (i := 11) (v := ?_) rfl (by kernel_rfl) (by kernel_rfl) (by kernel_rfl) (fun _ _ _ h => h) (Or.inl ⟨by rfl, ?_⟩) (by assumption) ?_
                    rotate_left
                    · (intro w hSw; (try dsimp only at hSw); (try simp only [List.getElem_toArray, List.getElem_cons_succ, List.getElem_cons_zero]); first | (go_simp; done) | (go_simp; with_reducible rfl))
                    try simp only [Act.put, List.getElem_toArray, List.getElem_cons_succ, List.getElem_cons_zero, List.setIfInBounds_toArray, List.set_cons_zero, List.set_cons_succ]
                    refine wpAnyH_take (i := 12) (v := ?_) rfl (by kernel_rfl) (by kernel_rfl) (by kernel_rfl) (fun _ _ _ h => h) (Or.inl ⟨by rfl, ?_⟩) (by assumption) ?_
                    rotate_left
                    · (intro w hSw; (try dsimp only at hSw); (try simp only [List.getElem_toArray, List.getElem_cons_succ, List.getElem_cons_zero]); first | (go_simp; done) | (go_simp; with_reducible rfl))
                    try simp only [Act.put, List.getElem_toArray, List.getElem_cons_succ, List.getElem_cons_zero, List.setIfInBounds_toArray, List.set_cons_zero, List.set_cons_succ]
                    refine wpAnyH_take (i := 13) (v := ?_) rfl (by kernel_rfl) (by kernel_rfl) (by kernel_rfl) (fun _ _ _ h => h) (Or.inl ⟨by rfl, ?_⟩) (by assumption) ?_
                    rotate_left
                    · (intro w hSw; (try dsimp only at hSw); (try simp only [List.getElem_toArray, List.getElem_cons_succ, List.getElem_cons_zero]); first | (go_simp; done) | (go_simp; with_reducible rfl))
                    try simp only [Act.put, List.getElem_toArray, List.getElem_cons_succ, List.getElem_cons_zero, List.setIfInBounds_toArray, List.set_cons_zero, List.set_cons_succ]
                    refine wpAnyH_take (i := 14) (v := ?_) rfl (by kernel_rfl) (by kernel_rfl) (by kernel_rfl) (fun _ _ _ h => h) (Or.inl ⟨by rfl, ?_⟩) (by assumption) ?_
                    rotate_left
                    · (intro w hSw; (try dsimp only at hSw); (try simp only [List.getElem_toArray, List.getElem_cons_succ, List.getElem_cons_zero]); first | (go_simp; done) | (go_simp; with_reducible rfl))
                    try simp only [Act.put, List.getElem_toArray, List.getElem_cons_succ, List.getElem_cons_zero, List.setIfInBounds_toArray, List.set_cons_zero, List.set_cons_succ]
                    refine wpAnyH_take (i := 15) (v := ?_) rfl (by kernel_rfl) (by kernel_rfl) (by kernel_rfl) (fun _ _ _ h => h) (Or.inl ⟨by rfl, ?_⟩) (by assumption) ?_
                    rotate_left
                    · (intro w hSw; (try dsimp only at hSw); (try simp only [List.getElem_toArray, List.getElem_cons_succ, List.getElem_cons_zero]); first | (go_simp; done) | (go_simp; with_reducible rfl))
                    try simp only [Act.put, List.getElem_toArray, List.getElem_cons_succ, List.getElem_cons_zero, List.setIfInBounds_toArray, List.set_cons_zero, List.set_cons_succ]
                    refine wpAnyH_take (i := 16) (v := ?_) rfl (by kernel_rfl) (by kernel_rfl) (by kernel_rfl) (fun _ _ _ h => h) (Or.inl ⟨by rfl, ?_⟩) (by assumption) ?_
                    rotate_left
                    · (intro w hSw; (try dsimp only at hSw); (try simp only [List.getElem_toArray, List.getElem_cons_succ, List.getElem_cons_zero]); first | (go_simp; done) | (go_simp; with_reducible rfl))
                    try simp only [Act.put, List.getElem_toArray, List.getElem_cons_succ, List.getElem_cons_zero, List.setIfInBounds_toArray, List.set_cons_zero, List.set_cons_succ]
                    refine wpAnyH_take (i := 17) (v := ?_) rfl (by kernel_rfl) (by kernel_rfl) (by kernel_rfl) (fun _ _ _ h => h) (Or.inl ⟨by rfl, ?_⟩) (by assumption) ?_
                    rotate_left
                    · (intro w hSw; (try dsimp only at hSw); (try simp only [List.getElem_toArray, List.getElem_cons_succ, List.getElem_cons_zero]); first | (go_simp; done) | (go_simp; with_reducible rfl))
                    try simp only [Act.put, List.getElem_toArray, List.getElem_cons_succ, List.getElem_cons_zero, List.setIfInBounds_toArray, List.set_cons_zero, List.set_cons_succ]
                    refine wpAnyH_done (by kernel_rfl) ?_ _
                    have wk := HWK.out
                    have wk2 := HWK2.out
                    have hor := HOR.out
                    go_wp2_with fail
                    clear wk wk2 hor
                    go_roundw
                    case rel => exact ⟨q + 1, Q2, true, by omega, by go_num, rfl, rfl, by omega, hlt3, HF2.out, (fun _ => by omega), HAF2.out, (setc_keep (by omega)).trans ((World.cell?_alloc_lt _ _ _ hzz).trans b0), (setc_keep (by omega)).trans ((World.cell?_alloc_lt _ _ _ hzz).trans b1), ((HB0.out.alloc (Nat.le_of_lt hzz) _).setCell (p := ⟨g, o + ib, none⟩) (by show w.heap.size ≤ g; omega) _).drew, by simp [World.setCell]; omega, rowF_drew HRO2.out⟩
                    case measure => (simp [intOf]) <;> omega
                  · have eb := bit_one (i := (ib : Int)) ib0 hQ0 hB9
                    rw [Int.toNat_natCast] at eb
                    obtain ⟨eb1, eb2⟩ := eb
                    have HAF2 : Hid (ag = false → Q = P ∧ ∀ (j : Nat) (y : Wy), j < q + 1 → ws[j]? = some y → bit t j = true → bit Q y.a = bit Q y.b) := fun h => ⟨(HAF.out h).1, fun j y hj hy ht => by
                      by_cases e : j = q
                      · subst e
                        have := HX.out.symm.trans hy
                        obtain rfl := Option.some.inj this
                        rw [HIA.out, HIB.out, hA, hB9]
                      · exact (HAF.out h).2 j y (by omega) hy ht⟩
                    clear hbt hA hB9 HAF
                    go_wp2_with fail
                    refine wp_region_held_drew (S := (fun w' => w'.cell? ⟨wr.heap.size, 0, none⟩ = some (.int .i64 ia) ∧ w'.cell? ⟨wr.heap.size, 1, none⟩ = some (.int .i64 ib))) (by kernel_rfl) ?_ (fun hHeld => ?_)
                    · exact ⟨cell_of_row _ _ 0 _ _ (0, 0) (heap_alloc_new wr _), cell_of_row _ _ 1 _ _ (0, 0) (heap_alloc_new wr _)⟩
                    refine wpAnyH_take (i := 0) (v := ?_) rfl (by kernel_rfl) (by kernel_rfl) (by kernel_rfl) (fun _ _ _ h => h) (Or.inl ⟨by rfl, ?_⟩) (by assumption) ?_
                    rotate_left
                    · (intro w hSw; (try dsimp only at hSw); (try simp only [List.getElem_toArray, List.getElem_cons_succ, List.getElem_cons_zero]); first | (go_simp; done) | (go_simp; with_reducible rfl))
                    try simp only [Act.put, List.getElem_toArray, List.getElem_cons_succ, List.getElem_cons_zero, List.setIfInBounds_toArray, List.set_cons_zero, List.set_cons_succ]
                    refine wpAnyH_take (i := 1) (v := ?_) rfl (by kernel_rfl) (by kernel_rfl) (by kernel_rfl) (fun _ _ _ h => h) (Or.inl ⟨by rfl, ?_⟩) (by assumption) ?_
                    rotate_left
                    · (intro w hSw; (try dsimp only at hSw); (try simp only [List.getElem_toArray, List.getElem_cons_succ, List.getElem_cons_zero]); first | (go_simp; done) | (go_simp; with_reducible rfl))
                    try simp only [Act.put, List.getElem_toArray, List.getElem_cons_succ, List.getElem_cons_zero, List.setIfInBounds_toArray, List.set_cons_zero, List.set_cons_succ]
                    refine wpAnyH_take (i := 2) (v := ?_) rfl (by kernel_rfl) (by kernel_rfl) (by kernel_rfl) (fun _ _ _ h => h) (Or.inl ⟨by rfl, ?_⟩) (by assumption) ?_
                    rotate_left
                    · (intro w hSw; (try dsimp only at hSw); (try simp only [List.getElem_toArray, List.getElem_cons_succ, List.getElem_cons_zero]); first | (go_simp; done) | (go_simp; with_reducible rfl))
                    try simp only [Act.put, List.getElem_toArray, List.getElem_cons_succ, List.getElem_cons_zero, List.setIfInBounds_toArray, List.set_cons_zero, List.set_cons_succ]
                    refine wpAnyH_take (i := 3) (v := ?_) rfl (by kernel_rfl) (by kernel_rfl) (by kernel_rfl) (fun _ _ _ h => h) (Or.inl ⟨by rfl, ?_⟩) (by assumption) ?_
                    rotate_left
                    · (intro w hSw; (try dsimp only at hSw); (try simp only [List.getElem_toArray, List.getElem_cons_succ, List.getElem_cons_zero]); first | (go_simp; done) | (go_simp; with_reducible rfl))
                    try simp only [Act.put, List.getElem_toArray, List.getElem_cons_succ, List.getElem_cons_zero, List.setIfInBounds_toArray, List.set_cons_zero, List.set_cons_succ]
                    refine wpAnyH_take (i := 4) (v := ?_) rfl (by kernel_rfl) (by kernel_rfl) (by kernel_rfl) (fun _ _ _ h => h) (Or.inl ⟨by rfl, ?_⟩) (by assumption) ?_
                    rotate_left
                    · (intro w hSw; (try dsimp only at hSw); (try simp only [List.getElem_toArray, List.getElem_cons_succ, List.getElem_cons_zero]); first | (go_simp; done) | (go_simp; with_reducible rfl))
                    try simp only [Act.put, List.getElem_toArray, List.getElem_cons_succ, List.getElem_cons_zero, List.setIfInBounds_toArray, List.set_cons_zero, List.set_cons_succ]
                    refine wpAnyH_take (i := 5) (v := ?_) rfl (by kernel_rfl) (by kernel_rfl) (by kernel_rfl) (fun _ _ _ h => h) (Or.inl ⟨by rfl, ?_⟩) (by assumption) ?_
                    rotate_left
                    · (intro w hSw; (try dsimp only at hSw); (try simp only [List.getElem_toArray, List.getElem_cons_succ, List.getElem_cons_zero]); first | (go_simp; done) | (go_simp; with_reducible rfl))
                    try simp only [Act.put, List.getElem_toArray, List.getElem_cons_succ, List.getElem_cons_zero, List.setIfInBounds_toArray, List.set_cons_zero, List.set_cons_succ]
                    refine wpAnyH_take (i := 6) (v := ?_) rfl (by kernel_rfl) (by kernel_rfl) (by kernel_rfl) (fun _ _ _ h => h) (Or.inl ⟨by rfl, ?_⟩) (by assumption) ?_
                    rotate_left
                    · (intro w hSw; (try dsimp only at hSw); (try simp only [List.getElem_toArray, List.getElem_cons_succ, List.getElem_cons_zero]); first | (go_simp; done) | (go_simp; with_reducible rfl))
                    try simp only [Act.put, List.getElem_toArray, List.getElem_cons_succ, List.getElem_cons_zero, List.setIfInBounds_toArray, List.set_cons_zero, List.set_cons_succ]
                    refine wpAnyH_take (i := 7) (v := ?_) rfl (by kernel_rfl) (by kernel_rfl) (by kernel_rfl) (fun _ _ _ h => h) (Or.inl ⟨by rfl, ?_⟩) (by assumption) ?_
                    rotate_left
                    · (intro w hSw; (try dsimp only at hSw); (try simp only [List.getElem_toArray, List.getElem_cons_succ, List.getElem_cons_zero]); first | (go_simp; done) | (go_simp; with_reducible rfl))
                    try simp only [Act.put, List.getElem_toArray, List.getElem_cons_succ, List.getElem_cons_zero, List.setIfInBounds_toArray, List.set_cons_zero, List.set_cons_succ]
                    refine wpAnyH_take (i := 8) (v := ?_) rfl (by kernel_rfl) (by kernel_rfl) (by kernel_rfl) (fun _ _ _ h => h) (Or.inl ⟨by rfl, ?_⟩) (by assumption) ?_
                    rotate_left
                    · (intro w hSw; (try dsimp only at hSw); (try simp only [List.getElem_toArray, List.getElem_cons_succ, List.getElem_cons_zero]); first | (go_simp; done) | (go_simp; with_reducible rfl))
                    try simp only [Act.put, List.getElem_toArray, List.getElem_cons_succ, List.getElem_cons_zero, List.setIfInBounds_toArray, List.set_cons_zero, List.set_cons_succ]
                    refine wpAnyH_take (i := 9) (v := ?_) rfl (by kernel_rfl) (by kernel_rfl) (by kernel_rfl) (fun _ _ _ h => h) (Or.inl ⟨by rfl, ?_⟩) (by assumption) ?_
                    rotate_left
                    · (intro w hSw; (try dsimp only at hSw); (try simp only [List.getElem_toArray, List.getElem_cons_succ, List.getElem_cons_zero]); first | (go_simp; done) | (go_simp; with_reducible rfl))
                    try simp only [Act.put, List.getElem_toArray, List.getElem_cons_succ, List.getElem_cons_zero, List.setIfInBounds_toArray, List.set_cons_zero, List.set_cons_succ]
                    refine wpAnyH_take (i := 10) (v := ?_) rfl (by kernel_rfl) (by kernel_rfl) (by kernel_rfl) (fun _ _ _ h => h) (Or.inl ⟨by rfl, ?_⟩) (by assumption) ?_
                    rotate_left
                    · (intro w hSw; (try dsimp only at hSw); (try simp only [List.getElem_toArray, List.getElem_cons_succ, List.getElem_cons_zero]); first | (go_simp; done) | (go_simp; with_reducible rfl))
                    try simp only [Act.put, List.getElem_toArray, List.getElem_cons_succ, List.getElem_cons_zero, List.setIfInBounds_toArray, List.set_cons_zero, List.set_cons_succ]
                    refine wpAnyH_take (i := 11) (v := ?_) rfl (by kernel_rfl) (by kernel_rfl) (by kernel_rfl) (fun _ _ _ h => h) (Or.inl ⟨by rfl, ?_⟩) (by assumption) ?_
                    rotate_left
                    · (intro w hSw; (try dsimp only at hSw); (try simp only [List.getElem_toArray, List.getElem_cons_succ, List.getElem_cons_zero]); first | (go_simp; done) | (go_simp; with_reducible rfl))
                    try simp only [Act.put, List.getElem_toArray, List.getElem_cons_succ, List.getElem_cons_zero, List.setIfInBounds_toArray, List.set_cons_zero, List.set_cons_succ]
                    refine wpAnyH_take (i := 12) (v := ?_) rfl (by kernel_rfl) (by kernel_rfl) (by kernel_rfl) (fun _ _ _ h => h) (Or.inl ⟨by rfl, ?_⟩) (by assumption) ?_
                    rotate_left
                    · (intro w hSw; (try dsimp only at hSw); (try simp only [List.getElem_toArray, List.getElem_cons_succ, List.getElem_cons_zero]); first | (go_simp; done) | (go_simp; with_reducible rfl))
                    try simp only [Act.put, List.getElem_toArray, List.getElem_cons_succ, List.getElem_cons_zero, List.setIfInBounds_toArray, List.set_cons_zero, List.set_cons_succ]
                    refine wpAnyH_take (i := 13) (v := ?_) rfl (by kernel_rfl) (by kernel_rfl) (by kernel_rfl) (fun _ _ _ h => h) (Or.inl ⟨by rfl, ?_⟩) (by assumption) ?_
                    rotate_left
                    · (intro w hSw; (try dsimp only at hSw); (try simp only [List.getElem_toArray, List.getElem_cons_succ, List.getElem_cons_zero]); first | (go_simp; done) | (go_simp; with_reducible rfl))
                    try simp only [Act.put, List.getElem_toArray, List.getElem_cons_succ, List.getElem_cons_zero, List.setIfInBounds_toArray, List.set_cons_zero, List.set_cons_succ]
                    refine wpAnyH_take (i := 14) (v := ?_) rfl (by kernel_rfl) (by kernel_rfl) (by kernel_rfl) (fun _ _ _ h => h) (Or.inl ⟨by rfl, ?_⟩) (by assumption) ?_
                    rotate_left
                    · (intro w hSw; (try dsimp only at hSw); (try simp only [List.getElem_toArray, List.getElem_cons_succ, List.getElem_cons_zero]); first | (go_simp; done) | (go_simp; with_reducible rfl))
                    try simp only [Act.put, List.getElem_toArray, List.getElem_cons_succ, List.getElem_cons_zero, List.setIfInBounds_toArray, List.set_cons_zero, List.set_cons_succ]
                    refine wpAnyH_take (i := 15) (v := ?_) rfl (by kernel_rfl) (by kernel_rfl) (by kernel_rfl) (fun _ _ _ h => h) (Or.inl ⟨by rfl, ?_⟩) (by assumption) ?_
                    rotate_left
                    · (intro w hSw; (try dsimp only at hSw); (try simp only [List.getElem_toArray, List.getElem_cons_succ, List.getElem_cons_zero]); first | (go_simp; done) | (go_simp; with_reducible rfl))
                    try simp only [Act.put, List.getElem_toArray, List.getElem_cons_succ, List.getElem_cons_zero, List.setIfInBounds_toArray, List.set_cons_zero, List.set_cons_succ]
                    refine wpAnyH_take (i := 16) (v := ?_) rfl (by kernel_rfl) (by kernel_rfl) (by kernel_rfl) (fun _ _ _ h => h) (Or.inl ⟨by rfl, ?_⟩) (by assumption) ?_
                    rotate_left
                    · (intro w hSw; (try dsimp only at hSw); (try simp only [List.getElem_toArray, List.getElem_cons_succ, List.getElem_cons_zero]); first | (go_simp; done) | (go_simp; with_reducible rfl))
                    try simp only [Act.put, List.getElem_toArray, List.getElem_cons_succ, List.getElem_cons_zero, List.setIfInBounds_toArray, List.set_cons_zero, List.set_cons_succ]
                    refine wpAnyH_take (i := 17) (v := ?_) rfl (by kernel_rfl) (by kernel_rfl) (by kernel_rfl) (fun _ _ _ h => h) (Or.inl ⟨by rfl, ?_⟩) (by assumption) ?_
                    rotate_left
                    · (intro w hSw; (try dsimp only at hSw); (try simp only [List.getElem_toArray, List.getElem_cons_succ, List.getElem_cons_zero]); first | (go_simp; done) | (go_simp; with_reducible rfl))
                    try simp only [Act.put, List.getElem_toArray, List.getElem_cons_succ, List.getElem_cons_zero, List.setIfInBounds_toArray, List.set_cons_zero, List.set_cons_succ]
                    refine wpAnyH_done (by kernel_rfl) ?_ _
                    go_wp2_with fail
                    go_roundw
                    case rel => exact ⟨q + 1, Q, ag, by omega, by go_num, rfl, rfl, hPQ, hQ2, HFO.out, HAT.out, HAF2.out, (World.cell?_alloc_lt _ _ _ hzz).trans b0, (World.cell?_alloc_lt _ _ _ hzz).trans b1, (HB0.out.alloc (Nat.le_of_lt hzz) _).drew, by simp; omega, rowF_drew (rowF_alloc HRO.out _)⟩
                    case measure => (simp [intOf]) <;> omega
            · obtain rfl : q = ws.length := by omega
              have HCL : Hid (ag = false → ∀ (j : Nat) (y : Wy), ws[j]? = some y → bit t j = true → bit Q y.a = bit Q y.b) := fun h j y hy => (HAF.out h).2 j y (List.getElem?_eq_some_iff.1 hy).1 hy
              have HAT1 := HAT.out
              clear HAF HAT hb
              go_wp2_with fail
              go_roundw
              case rel => exact ⟨Q, ag, rfl, rfl, by omega, hQ2, HFO.out, HCL.out, b0, b1, HB0.out, hz, HRO.out⟩
              case measure =>
                cases ag
                · simp [intOf]; omega
                · have := HAT1 rfl
                  simp [intOf]; omega
end Go.Proofs.YtfpaalmbllhmaaaDoor
