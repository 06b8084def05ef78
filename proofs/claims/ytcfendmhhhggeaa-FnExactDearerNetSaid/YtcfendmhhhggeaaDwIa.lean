/- The program's copy of ways; the net with some ways for nothing; the dearer net. -/
import Derived.Test.YtcfendmhhhggeaaDwP
import Derived.Test.YtcfendmhhhggeaaDwE
set_option linter.unusedSimpArgs false
set_option linter.unusedVariables false
attribute [local go_sem ↓] Go.wp_at_zero Go.wp_at_succ
namespace Go.Proofs.Ytcfendmhhhggeaa
open Go.ChangeShapes Go.WideShapes Go.ChangeAt Go.RowKit

/-- ways are copied behind a slice that holds nothing -/
theorem wp_copy_ways {P : Program} {w : World} {o : Oper} {a : Act} {K : Act → World → Prop} {Q : Exit → Act → World → Prop} (s x : Operand) (t : TypeId)
    (ho : o.op = .call { callee := .builtin .append, args := #[s, x], argTypes := #[t, t] })
    (base : Nat) (e : TypeId) (i : TypeInfo) (z : Value) (size bytes : Nat) (ht : P.underlying t = some (.slice e)) (hi : P.info? e = some i) (hz : i.zero = some z)
    (hsize : i.size = size) (hby : i.bytes = bytes) (hzs : z.cells.size = size) (hsz : 0 < size)
    (v : Value) (hs : a.eval s = v) (hown : w.ownsRow base e size v 0 [])
    (ad : Addr) (m c : Nat) (news : List Value) (hx : a.eval x = .slice (some ad) m c) (hl : news.length = m * size) (hnews : ∀ j u, news[j]? = some u → w.cell? (ad.add j) = some u) (h1 : ∀ u ∈ news, u.oneCell' = true)
    (h63 : m ≤ maxLen) (hbytes : m * bytes ≤ 140737488355328) (hbase : base ≤ w.heap.size)
    (h : ∀ A1 c1 w', w'.ownsRow base e size (.slice A1 m c1) m news → w.grownBy w' v.ownBlock → K (a.put o.dst (.slice A1 m c1)) w') : Oper.wp P o a w K Q := by
  obtain ⟨v', w', hr, h2, h3, _, _⟩ := run_append_own_at (P := P) w base t o.type e i z size bytes ht hi hz hsize hby hzs hsz v 0 [] hown ad m c news hl hnews h1 (by omega) (by simpa using hbytes) hbase
  rw [Nat.zero_add, List.nil_append] at h2
  obtain ⟨A1, c1, rfl⟩ : ∃ A1 c1, v' = .slice A1 m c1 := by
    rcases h2.2 with ⟨hv, h0⟩ | ⟨g', c, cur, hv, _⟩
    · exact ⟨none, 0, by rw [hv, h0]⟩
    · exact ⟨_, c, hv⟩
  unfold Oper.wp execOp
  simp only [ho, resolve, invoke, builtin, Sem.run_bind, Sem.run_pure, Result.andThen_ok, List.map_toArray, List.map_cons, List.map_nil, hs, hx, hr]
  exact h A1 c1 w' h2 h3
theorem wpList_copy_ways {P : Program} {w : World} {ops : Array Oper} {rest : List Oper} {o : Oper} {a : Act} {Q : Exit → Act → World → Prop} (hgd : o.guard = none) (s x : Operand) (t : TypeId)
    (ho : o.op = .call { callee := .builtin .append, args := #[s, x], argTypes := #[t, t] })
    (base : Nat) (e : TypeId) (i : TypeInfo) (z : Value) (size bytes : Nat) (ht : P.underlying t = some (.slice e)) (hi : P.info? e = some i) (hz : i.zero = some z)
    (hsize : i.size = size) (hby : i.bytes = bytes) (hzs : z.cells.size = size) (hsz : 0 < size)
    (v : Value) (hs : a.eval s = v) (hown : w.ownsRow base e size v 0 [])
    (ad : Addr) (m c : Nat) (news : List Value) (hx : a.eval x = .slice (some ad) m c) (hl : news.length = m * size) (hnews : ∀ j u, news[j]? = some u → w.cell? (ad.add j) = some u) (h1 : ∀ u ∈ news, u.oneCell' = true)
    (h63 : m ≤ maxLen) (hbytes : m * bytes ≤ 140737488355328) (hbase : base ≤ w.heap.size)
    (h : ∀ A1 c1 w', w'.ownsRow base e size (.slice A1 m c1) m news → w.grownBy w' v.ownBlock → wpList P ops Q rest (a.put o.dst (.slice A1 m c1)) w') : wpList P ops Q (o :: rest) a w :=
  wpList_plain hgd fun _ hK => wp_copy_ways s x t ho base e i z size bytes ht hi hz hsize hby hzs hsz v hs hown ad m c news hx hl hnews h1 h63 hbytes hbase fun A1 c1 w' h2 h3 => hK _ _ (h A1 c1 w' h2 h3)
set_option maxHeartbeats 1000000 in
theorem slClone_any (A : Option Addr) (cap : Nat) (ws : List Wy) (w : World) (hr : RW w w.heap.size A ws) (hm : ws.length ≤ 1048576) :
    Calls Try.prog 16 #[.slice A ws.length cap] w fun e w' => ∃ A1 c1, e = .returned (.slice A1 ws.length c1) ∧ w'.ownsRow w.heap.size 39 3 (.slice A1 ws.length c1) ws.length (wyCells ws) ∧ Below w.heap.size w w' := by
  obtain ⟨i0, hi0, hz0, hz1', hz2⟩ := info_parts infoWy
  cases A with
  | none =>
    have hl : ws = [] := by
      cases ws with
      | nil => rfl
      | cons x r => obtain ⟨b, o, h, _⟩ := hr 0 x rfl; cases h
    subst hl
    have he : ∀ W : World, (binOp .eql 26 (.slice none 0 cap) (.slice none 0 0)).run Try.prog W = .ok (.bool true) W := fun _ => rfl
    clear hr hm
    go_enter Try.func16, Try.ntmps16
    go_wp2_with fail
    go_ret
    exact ⟨none, 0, rfl, World.ownsRow_nil _ _ _ _, by go_grown⟩
  | some ad =>
    have hnews : ∀ W, Below w.heap.size w W → ∀ j u, (wyCells ws)[j]? = some u → W.cell? (ad.add j) = some u := by
      intro W hW
      cases ws with
      | nil => intro j u h; simp [wyCells] at h
      | cons x r =>
        obtain ⟨b, o, h, _⟩ := hr 0 x rfl
        injection h with h; subst h
        exact RW.news (B := W.heap.size) (hr.later hW)
    have hon : Hid ((w.alloc (.cells #[] 39)).ownsRow w.heap.size 39 3 (.slice (some ⟨w.heap.size, 0, none⟩) 0 0) 0 []) := ⟨rfl, .inr ⟨w.heap.size, 0, #[], rfl, Nat.le_refl _, heap_alloc_new _ _, Nat.le_refl _, Nat.zero_le _, rfl, rfl⟩⟩
    have hnw := Lib.hid (hnews (w.alloc (.cells #[] 39)) ((Below.refl _ _).alloc (Nat.le_refl _) _))
    have he : ∀ W : World, (binOp .eql 26 (.slice (some ad) ws.length cap) (.slice none 0 0)).run Try.prog W = .ok (.bool false) W := fun _ => rfl
    clear hnews hr
    go_enter Try.func16, Try.ntmps16
    go_wp2_with (at_builtin; refine wpList_copy_ways rfl _ _ _ rfl w.heap.size 39 i0 _ 3 24 Try.underlying26 hi0 hz0 hz1' hz2 rfl (by decide) (.slice (some ⟨w.heap.size, 0, none⟩) 0 0) rfl hon.out ad ws.length cap (wyCells ws) rfl (wyCells_len ws) hnw.out (wyCells_one _) (by unfold maxLen; omega) (by omega) (by simp) ?_; intro A5 c5 w5 hown5 hg5; have HG5 := Lib.hid (below_app ((Below.refl w.heap.size w).alloc (Nat.le_refl _) _) hg5 (Nat.le_refl _)); have HO5 := Lib.hid hown5; clear hown5 hg5)
    go_ret
    exact ⟨A5, c5, rfl, HO5.out, HG5.out⟩

/-- behind the copy: a box holds the net, its ways lie in a row of their own -/
structure FrSt (w0 W : World) (nn : Int) (bx lo hi : Nat) (A1 : Option Addr) (c1 : Nat) (ws : List Wy) : Prop where
  low : Below w0.heap.size w0 W
  bl : w0.heap.size ≤ bx
  bh : bx < W.heap.size
  ll : w0.heap.size ≤ lo
  ne : bx < lo ∨ hi ≤ bx
  c0 : W.cell? ⟨bx, 0, none⟩ = some (.int .i64 nn)
  c1' : W.cell? ⟨bx, 1, none⟩ = some (.slice A1 ws.length c1)
  row : RowF W lo hi A1 (ws.length * 3) (wyF ws)
theorem frSt_one {w0 w3 : World} {nn : Int} {A1 : Option Addr} {c1 : Nat} {tw tn : TypeId} {ws : List Wy} (hb : Below w0.heap.size w0 w3) (hown : w3.ownsRow w0.heap.size tw 3 (.slice A1 ws.length c1) ws.length (wyCells ws)) :
    FrSt w0 (w3.alloc (.cells #[.int .i64 nn, .slice A1 ws.length c1] tn)) nn w3.heap.size w0.heap.size w3.heap.size A1 c1 ws :=
  ⟨hb.alloc hb.size _, hb.size, by simp, Nat.le_refl _, .inr (Nat.le_refl _), cell_of_row _ _ 0 _ _ (0, 0) (heap_alloc_new w3 _), cell_of_row _ _ 1 _ _ (0, 0) (heap_alloc_new w3 _), (rowF_of_ways hown).below ((Below.refl _ _).alloc (Nat.le_refl _) _)⟩
theorem frSt_two {w0 w3 : World} {nn : Int} {A1 : Option Addr} {c1 bx : Nat} {tw tn : TypeId} {ws : List Wy} (hb : Below w0.heap.size w0 w3) (e : w0.heap.size = bx) (hown : w3.ownsRow (bx + 1) tw 3 (.slice A1 ws.length c1) ws.length (wyCells ws)) (hbox : w3.heap[bx]? = some (.cells #[.int .i64 0, .slice none 0 0] tn (0, 0))) :
    FrSt w0 ((w3.setCell ⟨bx, 0, none⟩ (.int .i64 nn)).setCell ⟨bx, 1, none⟩ (.slice A1 ws.length c1)) nn bx (bx + 1) w3.heap.size A1 c1 ws := by
  have hlt := (Array.getElem?_eq_some_iff.1 hbox).1
  obtain ⟨t0, t1⟩ := two_cells (v0 := .int .i64 nn) (v1 := .slice A1 ws.length c1) hbox
  exact ⟨(hb.setCell (p := ⟨bx, 0, none⟩) (by simp; omega) _).setCell (p := ⟨bx, 1, none⟩) (by simp; omega) _, by omega, by simpa [World.setCell] using hlt, by omega, .inl (by omega), t0, t1,
    (rowF_of_ways hown).only (((Only.refl bx (bx + 1) w3).setCell (p := ⟨bx, 0, none⟩) ⟨Nat.le_refl _, Nat.lt_succ_self _⟩ _).setCell (p := ⟨bx, 1, none⟩) ⟨Nat.le_refl _, Nat.lt_succ_self _⟩ _) (.inr (Nat.le_refl _))⟩
/-- one more way costs nothing -/
theorem wyF_free {ws : List Wy} {t : Int} {k : Nat} {x : Wy} (hx : ws[k]? = some x) (hb : bit t k = true) (j : Nat) : wyF (frTo ws t (k + 1)) j = if j = k * 3 + 2 then 0 else wyF (frTo ws t k) j := by
  have hk : (frTo ws t k)[k]? = some x := by rw [fr_at, hx, decide_eq_false (by omega)]; rfl
  have hl := (List.getElem?_eq_some_iff.1 hk).1
  rw [fr_in hx hb]
  unfold wyF
  by_cases e : j / 3 = k
  · have h1 : ((frTo ws t k).set k (freeW x))[k]? = some (freeW x) := by rw [List.getElem?_set]; simp [hl]
    rw [e, h1, hk]
    by_cases e2 : j = k * 3 + 2
    · rw [if_pos e2]
      have h1 : ¬ j % 3 = 0 := by omega
      have h2 : ¬ j % 3 = 1 := by omega
      simp [h1, h2, freeW]
    · rw [if_neg e2]
      have h3 : j % 3 = 0 ∨ j % 3 = 1 := by omega
      rcases h3 with h3 | h3 <;> simp [h3, freeW]
  · rw [List.getElem?_set, if_neg (Ne.symm e), if_neg (by omega)]
theorem RowF.box_ {w : World} {lo hi r : Nat} {A : Option Addr} {m : Nat} {f : Nat → Int} (h : RowF w lo hi A m f) (hr : r < lo) (v0 v1 : Value) : RowF ((w.setCell ⟨r, 0, Option.none⟩ v0).setCell ⟨r, 1, Option.none⟩ v1) lo hi A m f :=
  h.only (((Only.refl r (r + 1) w).setCell (p := ⟨r, 0, Option.none⟩) ⟨Nat.le_refl _, Nat.lt_succ_self _⟩ _).setCell (p := ⟨r, 1, Option.none⟩) ⟨Nat.le_refl _, Nat.lt_succ_self _⟩ _) (.inr hr)
set_option maxRecDepth 100000 in
set_option maxHeartbeats 4000000 in
theorem DearerNet_any (n k b : Int) (A : Option Addr) (cap : Nat) (ws : List Wy) (w : World) (hr : RW w w.heap.size A ws) :
    Calls Try.prog 7 #[.agg #[.int .i64 n, .slice A ws.length cap], .int .i64 k, .int .i64 b] w (NewNetO (dearerNet n ws k b) w) := by
  have HR := Lib.hid hr
  clear hr
  cases hno : netOk n ws
  · have HNO := Lib.hid hno
    rw [dearer_none (by unfold dearerOk; rw [hno]; rfl)]
    unfold NewNetO
    clear hno
    go_enter Try.func7, Try.ntmps7
    go_wp2_with fail
    refine (NetOk_any _ _ _ _ _ (HR.out.later (by go_grown))).mono ?_; rintro e w1 ⟨rfl, hb1⟩
    rw [HNO.out]
    obtain ⟨hc1, hf1⟩ := bcell hb1
    have hz1_0 : w.heap.size < w1.heap.size := by have hq := hb1.size; (try simp at hq); omega
    have HK1 := Lib.hid hb1
    have HB1 := Lib.hid (bstep (B := w.heap.size) (W := w) (by (try have hp := HB0.out); go_grown) (by go_size) hb1); clear hb1
    have hres : w1.heap[w.heap.size + 1]? = some (.cells #[.int .i64 0, .slice none 0 0] 28 (0, 0)) := by
      rw [HK1.out.block _ (by simp)]
      have h9 := heap_alloc_new (w.alloc (.cells #[.int .i64 n, .slice A ws.length cap] 28)) (.cells #[.int .i64 0, .slice none 0 0] 28)
      simpa using h9
    have q0 : w1.cell? ⟨w.heap.size + 1, 0, none⟩ = some (.int .i64 0) := cell_of_row _ _ 0 _ _ (0, 0) hres
    have q1 : w1.cell? ⟨w.heap.size + 1, 1, none⟩ = some (.slice none 0 0) := cell_of_row _ _ 1 _ _ (0, 0) hres
    have f0 : w1.frozen? ⟨w.heap.size + 1, 0, none⟩ = false := by simp [World.frozen?, hres]
    have f1 : w1.frozen? ⟨w.heap.size + 1, 1, none⟩ = false := by simp [World.frozen?, hres]
    have T := Lib.hid (two_cells (v0 := .int .i64 0) (v1 := .slice none 0 0) hres)
    have HL2 := Lib.hid ((HB1.out.setCell (p := ⟨w.heap.size + 1, 0, none⟩) (by simp) (.int .i64 0)).setCell (p := ⟨w.heap.size + 1, 1, none⟩) (by simp) (.slice none 0 0))
    have k10 : w1.cell? ⟨w.heap.size, 0, none⟩ = some (.int .i64 n) := by go_simp
    have k11 : w1.cell? ⟨w.heap.size, 1, none⟩ = some (.slice A ws.length cap) := by go_simp
    clear hres hc1 hf1 HK1
    go_wp2_with fail
    obtain ⟨t0, t1⟩ := T.out
    refine bodyPost_ret (v := .tuple #[.agg #[.int .i64 0, .slice none 0 0], .bool false]) (by simp [results, Try.results7, go_sem, t0, t1]) rfl ?_
    exact ⟨none, 0, rfl, HL2.out⟩
  · have HNO := Lib.hid hno
    have hl9 := (netOk_t hno).len
    by_cases k0 : k < 0
    · rw [dearer_none (by unfold dearerOk; rw [show inB k 0 ((ws.length : Int) - 1) = false from by unfold inB; simp; omega]; simp)]
      unfold NewNetO
      clear hno
      go_enter Try.func7, Try.ntmps7
      go_wp2_with fail
      refine (NetOk_any _ _ _ _ _ (HR.out.later (by go_grown))).mono ?_; rintro e w1 ⟨rfl, hb1⟩
      rw [HNO.out]
      obtain ⟨hc1, hf1⟩ := bcell hb1
      have hz1_0 : w.heap.size < w1.heap.size := by have hq := hb1.size; (try simp at hq); omega
      have HK1 := Lib.hid hb1
      have HB1 := Lib.hid (bstep (B := w.heap.size) (W := w) (by (try have hp := HB0.out); go_grown) (by go_size) hb1); clear hb1
      have hres : w1.heap[w.heap.size + 1]? = some (.cells #[.int .i64 0, .slice none 0 0] 28 (0, 0)) := by
        rw [HK1.out.block _ (by simp)]
        have h9 := heap_alloc_new (w.alloc (.cells #[.int .i64 n, .slice A ws.length cap] 28)) (.cells #[.int .i64 0, .slice none 0 0] 28)
        simpa using h9
      have q0 : w1.cell? ⟨w.heap.size + 1, 0, none⟩ = some (.int .i64 0) := cell_of_row _ _ 0 _ _ (0, 0) hres
      have q1 : w1.cell? ⟨w.heap.size + 1, 1, none⟩ = some (.slice none 0 0) := cell_of_row _ _ 1 _ _ (0, 0) hres
      have f0 : w1.frozen? ⟨w.heap.size + 1, 0, none⟩ = false := by simp [World.frozen?, hres]
      have f1 : w1.frozen? ⟨w.heap.size + 1, 1, none⟩ = false := by simp [World.frozen?, hres]
      have T := Lib.hid (two_cells (v0 := .int .i64 0) (v1 := .slice none 0 0) hres)
      have HL2 := Lib.hid ((HB1.out.setCell (p := ⟨w.heap.size + 1, 0, none⟩) (by simp) (.int .i64 0)).setCell (p := ⟨w.heap.size + 1, 1, none⟩) (by simp) (.slice none 0 0))
      have k10 : w1.cell? ⟨w.heap.size, 0, none⟩ = some (.int .i64 n) := by go_simp
      have k11 : w1.cell? ⟨w.heap.size, 1, none⟩ = some (.slice A ws.length cap) := by go_simp
      clear hres hc1 hf1 HK1
      go_wp2_with fail
      obtain ⟨t0, t1⟩ := T.out
      refine bodyPost_ret (v := .tuple #[.agg #[.int .i64 0, .slice none 0 0], .bool false]) (by simp [results, Try.results7, go_sem, t0, t1]) rfl ?_
      exact ⟨none, 0, rfl, HL2.out⟩
    · obtain ⟨kk, rfl⟩ := Int.eq_ofNat_of_zero_le (show 0 ≤ k by omega)
      by_cases hkl : kk < ws.length
      · have hkli : (kk : Int) < (ws.length : Int) := by omega
        have hkln : ¬ (ws.length : Int) ≤ (kk : Int) := by omega
        have hk0i : ¬ (kk : Int) < 0 := by omega
        obtain ⟨x, hx⟩ : ∃ x, ws[kk]? = some x := ⟨_, List.getElem?_eq_getElem hkl⟩
        have HX := Lib.hid hx
        obtain ⟨ob, oo, hA, hB, g0, g1, g2⟩ := HR.out kk x hx
        subst hA
        have hxc := (netOk_t hno).ok x (List.mem_of_getElem? hx)
        have hc0 : 0 ≤ x.c := by omega
        have hc9 : x.c ≤ 9 := by omega
        by_cases b1 : b < 1
        · rw [dearer_bad hx (.inl b1)]
          unfold NewNetO
          clear hno hx hxc
          go_enter Try.func7, Try.ntmps7
          go_wp2_with fail
          refine (NetOk_any _ _ _ _ _ (HR.out.later (by go_grown))).mono ?_; rintro e w1 ⟨rfl, hb1⟩
          rw [HNO.out]
          obtain ⟨hc1, hf1⟩ := bcell hb1
          have hz1_0 : w.heap.size < w1.heap.size := by have hq := hb1.size; (try simp at hq); omega
          have HK1 := Lib.hid hb1
          have HB1 := Lib.hid (bstep (B := w.heap.size) (W := w) (by (try have hp := HB0.out); go_grown) (by go_size) hb1); clear hb1
          have hres : w1.heap[w.heap.size + 1]? = some (.cells #[.int .i64 0, .slice none 0 0] 28 (0, 0)) := by
            rw [HK1.out.block _ (by simp)]
            have h9 := heap_alloc_new (w.alloc (.cells #[.int .i64 n, .slice (some ⟨ob, oo, none⟩) ws.length cap] 28)) (.cells #[.int .i64 0, .slice none 0 0] 28)
            simpa using h9
          have q0 : w1.cell? ⟨w.heap.size + 1, 0, none⟩ = some (.int .i64 0) := cell_of_row _ _ 0 _ _ (0, 0) hres
          have q1 : w1.cell? ⟨w.heap.size + 1, 1, none⟩ = some (.slice none 0 0) := cell_of_row _ _ 1 _ _ (0, 0) hres
          have f0 : w1.frozen? ⟨w.heap.size + 1, 0, none⟩ = false := by simp [World.frozen?, hres]
          have f1 : w1.frozen? ⟨w.heap.size + 1, 1, none⟩ = false := by simp [World.frozen?, hres]
          have T := Lib.hid (two_cells (v0 := .int .i64 0) (v1 := .slice none 0 0) hres)
          have HL2 := Lib.hid ((HB1.out.setCell (p := ⟨w.heap.size + 1, 0, none⟩) (by simp) (.int .i64 0)).setCell (p := ⟨w.heap.size + 1, 1, none⟩) (by simp) (.slice none 0 0))
          have k10 : w1.cell? ⟨w.heap.size, 0, none⟩ = some (.int .i64 n) := by go_simp
          have k11 : w1.cell? ⟨w.heap.size, 1, none⟩ = some (.slice (some ⟨ob, oo, none⟩) ws.length cap) := by go_simp
          clear hres hc1 hf1 HK1
          go_wp2_with fail
          obtain ⟨t0, t1⟩ := T.out
          refine bodyPost_ret (v := .tuple #[.agg #[.int .i64 0, .slice none 0 0], .bool false]) (by simp [results, Try.results7, go_sem, t0, t1]) rfl ?_
          exact ⟨none, 0, rfl, HL2.out⟩
        · have HW9 : Hid (IntKind.i64.wrap (9 - x.c) = 9 - x.c) := IntWalk.i64_in _ ⟨by omega, by omega⟩
          have HW92 : Hid (wrap64 (9 - x.c) = 9 - x.c) := IntWalk.wrap64_in _ ⟨by omega, by omega⟩
          by_cases hcb : 9 - x.c < b
          · rw [dearer_bad hx (.inr (.inr (by omega)))]
            unfold NewNetO
            clear hno hx hxc
            go_enter Try.func7, Try.ntmps7
            go_wp2_with fail
            refine (NetOk_any _ _ _ _ _ (HR.out.later (by go_grown))).mono ?_; rintro e w1 ⟨rfl, hb1⟩
            rw [HNO.out]
            obtain ⟨hc1, hf1⟩ := bcell hb1
            have hz1_0 : w.heap.size < w1.heap.size := by have hq := hb1.size; (try simp at hq); omega
            have HK1 := Lib.hid hb1
            have HB1 := Lib.hid (bstep (B := w.heap.size) (W := w) (by (try have hp := HB0.out); go_grown) (by go_size) hb1); clear hb1
            have e2 : w1.cell? ⟨ob, oo + kk * 3 + 2, none⟩ = some (.int .i64 x.c) := (HB1.out.cell (p := ⟨ob, oo + kk * 3 + 2, none⟩) hB).trans g2
            have hres : w1.heap[w.heap.size + 1]? = some (.cells #[.int .i64 0, .slice none 0 0] 28 (0, 0)) := by
              rw [HK1.out.block _ (by simp)]
              have h9 := heap_alloc_new (w.alloc (.cells #[.int .i64 n, .slice (some ⟨ob, oo, none⟩) ws.length cap] 28)) (.cells #[.int .i64 0, .slice none 0 0] 28)
              simpa using h9
            have q0 : w1.cell? ⟨w.heap.size + 1, 0, none⟩ = some (.int .i64 0) := cell_of_row _ _ 0 _ _ (0, 0) hres
            have q1 : w1.cell? ⟨w.heap.size + 1, 1, none⟩ = some (.slice none 0 0) := cell_of_row _ _ 1 _ _ (0, 0) hres
            have f0 : w1.frozen? ⟨w.heap.size + 1, 0, none⟩ = false := by simp [World.frozen?, hres]
            have f1 : w1.frozen? ⟨w.heap.size + 1, 1, none⟩ = false := by simp [World.frozen?, hres]
            have T := Lib.hid (two_cells (v0 := .int .i64 0) (v1 := .slice none 0 0) hres)
            have HL2 := Lib.hid ((HB1.out.setCell (p := ⟨w.heap.size + 1, 0, none⟩) (by simp) (.int .i64 0)).setCell (p := ⟨w.heap.size + 1, 1, none⟩) (by simp) (.slice none 0 0))
            have k10 : w1.cell? ⟨w.heap.size, 0, none⟩ = some (.int .i64 n) := by go_simp
            have k11 : w1.cell? ⟨w.heap.size, 1, none⟩ = some (.slice (some ⟨ob, oo, none⟩) ws.length cap) := by go_simp
            clear hres hc1 hf1 HK1

            have hws := HW9.out
            have hws2 := HW92.out
            go_wp2_with fail
            obtain ⟨t0, t1⟩ := T.out
            refine bodyPost_ret (v := .tuple #[.agg #[.int .i64 0, .slice none 0 0], .bool false]) (by simp [results, Try.results7, go_sem, t0, t1]) rfl ?_
            exact ⟨none, 0, rfl, HL2.out⟩
          · rw [dearer_some hno hx (by omega) (by omega) (by omega)]
            have HWS : Hid (IntKind.i64.wrap (x.c + b) = x.c + b) := IntWalk.i64_in _ ⟨by omega, by omega⟩
            have HWS2 : Hid (wrap64 (x.c + b) = x.c + b) := IntWalk.wrap64_in _ ⟨by omega, by omega⟩
            unfold NewNetO
            clear hno hx hxc
            go_enter Try.func7, Try.ntmps7
            go_wp2_with fail
            refine (NetOk_any _ _ _ _ _ (HR.out.later (by go_grown))).mono ?_; rintro e w1 ⟨rfl, hb1⟩
            rw [HNO.out]
            obtain ⟨hc1, hf1⟩ := bcell hb1
            have hz1_0 : w.heap.size < w1.heap.size := by have hq := hb1.size; (try simp at hq); omega
            have HK1 := Lib.hid hb1
            have HB1 := Lib.hid (bstep (B := w.heap.size) (W := w) (by (try have hp := HB0.out); go_grown) (by go_size) hb1); clear hb1
            have e2 : w1.cell? ⟨ob, oo + kk * 3 + 2, none⟩ = some (.int .i64 x.c) := (HB1.out.cell (p := ⟨ob, oo + kk * 3 + 2, none⟩) hB).trans g2
            have hres : w1.heap[w.heap.size + 1]? = some (.cells #[.int .i64 0, .slice none 0 0] 28 (0, 0)) := by
              rw [HK1.out.block _ (by simp)]
              have h9 := heap_alloc_new (w.alloc (.cells #[.int .i64 n, .slice (some ⟨ob, oo, none⟩) ws.length cap] 28)) (.cells #[.int .i64 0, .slice none 0 0] 28)
              simpa using h9
            have hz1 : w.heap.size + 1 < w1.heap.size := (Array.getElem?_eq_some_iff.1 hres).1
            have hzw : w.heap.size < w1.heap.size := by omega
            have HRES := Lib.hid hres
            have k10 : w1.cell? ⟨w.heap.size, 0, none⟩ = some (.int .i64 n) := by go_simp
            have k11 : w1.cell? ⟨w.heap.size, 1, none⟩ = some (.slice (some ⟨ob, oo, none⟩) ws.length cap) := by go_simp
            have HRN := Lib.hid (HR.out.later HB1.out)
            clear hres hc1 hf1 HK1
            have hws := HW9.out
            have hws2 := HW92.out
            go_wp2_with fail
            clear hws hws2
            refine wp_region_held_drew (S := (fun w' => w'.cell? ⟨w.heap.size, 0, none⟩ = some (.int .i64 n) ∧ w'.cell? ⟨w.heap.size, 1, none⟩ = some (.slice (some ⟨ob, oo, none⟩) ws.length cap))) (by kernel_rfl) ?_ (fun hHeld => ?_)
            · exact ⟨k10, k11⟩
            refine wpAnyH_take (i := 0) (v := ?_) rfl (by kernel_rfl) (by kernel_rfl) (by kernel_rfl) (fun _ _ _ h => h) (Or.inl ⟨by rfl, ?_⟩) (by assumption) ?_
            rotate_left
            · (intro w hSw; (try dsimp only at hSw); (try simp only [List.getElem_toArray, List.getElem_cons_succ, List.getElem_cons_zero]); first | (go_simp; done) | (go_simp; with_reducible rfl))
            try simp only [Act.put, List.getElem_toArray, List.getElem_cons_succ, List.getElem_cons_zero, List.setIfInBounds_toArray, List.set_cons_zero, List.set_cons_succ]
            refine wpAnyH_take (i := 1) (v := ?_) rfl (by kernel_rfl) (by kernel_rfl) (by kernel_rfl) (fun _ _ _ h => h) (Or.inl ⟨by rfl, ?_⟩) (by assumption) ?_
            rotate_left
            · (intro w hSw; (try dsimp only at hSw); (try simp only [List.getElem_toArray, List.getElem_cons_succ, List.getElem_cons_zero]); first | (go_simp; done) | (go_simp; with_reducible rfl))
            try simp only [Act.put, List.getElem_toArray, List.getElem_cons_succ, List.getElem_cons_zero, List.setIfInBounds_toArray, List.set_cons_zero, List.set_cons_succ]
            refine wpAnyH_take (i := 2) (v := ?_) rfl (by kernel_rfl) (by kernel_rfl) (by kernel_rfl) (fun _ _ _ h => h) (Or.inl ⟨by rfl, ?_⟩) (by assumption) ?_
            rotate_left
            · (intro w hSw; (try dsimp only at hSw); (try simp only [List.getElem_toArray, List.getElem_cons_succ, List.getElem_cons_zero]); first | (go_simp; done) | (go_simp; with_reducible rfl))
            try simp only [Act.put, List.getElem_toArray, List.getElem_cons_succ, List.getElem_cons_zero, List.setIfInBounds_toArray, List.set_cons_zero, List.set_cons_succ]
            refine wpAnyH_take (i := 3) (v := ?_) rfl (by kernel_rfl) (by kernel_rfl) (by kernel_rfl) (fun _ _ _ h => h) (Or.inl ⟨by rfl, ?_⟩) (by assumption) ?_
            rotate_left
            · (intro w hSw; (try dsimp only at hSw); (try simp only [List.getElem_toArray, List.getElem_cons_succ, List.getElem_cons_zero]); first | (go_simp; done) | (go_simp; with_reducible rfl))
            try simp only [Act.put, List.getElem_toArray, List.getElem_cons_succ, List.getElem_cons_zero, List.setIfInBounds_toArray, List.set_cons_zero, List.set_cons_succ]
            refine wpAnyH_ready (rs := [4, 6]) (by kernel_rfl) (by simp) ?_
            refine AllReadyH.cons rfl (fun K hK => ?_) (AllReadyH.cons rfl (fun K hK => ?_) AllReadyH.nil)
            · try simp only [List.getElem_toArray, List.getElem_cons_succ, List.getElem_cons_zero]
              go_simp
              go_at_call 16; refine (slClone_any _ _ _ _ (HRN.out.later (by go_grown)) (by omega)).mono ?_; rintro e3 w3 ⟨A1, c1, rfl, hown3, hb3'⟩
              have hb3 : Below w1.heap.size w1 w3 := und hb3'
              refine hK.out _ _ ?_ (fun hHeld => ?_)
              · exact keep2 hb3 ⟨k10, k11⟩ hzw
              clear hK K
              try simp only [Act.put, List.getElem_toArray, List.getElem_cons_succ, List.getElem_cons_zero, List.setIfInBounds_toArray, List.set_cons_zero, List.set_cons_succ]
              refine wpAnyH_take (i := 5) (v := ?_) rfl (by kernel_rfl) (by kernel_rfl) (by kernel_rfl) (fun _ _ _ h => h) (Or.inl ⟨by rfl, ?_⟩) (by assumption) ?_
              rotate_left
              · (intro w hSw; (try dsimp only at hSw); (try simp only [List.getElem_toArray, List.getElem_cons_succ, List.getElem_cons_zero]); first | (go_simp; done) | (go_simp; with_reducible rfl))
              try simp only [Act.put, List.getElem_toArray, List.getElem_cons_succ, List.getElem_cons_zero, List.setIfInBounds_toArray, List.set_cons_zero, List.set_cons_succ]
              refine wpAnyH_ready (rs := [6]) (by kernel_rfl) (by simp) ?_
              refine AllReadyH.cons rfl (fun K hK => ?_) AllReadyH.nil
              try simp only [List.getElem_toArray, List.getElem_cons_succ, List.getElem_cons_zero]
              go_simp
              refine hK.out _ _ ?_ (fun hHeld => ?_)
              · exact ⟨(World.cell?_alloc_lt _ _ _ (by show w.heap.size < w3.heap.size; have := hb3.size; omega)).trans hHeld.1, (World.cell?_alloc_lt _ _ _ (by show w.heap.size < w3.heap.size; have := hb3.size; omega)).trans hHeld.2⟩
              clear hK K
              try simp only [Act.put, List.getElem_toArray, List.getElem_cons_succ, List.getElem_cons_zero, List.setIfInBounds_toArray, List.set_cons_zero, List.set_cons_succ]
              refine wpAnyH_ready (rs := [7]) (by kernel_rfl) (by simp) ?_
              refine AllReadyH.cons rfl (fun K hK => ?_) AllReadyH.nil
              try simp only [List.getElem_toArray, List.getElem_cons_succ, List.getElem_cons_zero]
              go_simp
              have hD : FrSt w1 (w3.alloc (.cells #[.int .i64 n, .slice A1 ws.length c1] 28)) n w3.heap.size w1.heap.size w3.heap.size A1 c1 ws := frSt_one hb3 hown3
              obtain ⟨bx, hbx⟩ : ∃ bx, w3.heap.size = bx := ⟨_, rfl⟩
              obtain ⟨lo, hlo⟩ : ∃ lo, w1.heap.size = lo := ⟨_, rfl⟩
              obtain ⟨hi, hhi⟩ : ∃ hi, bx = hi := ⟨_, rfl⟩
              have hD : FrSt w1 (w3.alloc (.cells #[.int .i64 n, .slice A1 ws.length c1] 28)) n bx lo hi A1 c1 ws := by rw [← hhi, ← hbx, ← hlo]; exact hD
              rw [hbx]
              refine hK.out _ _ ?_ (fun hHeld => ?_)
              · exact ⟨hD.low.cell (p := ⟨w.heap.size, 0, none⟩) hzw |>.trans k10, hD.low.cell (p := ⟨w.heap.size, 1, none⟩) hzw |>.trans k11⟩
              clear hK K
              try simp only [Act.put, List.getElem_toArray, List.getElem_cons_succ, List.getElem_cons_zero, List.setIfInBounds_toArray, List.set_cons_zero, List.set_cons_succ]
              refine wpAnyH_done (by kernel_rfl) ?_ _
              have HD := Lib.hid hD
              have hbl := hD.bl
              have hll := hD.ll
              have hne := hD.ne
              have hlw := hD.low
              have d0 := hD.c0
              have d1 := hD.c1'
              obtain ⟨W, hW⟩ : ∃ W, w3.alloc (.cells #[.int .i64 n, .slice A1 ws.length c1] 28) = W := ⟨_, rfl⟩
              rw [hW] at HD hD hlw d0 d1 ⊢
              have hbW := hD.bh
              have hresW : W.heap[w.heap.size + 1]? = some (.cells #[.int .i64 0, .slice none 0 0] 28 (0, 0)) := by rw [hlw.block _ hz1]; exact HRES.out
              have HLW : Hid (Below w.heap.size w W) := bstep HB1.out HB1.out.size hlw
              have HROW := Lib.hid hD.row
              clear hD hW hb3 hown3 hb3' hbx hlo hhi k10 k11
              obtain ⟨gb, go, e9, hl, hh, p2, f2⟩ := HROW.out.at_ (kk * 3 + 2) (by omega)
              subst e9
              rw [← Nat.add_assoc] at p2 f2
              have hv2 : wyF ws (kk * 3 + 2) = x.c := (wyF_at HX.out).2.2
              rw [hv2] at p2
              have hbne : gb ≠ bx := by omega
              have hrne : w.heap.size + 1 ≠ gb := by omega
              have HPUT : Hid (RowF (W.setCell ⟨gb, go + (kk * 3 + 2), none⟩ (.int .i64 (x.c + b))) lo hi (some ⟨gb, go, none⟩) (ws.length * 3) (wyF (ws.set kk (dearW x b)))) := by
                show RowF _ _ _ _ _ _
                exact (HROW.out.put (k := kk * 3 + 2) (by omega) (x.c + b)).congr (fun j _ => (wyF_set HX.out j).symm)
              obtain ⟨V, hV⟩ : ∃ V, W.setCell ⟨gb, go + kk * 3 + 2, none⟩ (.int .i64 (x.c + b)) = V := ⟨_, rfl⟩
              have HV := Lib.hid hV
              have HPV : Hid (RowF V lo hi (some ⟨gb, go, none⟩) (ws.length * 3) (wyF (ws.set kk (dearW x b)))) := by show RowF _ _ _ _ _ _; rw [← hV, Nat.add_assoc]; exact HPUT.out
              have HLV : Hid (Below w.heap.size w V) := by show Below _ _ _; rw [← hV]; exact HLW.out.setCell (by simp; omega) _
              have v0 : V.cell? ⟨bx, 0, none⟩ = some (.int .i64 n) := by rw [← hV]; exact (World.cell?_of_block (w := W) (Below.heap_setCell _ _ _ _ (Ne.symm hbne))).trans d0
              have v1 : V.cell? ⟨bx, 1, none⟩ = some (.slice (some ⟨gb, go, none⟩) ws.length c1) := by rw [← hV]; exact (World.cell?_of_block (w := W) (Below.heap_setCell _ _ _ _ (Ne.symm hbne))).trans d1
              have hres : V.heap[w.heap.size + 1]? = some (.cells #[.int .i64 0, .slice none 0 0] 28 (0, 0)) := by rw [← hV]; exact (Below.heap_setCell _ _ _ _ hrne).trans hresW
              have q0 : V.cell? ⟨w.heap.size + 1, 0, none⟩ = some (.int .i64 0) := cell_of_row _ _ 0 _ _ (0, 0) hres
              have q1 : V.cell? ⟨w.heap.size + 1, 1, none⟩ = some (.slice none 0 0) := cell_of_row _ _ 1 _ _ (0, 0) hres
              have g0' : V.frozen? ⟨w.heap.size + 1, 0, none⟩ = false := by simp [World.frozen?, hres]
              have g1' : V.frozen? ⟨w.heap.size + 1, 1, none⟩ = false := by simp [World.frozen?, hres]
              have T := Lib.hid (two_cells (v0 := .int .i64 n) (v1 := .slice (some ⟨gb, go, none⟩) ws.length c1) hres)
              have HL2 := Lib.hid ((HLV.out.setCell (p := ⟨w.heap.size + 1, 0, none⟩) (by simp) (.int .i64 n)).setCell (p := ⟨w.heap.size + 1, 1, none⟩) (by simp) (.slice (some ⟨gb, go, none⟩) ws.length c1))
              have HR2 := Lib.hid (HPV.out.box_ (r := w.heap.size + 1) (Nat.lt_of_lt_of_le hz1 hll) (.int .i64 n) (.slice (some ⟨gb, go, none⟩) ws.length c1))
              have hws := HWS.out
              have hws2 := HWS2.out
              have hlo' : w.heap.size ≤ lo := by omega
              clear hresW hlw HROW hres hv2
              go_wp2_with fail
              obtain ⟨t0, t1⟩ := T.out
              refine bodyPost_ret (v := .tuple #[.agg #[.int .i64 n, .slice (some ⟨gb, go, none⟩) ws.length c1], .bool true]) (by simp [results, Try.results7, go_sem, t0, t1]) rfl ?_
              refine ⟨some ⟨gb, go, none⟩, c1, lo, hi, by rw [da_len], by rw [da_len]; exact HR2.out, hlo', HL2.out⟩
            · try simp only [List.getElem_toArray, List.getElem_cons_succ, List.getElem_cons_zero]
              go_simp
              refine hK.out _ _ ?_ (fun hHeld => ?_)
              · exact ⟨(World.cell?_alloc_lt _ _ _ (by show w.heap.size < w1.drew.heap.size; simp; omega)).trans k10, (World.cell?_alloc_lt _ _ _ (by show w.heap.size < w1.drew.heap.size; simp; omega)).trans k11⟩
              clear hK K
              try simp only [Act.put, List.getElem_toArray, List.getElem_cons_succ, List.getElem_cons_zero, List.setIfInBounds_toArray, List.set_cons_zero, List.set_cons_succ]
              refine wpAnyH_ready (rs := [4]) (by kernel_rfl) (by simp) ?_
              refine AllReadyH.cons rfl (fun K hK => ?_) AllReadyH.nil
              try simp only [List.getElem_toArray, List.getElem_cons_succ, List.getElem_cons_zero]
              go_simp
              go_at_call 16; refine (slClone_any _ _ _ _ (HRN.out.later (by go_grown)) (by omega)).mono ?_; rintro e3 w3 ⟨A1, c1, rfl, hown3, hb3'⟩
              have hbox : w3.heap[w1.heap.size]? = some (.cells #[.int .i64 0, .slice none 0 0] 28 (0, 0)) := by rw [hb3'.block _ (by simp)]; exact heap_alloc_new w1.drew _
              have hb3 : Below w1.heap.size w1 w3 := bstep (B := w1.heap.size) (W := w1) (by go_grown) (by simp) hb3'
              first | rw [show ((w1.drew.alloc (.cells #[.int .i64 0, .slice none 0 0] 28))).heap.size = w1.heap.size + 1 from by simp] at hown3 | rw [show ((w1.alloc (.cells #[.int .i64 0, .slice none 0 0] 28)).drew).heap.size = w1.heap.size + 1 from by simp] at hown3
              have s0 : w3.cell? ⟨w1.heap.size, 0, none⟩ = some (.int .i64 0) := cell_of_row _ _ 0 _ _ (0, 0) hbox
              have s1 : w3.cell? ⟨w1.heap.size, 1, none⟩ = some (.slice none 0 0) := cell_of_row _ _ 1 _ _ (0, 0) hbox
              have s2 : w3.frozen? ⟨w1.heap.size, 0, none⟩ = false := by simp [World.frozen?, hbox]
              have s3 : w3.frozen? ⟨w1.heap.size, 1, none⟩ = false := by simp [World.frozen?, hbox]
              refine hK.out _ _ ?_ (fun hHeld => ?_)
              · exact keep2 hb3 ⟨k10, k11⟩ hzw
              clear hK K
              try simp only [Act.put, List.getElem_toArray, List.getElem_cons_succ, List.getElem_cons_zero, List.setIfInBounds_toArray, List.set_cons_zero, List.set_cons_succ]
              refine wpAnyH_take (i := 5) (v := ?_) rfl (by kernel_rfl) (by kernel_rfl) (by kernel_rfl) (fun _ _ _ h => h) (Or.inl ⟨by rfl, ?_⟩) (by assumption) ?_
              rotate_left
              · (intro w hSw; (try dsimp only at hSw); (try simp only [List.getElem_toArray, List.getElem_cons_succ, List.getElem_cons_zero]); first | (go_simp; done) | (go_simp; with_reducible rfl))
              try simp only [Act.put, List.getElem_toArray, List.getElem_cons_succ, List.getElem_cons_zero, List.setIfInBounds_toArray, List.set_cons_zero, List.set_cons_succ]
              refine wpAnyH_ready (rs := [7]) (by kernel_rfl) (by simp) ?_
              refine AllReadyH.cons rfl (fun K hK => ?_) AllReadyH.nil
              try simp only [List.getElem_toArray, List.getElem_cons_succ, List.getElem_cons_zero]
              go_simp
              have hD : FrSt w1 ((w3.setCell ⟨w1.heap.size, 0, none⟩ (.int .i64 n)).setCell ⟨w1.heap.size, 1, none⟩ (.slice A1 ws.length c1)) n w1.heap.size (w1.heap.size + 1) w3.heap.size A1 c1 ws := frSt_two hb3 rfl hown3 hbox
              clear s0 s1 s2 s3 hbox
              obtain ⟨bx, hbx⟩ : ∃ bx, w1.heap.size = bx := ⟨_, rfl⟩
              obtain ⟨lo, hlo⟩ : ∃ lo, bx + 1 = lo := ⟨_, rfl⟩
              obtain ⟨hi, hhi⟩ : ∃ hi, w3.heap.size = hi := ⟨_, rfl⟩
              have hD : FrSt w1 ((w3.setCell ⟨w1.heap.size, 0, none⟩ (.int .i64 n)).setCell ⟨w1.heap.size, 1, none⟩ (.slice A1 ws.length c1)) n bx lo hi A1 c1 ws := by rw [← hlo, ← hhi, ← hbx]; exact hD
              rw [hbx]
              have hD : FrSt w1 ((w3.setCell ⟨bx, 0, none⟩ (.int .i64 n)).setCell ⟨bx, 1, none⟩ (.slice A1 ws.length c1)) n bx lo hi A1 c1 ws := by rw [hbx] at hD; exact hD
              refine hK.out _ _ ?_ (fun hHeld => ?_)
              · exact ⟨hD.low.cell (p := ⟨w.heap.size, 0, none⟩) hzw |>.trans k10, hD.low.cell (p := ⟨w.heap.size, 1, none⟩) hzw |>.trans k11⟩
              clear hK K
              try simp only [Act.put, List.getElem_toArray, List.getElem_cons_succ, List.getElem_cons_zero, List.setIfInBounds_toArray, List.set_cons_zero, List.set_cons_succ]
              refine wpAnyH_done (by kernel_rfl) ?_ _
              have HD := Lib.hid hD
              have hbl := hD.bl
              have hll := hD.ll
              have hne := hD.ne
              have hlw := hD.low
              have d0 := hD.c0
              have d1 := hD.c1'
              obtain ⟨W, hW⟩ : ∃ W, (w3.setCell ⟨bx, 0, none⟩ (.int .i64 n)).setCell ⟨bx, 1, none⟩ (.slice A1 ws.length c1) = W := ⟨_, rfl⟩
              rw [hW] at HD hD hlw d0 d1 ⊢
              have hbW := hD.bh
              have hresW : W.heap[w.heap.size + 1]? = some (.cells #[.int .i64 0, .slice none 0 0] 28 (0, 0)) := by rw [hlw.block _ hz1]; exact HRES.out
              have HLW : Hid (Below w.heap.size w W) := bstep HB1.out HB1.out.size hlw
              have HROW := Lib.hid hD.row
              clear hD hW hb3 hown3 hb3' hbx hlo hhi k10 k11
              obtain ⟨gb, go, e9, hl, hh, p2, f2⟩ := HROW.out.at_ (kk * 3 + 2) (by omega)
              subst e9
              rw [← Nat.add_assoc] at p2 f2
              have hv2 : wyF ws (kk * 3 + 2) = x.c := (wyF_at HX.out).2.2
              rw [hv2] at p2
              have hbne : gb ≠ bx := by omega
              have hrne : w.heap.size + 1 ≠ gb := by omega
              have HPUT : Hid (RowF (W.setCell ⟨gb, go + (kk * 3 + 2), none⟩ (.int .i64 (x.c + b))) lo hi (some ⟨gb, go, none⟩) (ws.length * 3) (wyF (ws.set kk (dearW x b)))) := by
                show RowF _ _ _ _ _ _
                exact (HROW.out.put (k := kk * 3 + 2) (by omega) (x.c + b)).congr (fun j _ => (wyF_set HX.out j).symm)
              obtain ⟨V, hV⟩ : ∃ V, W.setCell ⟨gb, go + kk * 3 + 2, none⟩ (.int .i64 (x.c + b)) = V := ⟨_, rfl⟩
              have HV := Lib.hid hV
              have HPV : Hid (RowF V lo hi (some ⟨gb, go, none⟩) (ws.length * 3) (wyF (ws.set kk (dearW x b)))) := by show RowF _ _ _ _ _ _; rw [← hV, Nat.add_assoc]; exact HPUT.out
              have HLV : Hid (Below w.heap.size w V) := by show Below _ _ _; rw [← hV]; exact HLW.out.setCell (by simp; omega) _
              have v0 : V.cell? ⟨bx, 0, none⟩ = some (.int .i64 n) := by rw [← hV]; exact (World.cell?_of_block (w := W) (Below.heap_setCell _ _ _ _ (Ne.symm hbne))).trans d0
              have v1 : V.cell? ⟨bx, 1, none⟩ = some (.slice (some ⟨gb, go, none⟩) ws.length c1) := by rw [← hV]; exact (World.cell?_of_block (w := W) (Below.heap_setCell _ _ _ _ (Ne.symm hbne))).trans d1
              have hres : V.heap[w.heap.size + 1]? = some (.cells #[.int .i64 0, .slice none 0 0] 28 (0, 0)) := by rw [← hV]; exact (Below.heap_setCell _ _ _ _ hrne).trans hresW
              have q0 : V.cell? ⟨w.heap.size + 1, 0, none⟩ = some (.int .i64 0) := cell_of_row _ _ 0 _ _ (0, 0) hres
              have q1 : V.cell? ⟨w.heap.size + 1, 1, none⟩ = some (.slice none 0 0) := cell_of_row _ _ 1 _ _ (0, 0) hres
              have g0' : V.frozen? ⟨w.heap.size + 1, 0, none⟩ = false := by simp [World.frozen?, hres]
              have g1' : V.frozen? ⟨w.heap.size + 1, 1, none⟩ = false := by simp [World.frozen?, hres]
              have T := Lib.hid (two_cells (v0 := .int .i64 n) (v1 := .slice (some ⟨gb, go, none⟩) ws.length c1) hres)
              have HL2 := Lib.hid ((HLV.out.setCell (p := ⟨w.heap.size + 1, 0, none⟩) (by simp) (.int .i64 n)).setCell (p := ⟨w.heap.size + 1, 1, none⟩) (by simp) (.slice (some ⟨gb, go, none⟩) ws.length c1))
              have HR2 := Lib.hid (HPV.out.box_ (r := w.heap.size + 1) (Nat.lt_of_lt_of_le hz1 hll) (.int .i64 n) (.slice (some ⟨gb, go, none⟩) ws.length c1))
              have hws := HWS.out
              have hws2 := HWS2.out
              have hlo' : w.heap.size ≤ lo := by omega
              clear hresW hlw HROW hres hv2
              go_wp2_with fail
              obtain ⟨t0, t1⟩ := T.out
              refine bodyPost_ret (v := .tuple #[.agg #[.int .i64 n, .slice (some ⟨gb, go, none⟩) ws.length c1], .bool true]) (by simp [results, Try.results7, go_sem, t0, t1]) rfl ?_
              refine ⟨some ⟨gb, go, none⟩, c1, lo, hi, by rw [da_len], by rw [da_len]; exact HR2.out, hlo', HL2.out⟩
      · have hkln : (ws.length : Int) ≤ (kk : Int) := by omega
        have hk0i : ¬ (kk : Int) < 0 := by omega
        rw [dearer_none (by unfold dearerOk; rw [show inB (kk : Int) 0 ((ws.length : Int) - 1) = false from by unfold inB; simp; omega]; simp)]
        unfold NewNetO
        clear hno
        go_enter Try.func7, Try.ntmps7
        go_wp2_with fail
        refine (NetOk_any _ _ _ _ _ (HR.out.later (by go_grown))).mono ?_; rintro e w1 ⟨rfl, hb1⟩
        rw [HNO.out]
        obtain ⟨hc1, hf1⟩ := bcell hb1
        have hz1_0 : w.heap.size < w1.heap.size := by have hq := hb1.size; (try simp at hq); omega
        have HK1 := Lib.hid hb1
        have HB1 := Lib.hid (bstep (B := w.heap.size) (W := w) (by (try have hp := HB0.out); go_grown) (by go_size) hb1); clear hb1
        have hres : w1.heap[w.heap.size + 1]? = some (.cells #[.int .i64 0, .slice none 0 0] 28 (0, 0)) := by
          rw [HK1.out.block _ (by simp)]
          have h9 := heap_alloc_new (w.alloc (.cells #[.int .i64 n, .slice A ws.length cap] 28)) (.cells #[.int .i64 0, .slice none 0 0] 28)
          simpa using h9
        have q0 : w1.cell? ⟨w.heap.size + 1, 0, none⟩ = some (.int .i64 0) := cell_of_row _ _ 0 _ _ (0, 0) hres
        have q1 : w1.cell? ⟨w.heap.size + 1, 1, none⟩ = some (.slice none 0 0) := cell_of_row _ _ 1 _ _ (0, 0) hres
        have f0 : w1.frozen? ⟨w.heap.size + 1, 0, none⟩ = false := by simp [World.frozen?, hres]
        have f1 : w1.frozen? ⟨w.heap.size + 1, 1, none⟩ = false := by simp [World.frozen?, hres]
        have T := Lib.hid (two_cells (v0 := .int .i64 0) (v1 := .slice none 0 0) hres)
        have HL2 := Lib.hid ((HB1.out.setCell (p := ⟨w.heap.size + 1, 0, none⟩) (by simp) (.int .i64 0)).setCell (p := ⟨w.heap.size + 1, 1, none⟩) (by simp) (.slice none 0 0))
        have k10 : w1.cell? ⟨w.heap.size, 0, none⟩ = some (.int .i64 n) := by go_simp
        have k11 : w1.cell? ⟨w.heap.size, 1, none⟩ = some (.slice A ws.length cap) := by go_simp
        clear hres hc1 hf1 HK1
        go_wp2_with fail
        obtain ⟨t0, t1⟩ := T.out
        refine bodyPost_ret (v := .tuple #[.agg #[.int .i64 0, .slice none 0 0], .bool false]) (by simp [results, Try.results7, go_sem, t0, t1]) rfl ?_
        exact ⟨none, 0, rfl, HL2.out⟩
end Go.Proofs.Ytcfendmhhhggeaa
