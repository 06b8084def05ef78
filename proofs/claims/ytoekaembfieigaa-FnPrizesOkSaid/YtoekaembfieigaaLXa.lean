/- The law of PrizesOk: no prizes are prizes. -/
import Derived.Test.YtoekaembfieigaaLXf
set_option linter.unusedSimpArgs false
set_option linter.unusedVariables false
attribute [local go_sem ↓] Go.wp_at_zero Go.wp_at_succ
namespace Go.Proofs.Ytoekaembfieigaa
open Go.ChangeShapes Go.WideShapes Go.ChangeAt Go.RowKit

/-- numbers are copied behind one's own row, whatever it holds -/
theorem wpList_append_any {P : Program} {w : World} {ops : Array Oper} {rest : List Oper} {o : Oper} {a : Act} {Q : Exit → Act → World → Prop} (hgd : o.guard = none) (s x : Operand) (t : TypeId)
    (ho : o.op = .call { callee := .builtin .append, args := #[s, x], argTypes := #[t, t] })
    (base : Nat) (e : TypeId) (i : TypeInfo) (z : Value) (size bytes : Nat) (ht : P.underlying t = some (.slice e)) (hi : P.info? e = some i) (hz : i.zero = some z)
    (hsize : i.size = size) (hby : i.bytes = bytes) (hzs : z.cells.size = size) (hsz : 0 < size)
    (v : Value) (n : Nat) (xs : List Value) (hs : a.eval s = v) (hown : w.ownsRow base e size v n xs)
    (ad : Addr) (m c : Nat) (news : List Value) (hx : a.eval x = .slice (some ad) m c) (hl : news.length = m * size) (hnews : ∀ j u, news[j]? = some u → w.cell? (ad.add j) = some u) (h1 : ∀ u ∈ news, u.oneCell' = true)
    (h63 : n + m ≤ maxLen) (hbytes : (n + m) * bytes ≤ 140737488355328) (hbase : base ≤ w.heap.size) (hnm : 0 < n + m)
    (h : ∀ gg c1 w', w'.ownsRow base e size (.slice (some ⟨gg, 0, none⟩) (n + m) c1) (n + m) (xs ++ news) → w.grownBy w' v.ownBlock → wpList P ops Q rest (a.put o.dst (.slice (some ⟨gg, 0, none⟩) (n + m) c1)) w') : wpList P ops Q (o :: rest) a w :=
  wpList_plain hgd fun _ hK => by
    obtain ⟨v', w', hr, h2, h3, _, _⟩ := run_append_own_at (P := P) w base t o.type e i z size bytes ht hi hz hsize hby hzs hsz v n xs hown ad m c news hl hnews h1 h63 hbytes hbase
    obtain ⟨gg, c1, rfl⟩ : ∃ gg c1, v' = .slice (some ⟨gg, 0, none⟩) (n + m) c1 := by
      rcases h2.2 with ⟨hv, h0⟩ | ⟨g', c, cur, hv, _⟩
      · omega
      · exact ⟨g', c, hv⟩
    unfold Oper.wp execOp
    simp only [ho, resolve, invoke, builtin, Sem.run_bind, Sem.run_pure, Result.andThen_ok, List.map_toArray, List.map_cons, List.map_nil, hs, hx, hr]
    exact hK _ _ (h gg c1 w' h2 h3)
theorem rev_ok (n : Int) (ws : List Wy) (pz : List Int) : prizesOk n ws pz.reverse = prizesOk n ws pz := by
  unfold prizesOk
  rw [List.length_reverse, List.all_reverse]
theorem zer_ok (m : Nat) (ws : List Wy) : prizesOk (m : Int) ws (List.replicate m 0) = netOk m ws := by
  cases h : netOk (m : Int) ws
  · unfold prizesOk; rw [h]; rfl
  · exact prizesOk_iff.2 (zeros_ok h rfl)
theorem PrizesOk_zeros (m : Nat) (A : Option Addr) (cap : Nat) (ws : List Wy) (Ar : Option Addr) (cr : Nat) (w : World) (hr : RW w w.heap.size A ws) (hi : RI w w.heap.size Ar (List.replicate m 0)) :
    Calls Try.prog 14 #[.agg #[.int .i64 m, .slice A ws.length cap], .slice Ar m cr] w fun en w' => en = .returned (.bool (netOk m ws)) ∧ Below w.heap.size w w' := by
  have h := PrizesOk_any (m : Int) A cap ws Ar cr (List.replicate m 0) w hr hi
  rwa [List.length_replicate, zer_ok] at h
theorem PrizesOk_rev (n : Int) (A : Option Addr) (cap : Nat) (ws : List Wy) (Ar : Option Addr) (cr : Nat) (pz : List Int) (w : World) (hr : RW w w.heap.size A ws) (hi : RI w w.heap.size Ar pz.reverse) :
    Calls Try.prog 14 #[.agg #[.int .i64 n, .slice A ws.length cap], .slice Ar pz.length cr] w fun en w' => en = .returned (.bool (prizesOk n ws pz)) ∧ Below w.heap.size w w' := by
  have h := PrizesOk_any n A cap ws Ar cr pz.reverse w hr hi
  rwa [List.length_reverse, rev_ok] at h
theorem mkInts7 (W : World) (m : Nat) (hm : m ≤ 7) : (Instr.makeSlice 26 (.int .i64 (m : Int)) (.int .i64 (m : Int))).run Try.prog W = .ok (.slice (some ⟨W.heap.size, 0, none⟩) m m) (W.alloc (.cells (Array.replicate m (.int .i64 0)) 3)) := by
  by_cases h : m ≤ 6
  · exact mkInts' W m h
  · obtain rfl : m = 7 := by omega
    kernel_rfl
set_option maxRecDepth 100000 in
set_option maxHeartbeats 2000000 in
theorem FnPrizesOk_walk (A : Option Addr) (len cap : Nat) (w : World) (hr : RB w w.heap.size A len) (hc : len ≤ cap) (hlen : len ≤ 9223372036854775807) :
    Calls Try.prog 3 #[.slice A len cap] w fun e w' => e = .returned (.bool true) ∧ Below w.heap.size w w' := by
  have HR := Lib.hid hr
  clear hr
  by_cases hm : 1048576 < len
  · go_enter Try.func3, Try.ntmps3
    go_wp2_with fail
    go_ret
    exact ⟨rfl, Below.refl _ _⟩
  · go_enter Try.func3, Try.ntmps3
    go_wp2_with fail
    refine (DrawPrizesOk_any A len cap _ HR.out hc (by omega)).mono ?_
    rintro e wd ⟨nn, A', c', ws, bc, cc, pz, rfl, hrw, hl10, hcc, hn0, hn7, hri, hpz8, hbd⟩
    have HRW := Lib.hid hrw
    have HBD := Lib.hid hbd
    have hzd : w.heap.size ≤ wd.heap.size := hbd.size
    clear hrw hbd
    have HRI := Lib.hid hri
    clear hri
    obtain ⟨m, rfl⟩ : ∃ m : Nat, nn = m := ⟨nn.toNat, by omega⟩
    have hm7 : m ≤ 7 := by omega
    obtain ⟨Z, hZ⟩ : ∃ Z, prizesOk (m : Int) ws pz = Z := ⟨_, rfl⟩
    obtain ⟨O, hO⟩ : ∃ O, netOk (m : Int) ws = O := ⟨_, rfl⟩
    have HZ := Lib.hid hZ
    have HNO := Lib.hid hO
    have hbs := emptyInts
    have HMK := Lib.hid (fun W => mkInts7 W m hm7)
    obtain ⟨i0, hi0, hz0, hz1', hz2⟩ := info_parts infoInt
    clear hZ hO
    go_wp2_with fail
    refine (PrizesOk_any _ _ _ _ _ _ _ _ (HRW.out.later (by go_grown)) (HRI.out.later (by go_grown))).mono ?_; rintro e w1 ⟨rfl, hb1⟩
    rw [HZ.out]
    obtain ⟨hc1, hf1⟩ := bcell hb1
    have hz1_0 : wd.heap.size < w1.heap.size := by have hq := hb1.size; (try simp at hq); omega
    have HK1 := Lib.hid hb1
    have HB1 := Lib.hid (bstep (B := wd.heap.size) (W := wd) (by (try have hp := HB0.out); go_grown) (by go_size) hb1); clear hb1
    go_wp2_with fail
    refine (sPrizesOk_any _ _ _ _ _ _ _ _ (HRW.out.later (by have := HB1.out; go_grown)) (by omega) (HRI.out.later (by have := HB1.out; go_grown)) (by omega)).mono ?_; rintro e w2 ⟨rfl, hb2⟩
    rw [HZ.out]
    obtain ⟨hc2, hf2⟩ := bcell hb2
    have hz2_0 : wd.heap.size < w2.heap.size := by have hq := hb2.size; (try simp at hq); omega
    have HK2 := Lib.hid hb2
    have HB2 := Lib.hid (bstep (B := wd.heap.size) (W := wd) (by have hp := HB1.out; go_grown) (by go_size) hb2); clear hb2
    have k2 : w2.cell? ⟨wd.heap.size, 0, none⟩ = some (.int .i64 m) ∧ w2.cell? ⟨wd.heap.size, 1, none⟩ = some (.slice A' ws.length c') := ⟨by go_simp, by go_simp⟩
    clear hc1 hf1 hc2 hf2 HB1 HK1 HK2
    obtain ⟨k20, k21⟩ := k2
    go_wp2_with fail
    go_loopw [6, 7] (fun v i wr => ∃ (k bb cb : Nat), k ≤ pz.length ∧ i = .int .i64 k ∧ v = .slice (some ⟨bb, 0, none⟩) k cb ∧ RI wr wr.heap.size (some ⟨bb, 0, none⟩) (pz.take k).reverse ∧ wr.cell? ⟨wd.heap.size, 0, none⟩ = some (.int .i64 m) ∧ wr.cell? ⟨wd.heap.size, 1, none⟩ = some (.slice A' ws.length c') ∧ Below wd.heap.size wd wr ∧ wd.heap.size < wr.heap.size) (fun _ i _ => pz.length - (intOf i).toNat)
    case atStart => exact ⟨0, _, _, Nat.zero_le _, rfl, rfl, (fun i x hx => by simp at hx), (World.cell?_alloc_lt _ _ _ hz2_0).trans k20, (World.cell?_alloc_lt _ _ _ hz2_0).trans k21, HB2.out.alloc (Nat.le_of_lt hz2_0) _, by simp; omega⟩
    case round =>
      clear k20 k21 HB2 hbs
      obtain ⟨k, bb, cb, hk, rfl, hv, hbr, b0, b1, hb, hz⟩ := hrel
      (try injection hv with hv1 hv2 hv3)
      (try subst hv)
      (try subst hv1)
      (try subst hv2)
      (try subst hv3)
      have HB0 := Lib.hid hb
      have HBR := Lib.hid hbr
      have hk0 : (0 : Int) ≤ (k : Int) := by omega
      clear hb hbr
      by_cases hlt : k < pz.length
      · have hk1 : (k : Int) < (pz.length : Int) := by omega
        have hx := List.getElem?_eq_getElem hlt
        obtain ⟨x, hxe⟩ : ∃ x, pz[k] = x := ⟨_, rfl⟩
        rw [hxe] at hx
        have rk : wr.cell? ⟨bc, k, none⟩ = some (.int .i64 x) := (HRI.out.later HB0.out).cellAt hx
        have HNX : Hid ((pz.take (k + 1)).reverse = x :: (pz.take k).reverse) := by
          show _ = _
          rw [List.take_add_one, hx, List.reverse_append]; rfl
        have hlen : (pz.take k).reverse.length = k := by rw [List.length_reverse, List.length_take]; omega
        have HLE := Lib.hid hlen
        have hown1 : (wr.alloc (.cells #[.int .i64 x] 3)).ownsRow wr.heap.size 3 1 (.slice (some ⟨wr.heap.size, 0, none⟩) 1 1) 1 [.int .i64 x] := ⟨rfl, .inr ⟨wr.heap.size, 1, #[.int .i64 x], rfl, Nat.le_refl _, heap_alloc_new wr _, Nat.le_refl _, by unfold maxLen; omega, rfl, rfl⟩⟩
        have HO1 := Lib.hid hown1
        clear hx hxe hown1 hlen
        go_wp2_with (at_builtin; refine wpList_append_any rfl _ _ _ rfl wr.heap.size 3 i0 _ 1 8 Try.underlying26 hi0 hz0 hz1' hz2 rfl (by omega) (.slice (some ⟨wr.heap.size, 0, none⟩) 1 1) 1 [.int .i64 x] rfl HO1.out ⟨bb, 0, none⟩ k cb (rlCells (pz.take k).reverse) rfl (by rw [rlCells_len, HLE.out]; omega) (rl_mem (HBR.out.later ((Below.refl _ _).alloc (Nat.le_refl _) _))) rl_one (by unfold maxLen; omega) (by omega) (by simp) (by omega) ?_; intro gg cg w3 hown3 hgrow3)
        have HB3 : Hid (Below wd.heap.size wd w3) := by
          have h9 := HB0.out.alloc (Nat.le_of_lt hz) (.cells #[.int .i64 x] 3)
          exact ⟨hgrow3.os.trans h9.os, hgrow3.tape.trans h9.tape, hgrow3.output.trans h9.output, Nat.le_trans h9.size hgrow3.size, fun i hi => (hgrow3.block i (by simp; omega) (by simp [Value.ownBlock]; omega)).trans (h9.block i hi)⟩
        have hk3 : w3.heap[wd.heap.size]? = wr.heap[wd.heap.size]? := (hgrow3.block _ (by simp; omega) (by simp [Value.ownBlock]; omega)).trans (Below.heap_alloc _ _ _ hz)
        have k30 : w3.cell? ⟨wd.heap.size, 0, none⟩ = some (.int .i64 m) := (World.cell?_of_block (w := wr) hk3).trans b0
        have k31 : w3.cell? ⟨wd.heap.size, 1, none⟩ = some (.slice A' ws.length c') := (World.cell?_of_block (w := wr) hk3).trans b1
        have hz3 : wd.heap.size < w3.heap.size := by have := hgrow3.size; simp at this; omega
        have HBR3 : Hid (RI w3 w3.heap.size (some ⟨gg, 0, none⟩) (pz.take (k + 1)).reverse) := by
          rw [HNX.out]
          have h9 : w3.ownsRow wr.heap.size 3 1 (.slice (some ⟨gg, 0, none⟩) (1 + k) cg) (1 + k) (rlCells (x :: (pz.take k).reverse)) := hown3
          rw [show 1 + k = (x :: (pz.take k).reverse).length from by rw [List.length_cons, HLE.out]; omega] at h9
          exact (rowF_of_own h9 (fun j hj => rlCells_at hj)).ri
        clear hown3 hgrow3 hk3
        go_wp2_with fail
        go_roundw
        case rel => exact ⟨k + 1, gg, cg, by omega, by go_num, by rw [Nat.add_comm 1 k], HBR3.out, k30, k31, HB3.out, hz3⟩
        case measure => (simp [intOf]) <;> omega
      · obtain rfl : k = pz.length := by omega
        rw [List.take_length] at HBR
        have m1 : (if (m : Int) < 0 then 0 else (m : Int)) = m := if_neg (by omega)
        have m2 : (if (0 : Int) < m then (m : Int) else 0) = m := by split <;> omega
        have m3 : (if (m : Int) ≤ 0 then 0 else (m : Int)) = m := by split <;> omega
        have m5 : max (m : Int) 0 = m := by omega
        have hmk := HMK.out
        go_wp2_with fail
        refine wp_region_held_drew (S := (fun w' => w'.cell? ⟨wd.heap.size, 0, none⟩ = some (.int .i64 m) ∧ w'.cell? ⟨wd.heap.size, 1, none⟩ = some (.slice A' ws.length c'))) (by kernel_rfl) ?_ (fun hHeld => ?_)
        · exact ⟨b0, b1⟩
        refine wpAnyH_take (i := 0) (v := ?_) rfl (by kernel_rfl) (by kernel_rfl) (by kernel_rfl) (fun _ _ _ h => h) (Or.inl ⟨by rfl, ?_⟩) (by assumption) ?_
        rotate_left
        · (intro w hSw; (try dsimp only at hSw); (try simp only [List.getElem_toArray, List.getElem_cons_succ, List.getElem_cons_zero]); first | (go_simp; done) | (go_simp; with_reducible rfl))
        try simp only [Act.put, List.getElem_toArray, List.getElem_cons_succ, List.getElem_cons_zero, List.setIfInBounds_toArray, List.set_cons_zero, List.set_cons_succ]
        refine wpAnyH_take (i := 1) (v := ?_) rfl (by kernel_rfl) (by kernel_rfl) (by kernel_rfl) (fun _ _ _ h => h) (Or.inl ⟨by rfl, ?_⟩) (by assumption) ?_
        rotate_left
        · (intro w hSw; (try dsimp only at hSw); (try simp only [List.getElem_toArray, List.getElem_cons_succ, List.getElem_cons_zero]); first | (go_simp; done) | (go_simp; with_reducible rfl))
        try simp only [Act.put, List.getElem_toArray, List.getElem_cons_succ, List.getElem_cons_zero, List.setIfInBounds_toArray, List.set_cons_zero, List.set_cons_succ]
        refine wpAnyH_take (i := 3) (v := ?_) rfl (by kernel_rfl) (by kernel_rfl) (by kernel_rfl) (fun _ _ _ h => h) (Or.inl ⟨by rfl, ?_⟩) (by assumption) ?_
        rotate_left
        · (intro w hSw; (try dsimp only at hSw); (try simp only [List.getElem_toArray, List.getElem_cons_succ, List.getElem_cons_zero]); first | (go_simp; done) | (go_simp; with_reducible rfl))
        try simp only [Act.put, List.getElem_toArray, List.getElem_cons_succ, List.getElem_cons_zero, List.setIfInBounds_toArray, List.set_cons_zero, List.set_cons_succ]
        refine wpAnyH_ready (rs := [2]) (by kernel_rfl) (by simp) ?_
        refine AllReadyH.cons rfl (fun K hK => ?_) AllReadyH.nil
        try simp only [List.getElem_toArray, List.getElem_cons_succ, List.getElem_cons_zero]
        go_simp
        go_at_call 14; refine (PrizesOk_rev _ _ _ _ _ _ pz _ (HRW.out.later HB0.out.drew) (HBR.out.drewNR _)).mono ?_; rintro e5 w5 ⟨rfl, hb5⟩; rw [HZ.out]; have k5 := keep2 hb5 ⟨b0, b1⟩ hz
        have HB5 := Lib.hid (bstep (B := wd.heap.size) (W := wd) HB0.out.drew (Nat.le_of_lt hz) hb5)
        have hz5 : wd.heap.size < w5.heap.size := Nat.lt_of_lt_of_le hz hb5.size
        have HZR := Lib.hid (zeros_ri w5 m 3)
        clear hb5
        refine hK.out _ _ ?_ (fun hHeld => ?_)
        · exact k5
        clear hK K
        try simp only [Act.put, List.getElem_toArray, List.getElem_cons_succ, List.getElem_cons_zero, List.setIfInBounds_toArray, List.set_cons_zero, List.set_cons_succ]
        refine wpAnyH_take (i := 4) (v := ?_) rfl (by kernel_rfl) (by kernel_rfl) (by kernel_rfl) (fun _ _ _ h => h) (Or.inl ⟨by rfl, ?_⟩) (by assumption) ?_
        rotate_left
        · (intro w hSw; (try dsimp only at hSw); (try simp only [List.getElem_toArray, List.getElem_cons_succ, List.getElem_cons_zero]); first | (go_simp; done) | (go_simp; with_reducible rfl))
        try simp only [Act.put, List.getElem_toArray, List.getElem_cons_succ, List.getElem_cons_zero, List.setIfInBounds_toArray, List.set_cons_zero, List.set_cons_succ]
        refine wpAnyH_take (i := 5) (v := ?_) rfl (by kernel_rfl) (by kernel_rfl) (by kernel_rfl) (fun _ _ _ h => h) (Or.inl ⟨by rfl, ?_⟩) (by assumption) ?_
        rotate_left
        · (intro w hSw; (try dsimp only at hSw); (try simp only [List.getElem_toArray, List.getElem_cons_succ, List.getElem_cons_zero]); first | (go_simp; done) | (go_simp; with_reducible rfl))
        try simp only [Act.put, List.getElem_toArray, List.getElem_cons_succ, List.getElem_cons_zero, List.setIfInBounds_toArray, List.set_cons_zero, List.set_cons_succ]
        refine wpAnyH_take (i := 6) (v := ?_) rfl (by kernel_rfl) (by kernel_rfl) (by kernel_rfl) (fun _ _ _ h => h) (Or.inl ⟨by rfl, ?_⟩) (by assumption) ?_
        rotate_left
        · (intro w hSw; (try dsimp only at hSw); (try simp only [List.getElem_toArray, List.getElem_cons_succ, List.getElem_cons_zero]); first | (go_simp; done) | (go_simp; with_reducible rfl))
        try simp only [Act.put, List.getElem_toArray, List.getElem_cons_succ, List.getElem_cons_zero, List.setIfInBounds_toArray, List.set_cons_zero, List.set_cons_succ]
        refine wpAnyH_take (i := 7) (v := ?_) rfl (by kernel_rfl) (by kernel_rfl) (by kernel_rfl) (fun _ _ _ h => h) (Or.inl ⟨by rfl, ?_⟩) (by assumption) ?_
        rotate_left
        · (intro w hSw; (try dsimp only at hSw); (try simp only [List.getElem_toArray, List.getElem_cons_succ, List.getElem_cons_zero]); first | (go_simp; done) | (go_simp; with_reducible rfl))
        try simp only [Act.put, List.getElem_toArray, List.getElem_cons_succ, List.getElem_cons_zero, List.setIfInBounds_toArray, List.set_cons_zero, List.set_cons_succ]
        refine wpAnyH_take (i := 8) (v := ?_) rfl (by kernel_rfl) (by kernel_rfl) (by kernel_rfl) (fun _ _ _ h => h) (Or.inl ⟨by rfl, ?_⟩) (by assumption) ?_
        rotate_left
        · (intro w hSw; (try dsimp only at hSw); (try simp only [List.getElem_toArray, List.getElem_cons_succ, List.getElem_cons_zero]); first | (go_simp; done) | (go_simp; with_reducible rfl))
        try simp only [Act.put, List.getElem_toArray, List.getElem_cons_succ, List.getElem_cons_zero, List.setIfInBounds_toArray, List.set_cons_zero, List.set_cons_succ]
        refine wpAnyH_take (i := 9) (v := ?_) rfl (by kernel_rfl) (by kernel_rfl) (by kernel_rfl) (fun _ _ _ h => h) (Or.inl ⟨by rfl, ?_⟩) (by assumption) ?_
        rotate_left
        · (intro w hSw; (try dsimp only at hSw); (try simp only [List.getElem_toArray, List.getElem_cons_succ, List.getElem_cons_zero]); first | (go_simp; done) | (go_simp; with_reducible rfl))
        try simp only [Act.put, List.getElem_toArray, List.getElem_cons_succ, List.getElem_cons_zero, List.setIfInBounds_toArray, List.set_cons_zero, List.set_cons_succ]
        refine wpAnyH_take (i := 12) (v := ?_) rfl (by kernel_rfl) (by kernel_rfl) (by kernel_rfl) (fun _ _ _ h => h) (Or.inl ⟨by rfl, ?_⟩) (by assumption) ?_
        rotate_left
        · (intro w hSw; (try dsimp only at hSw); (try simp only [List.getElem_toArray, List.getElem_cons_succ, List.getElem_cons_zero]); first | (go_simp; done) | (go_simp; with_reducible rfl))
        try simp only [Act.put, List.getElem_toArray, List.getElem_cons_succ, List.getElem_cons_zero, List.setIfInBounds_toArray, List.set_cons_zero, List.set_cons_succ]
        refine wpAnyH_ready (rs := [10]) (by kernel_rfl) (by simp) ?_
        refine AllReadyH.cons rfl (fun K hK => ?_) AllReadyH.nil
        try simp only [List.getElem_toArray, List.getElem_cons_succ, List.getElem_cons_zero]
        go_simp

        refine hK.out _ _ ?_ (fun hHeld => ?_)
        · exact ⟨(World.cell?_alloc_lt _ _ _ hz5).trans k5.1, (World.cell?_alloc_lt _ _ _ hz5).trans k5.2⟩
        clear hK K
        try simp only [Act.put, List.getElem_toArray, List.getElem_cons_succ, List.getElem_cons_zero, List.setIfInBounds_toArray, List.set_cons_zero, List.set_cons_succ]
        refine wpAnyH_ready (rs := [11]) (by kernel_rfl) (by simp) ?_
        refine AllReadyH.cons rfl (fun K hK => ?_) AllReadyH.nil
        try simp only [List.getElem_toArray, List.getElem_cons_succ, List.getElem_cons_zero]
        go_simp
        go_at_call 14; refine (PrizesOk_zeros m _ _ _ _ _ _ (HRW.out.later (HB5.out.alloc (Nat.le_of_lt hz5) _)) HZR.out).mono ?_; rintro e6 w6 ⟨rfl, hb6⟩; rw [HNO.out]; have hzA : wd.heap.size < (w5.alloc (.cells (Array.replicate m (.int .i64 0)) 3)).heap.size := by simp; omega
        have k6 := keep2 hb6 ⟨(World.cell?_alloc_lt w5 (.cells (Array.replicate m (.int .i64 0)) 3) _ hz5).trans k5.1, (World.cell?_alloc_lt w5 (.cells (Array.replicate m (.int .i64 0)) 3) _ hz5).trans k5.2⟩ hzA
        have HB6 := Lib.hid (bstep (B := wd.heap.size) (W := wd) (HB5.out.alloc (Nat.le_of_lt hz5) (.cells (Array.replicate m (.int .i64 0)) 3)) (Nat.le_of_lt hzA) hb6)
        have hz6 : wd.heap.size < w6.heap.size := Nat.lt_of_lt_of_le hzA hb6.size
        clear hb6
        refine hK.out _ _ ?_ (fun hHeld => ?_)
        · exact k6
        clear hK K
        try simp only [Act.put, List.getElem_toArray, List.getElem_cons_succ, List.getElem_cons_zero, List.setIfInBounds_toArray, List.set_cons_zero, List.set_cons_succ]
        refine wpAnyH_ready (rs := [13]) (by kernel_rfl) (by simp) ?_
        refine AllReadyH.cons rfl (fun K hK => ?_) AllReadyH.nil
        try simp only [List.getElem_toArray, List.getElem_cons_succ, List.getElem_cons_zero]
        go_simp
        go_at_call 16; refine (NetOk_any _ _ _ _ _ (HRW.out.later HB6.out)).mono ?_; rintro e7 w7 ⟨rfl, hb7⟩; rw [HNO.out]; have k7 := keep2 hb7 k6 hz6
        have HB7 := Lib.hid (bstep (B := wd.heap.size) (W := wd) HB6.out (Nat.le_of_lt hz6) hb7)
        have hz7 : wd.heap.size < w7.heap.size := Nat.lt_of_lt_of_le hz6 hb7.size
        clear hb7
        refine hK.out _ _ ?_ (fun hHeld => ?_)
        · exact k7
        clear hK K
        try simp only [Act.put, List.getElem_toArray, List.getElem_cons_succ, List.getElem_cons_zero, List.setIfInBounds_toArray, List.set_cons_zero, List.set_cons_succ]
        refine wpAnyH_take (i := 14) (v := ?_) rfl (by kernel_rfl) (by kernel_rfl) (by kernel_rfl) (fun _ _ _ h => h) (Or.inl ⟨by rfl, ?_⟩) (by assumption) ?_
        rotate_left
        · (intro w hSw; (try dsimp only at hSw); (try simp only [List.getElem_toArray, List.getElem_cons_succ, List.getElem_cons_zero]); first | (go_simp; done) | (go_simp; with_reducible rfl))
        try simp only [Act.put, List.getElem_toArray, List.getElem_cons_succ, List.getElem_cons_zero, List.setIfInBounds_toArray, List.set_cons_zero, List.set_cons_succ]
        refine wpAnyH_take (i := 15) (v := ?_) rfl (by kernel_rfl) (by kernel_rfl) (by kernel_rfl) (fun _ _ _ h => h) (Or.inl ⟨by rfl, ?_⟩) (by assumption) ?_
        rotate_left
        · (intro w hSw; (try dsimp only at hSw); (try simp only [List.getElem_toArray, List.getElem_cons_succ, List.getElem_cons_zero]); first | (go_simp; done) | (go_simp; with_reducible rfl))
        try simp only [Act.put, List.getElem_toArray, List.getElem_cons_succ, List.getElem_cons_zero, List.setIfInBounds_toArray, List.set_cons_zero, List.set_cons_succ]
        refine wpAnyH_take (i := 16) (v := ?_) rfl (by kernel_rfl) (by kernel_rfl) (by kernel_rfl) (fun _ _ _ h => h) (Or.inl ⟨by rfl, ?_⟩) (by assumption) ?_
        rotate_left
        · (intro w hSw; (try dsimp only at hSw); (try simp only [List.getElem_toArray, List.getElem_cons_succ, List.getElem_cons_zero]); first | (go_simp; done) | (go_simp; with_reducible rfl))
        try simp only [Act.put, List.getElem_toArray, List.getElem_cons_succ, List.getElem_cons_zero, List.setIfInBounds_toArray, List.set_cons_zero, List.set_cons_succ]
        refine wpAnyH_ready (rs := [17]) (by kernel_rfl) (by simp) ?_
        refine AllReadyH.cons rfl (fun K hK => ?_) AllReadyH.nil
        try simp only [List.getElem_toArray, List.getElem_cons_succ, List.getElem_cons_zero]
        go_simp
        go_at_call 17; refine (alive_any _).mono ?_; rintro e8 w8 ⟨rfl, hb8⟩; have k8 := keep2 hb8 k7 hz7
        have HB8 := Lib.hid (bstep (B := wd.heap.size) (W := wd) HB7.out (Nat.le_of_lt hz7) hb8)
        clear hb8
        refine hK.out _ _ ?_ (fun hHeld => ?_)
        · exact k8
        clear hK K
        try simp only [Act.put, List.getElem_toArray, List.getElem_cons_succ, List.getElem_cons_zero, List.setIfInBounds_toArray, List.set_cons_zero, List.set_cons_succ]
        refine wpAnyH_take (i := 18) (v := ?_) rfl (by kernel_rfl) (by kernel_rfl) (by kernel_rfl) (fun _ _ _ h => h) (Or.inl ⟨by rfl, ?_⟩) (by assumption) ?_
        rotate_left
        · (intro w hSw; (try dsimp only at hSw); (try simp only [List.getElem_toArray, List.getElem_cons_succ, List.getElem_cons_zero]); first | (go_simp; done) | (go_simp; with_reducible rfl))
        try simp only [Act.put, List.getElem_toArray, List.getElem_cons_succ, List.getElem_cons_zero, List.setIfInBounds_toArray, List.set_cons_zero, List.set_cons_succ]
        refine wpAnyH_take (i := 19) (v := ?_) rfl (by kernel_rfl) (by kernel_rfl) (by kernel_rfl) (fun _ _ _ h => h) (Or.inl ⟨by rfl, ?_⟩) (by assumption) ?_
        rotate_left
        · (intro w hSw; (try dsimp only at hSw); (try simp only [List.getElem_toArray, List.getElem_cons_succ, List.getElem_cons_zero]); first | (go_simp; done) | (go_simp; with_reducible rfl))
        try simp only [Act.put, List.getElem_toArray, List.getElem_cons_succ, List.getElem_cons_zero, List.setIfInBounds_toArray, List.set_cons_zero, List.set_cons_succ]
        refine wpAnyH_done (by kernel_rfl) ?_ _
        clear hmk m1 m2 m3 m5
        go_wp2_with fail
        go_ret
        exact ⟨rfl, bstep HBD.out hzd HB8.out⟩
end Go.Proofs.Ytoekaembfieigaa
