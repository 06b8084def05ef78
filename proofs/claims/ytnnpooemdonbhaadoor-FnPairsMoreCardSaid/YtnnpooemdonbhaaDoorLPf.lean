/- The law of PairsCost: a further pair costs no more than its path. -/
import Derived.Test.YtnnpooemdonbhaaDoorCpI
import Derived.Test.YtnnpooemdonbhaaDoorCpD
import Derived.Test.YtnnpooemdonbhaaDoorWC
import Derived.Test.YtnnpooemdonbhaaDoorMC
import Derived.Test.YtnnpooemdonbhaaDoorME
import Derived.Test.YtnnpooemdonbhaaDoorWRb
import Derived.Test.YtnnpooemdonbhaaDoorTc
set_option linter.unusedSimpArgs false
set_option linter.unusedVariables false
attribute [local go_sem ↓] Go.wp_at_zero Go.wp_at_succ
namespace Go.Proofs.YtnnpooemdonbhaaDoor
open Go.ChangeShapes Go.WideShapes Go.ChangeAt Go.RowKit

theorem step_append_copy {P : Program} {w : World} {ops : Array Oper} {o : Oper} {a : Act} {K : Act → World → Prop} {Q : Exit → Act → World → Prop} {E : Prop} (hgd : o.guard = none) (s x : Operand) (t : TypeId)
    (ho : o.op = .call { callee := .builtin .append, args := #[s, x], argTypes := #[t, t] })
    (base : Nat) (e : TypeId) (i : TypeInfo) (z : Value) (size bytes : Nat) (ht : P.underlying t = some (.slice e)) (hi : P.info? e = some i) (hz : i.zero = some z)
    (hsize : i.size = size) (hby : i.bytes = bytes) (hzs : z.cells.size = size) (hsz : 0 < size)
    (v : Value) (hs : a.eval s = v) (hown : w.ownsRow base e size v 0 [])
    (ad : Addr) (m c : Nat) (news : List Value) (hx : a.eval x = .slice (some ad) m c) (hl : news.length = m * size) (hnews : ∀ j u, news[j]? = some u → w.cell? (ad.add j) = some u) (h1 : ∀ u ∈ news, u.oneCell' = true)
    (h63 : m ≤ maxLen) (hbytes : m * bytes ≤ 140737488355328) (hbase : base ≤ w.heap.size)
    (h : ∀ A1 c1 w', w'.ownsRow base e size (.slice A1 m c1) m news → w.grownBy w' v.ownBlock → K (a.put o.dst (.slice A1 m c1)) w') :
    if Region.wanted o (yielded ops a.tmps) = true then Oper.wp P o a w K Q else E := by
  have hw : Region.wanted o (yielded ops a.tmps) = true := by simp [Region.wanted, hgd]
  rw [if_pos hw]
  exact wp_append_copy s x t ho base e i z size bytes ht hi hz hsize hby hzs hsz v hs hown ad m c news hx hl hnews h1 h63 hbytes hbase h
set_option maxRecDepth 100000 in
set_option maxHeartbeats 2000000 in
theorem FnPairsMore_walk (A : Option Addr) (len cap : Nat) (w : World) (hr : RB w w.heap.size A len) (hc : len ≤ cap) (hlen : len ≤ 9223372036854775807) (hT : Tab w) :
    Calls Tryd.prog 7 #[.slice A len cap] w fun e w' => e = .returned (.bool true) ∧ Below w.heap.size w w' := by
  have HR := Lib.hid hr
  have HT := Lib.hid hT
  clear hT
  clear hr
  by_cases hm : 1048576 < len
  · go_enter Tryd.func7, Tryd.ntmps7
    go_wp2_with fail
    go_ret
    exact ⟨rfl, Below.refl _ _⟩
  · go_enter Tryd.func7, Tryd.ntmps7
    go_wp2_with fail
    refine (DrawPairsCost_any A len cap _ HR.out hc (by omega)).mono ?_
    rintro e wd ⟨nn, A', c', ws, bc, cc, pz, rfl, hrw, hl10, hcc, hn0, hn7, hri, hpz8, hpzc, hbd⟩
    have HRW := Lib.hid hrw
    have HBD := Lib.hid hbd
    have HTD := Lib.hid (HT.out.later hbd)
    have hzd : w.heap.size ≤ wd.heap.size := hbd.size
    clear hrw hbd
    have HRI := Lib.hid hri
    have hpz9 : pz.length ≤ 1073741824 := by omega
    clear hri
    obtain ⟨Q, hQ⟩ : ∃ Q, pairsCost nn ws pz = Q := ⟨_, rfl⟩
    have HQ := Lib.hid hQ
    by_cases hneg : Q < 0
    · clear hQ
      go_wp2_with fail
      refine (PairsCost_any _ _ _ _ _ _ _ _ (HRW.out.later (by go_grown)) (HTD.out.later (by go_grown)) (HRI.out.later (by go_grown)) hpz9).mono ?_; rintro e w1 ⟨rfl, hb1⟩
      rw [HQ.out]
      obtain ⟨hc1, hf1⟩ := bcell hb1
      have hz1_0 : wd.heap.size < w1.heap.size := by have hq := hb1.size; (try simp at hq); omega
      have HK1 := Lib.hid hb1
      have HB1 := Lib.hid (bstep (B := wd.heap.size) (W := wd) (by (try have hp := HB0.out); go_grown) (by go_size) hb1); clear hb1
      go_wp2_with fail
      refine (sPairsCost_any _ _ _ _ _ _ _ _ (HRW.out.later (by have := HB1.out; go_grown)) (by omega) (HRI.out.later (by have := HB1.out; go_grown)) hpz9).mono ?_; rintro e w2 ⟨rfl, hb2⟩
      rw [HQ.out]
      obtain ⟨hc2, hf2⟩ := bcell hb2
      have hz2_0 : wd.heap.size < w2.heap.size := by have hq := hb2.size; (try simp at hq); omega
      have HK2 := Lib.hid hb2
      have HB2 := Lib.hid (bstep (B := wd.heap.size) (W := wd) (by have hp := HB1.out; go_grown) (by go_size) hb2); clear hb2
      go_wp2_with fail
      refine (alive_any _).mono ?_; rintro e w3 ⟨rfl, hb3⟩
      obtain ⟨hc3, hf3⟩ := bcell hb3
      have hz3_0 : wd.heap.size < w3.heap.size := by have hq := hb3.size; (try simp at hq); omega
      have HK3 := Lib.hid hb3
      have HB3 := Lib.hid (bstep (B := wd.heap.size) (W := wd) (by have hp := HB2.out; go_grown) (by go_size) hb3); clear hb3
      go_wp2_with fail
      go_ret
      exact ⟨rfl, bstep HBD.out hzd HB3.out⟩
    · obtain ⟨L, hL⟩ : ∃ L, pz.length = L := ⟨_, rfl⟩
      have HPC1 : Hid (∀ (W : World) (h1 : RW W W.heap.size A' ws) (h2 : Tab W) (h3 : RC W W.heap.size (some ⟨bc, 0, none⟩) pz), Calls Tryd.prog 21 #[.agg #[.int .i64 nn, .slice A' ws.length c'], .slice (some ⟨bc, 0, none⟩) L cc] W fun e w' => e = .returned (.int .i64 Q) ∧ Below W.heap.size W w') := fun W h1 h2 h3 => by
        have h9 := PairsCost_any nn A' c' ws (some ⟨bc, 0, none⟩) cc pz W h1 h2 h3 hpz9
        rw [hQ, hL] at h9
        exact h9
      have HSC1 : Hid (∀ (W : World) (h1 : RW W W.heap.size A' ws) (h3 : RC W W.heap.size (some ⟨bc, 0, none⟩) pz), Calls Tryd.prog 24 #[.agg #[.int .i64 nn, .slice A' ws.length c'], .slice (some ⟨bc, 0, none⟩) L cc] W fun e w' => e = .returned (.int .i64 Q) ∧ Below W.heap.size W w') := fun W h1 h3 => by
        have h9 := sPairsCost_any nn A' c' ws (some ⟨bc, 0, none⟩) cc pz W h1 (by omega) h3 hpz9
        rw [hQ, hL] at h9
        exact h9
      by_cases hL0 : L = 0
      · subst hL0
        rw [hL]
        clear hQ hL
        go_wp2_with fail
        refine (HPC1.out _ (HRW.out.later (by go_grown)) (HTD.out.later (by go_grown)) (HRI.out.later (by go_grown))).mono ?_; rintro e w1 ⟨rfl, hb1⟩
        skip
        obtain ⟨hc1, hf1⟩ := bcell hb1
        have hz1_0 : wd.heap.size < w1.heap.size := by have hq := hb1.size; (try simp at hq); omega
        have HK1 := Lib.hid hb1
        have HB1 := Lib.hid (bstep (B := wd.heap.size) (W := wd) (by (try have hp := HB0.out); go_grown) (by go_size) hb1); clear hb1
        go_wp2_with fail
        refine (HSC1.out _ (HRW.out.later (by have := HB1.out; go_grown)) (HRI.out.later (by have := HB1.out; go_grown))).mono ?_; rintro e w2 ⟨rfl, hb2⟩
        skip
        obtain ⟨hc2, hf2⟩ := bcell hb2
        have hz2_0 : wd.heap.size < w2.heap.size := by have hq := hb2.size; (try simp at hq); omega
        have HK2 := Lib.hid hb2
        have HB2 := Lib.hid (bstep (B := wd.heap.size) (W := wd) (by have hp := HB1.out; go_grown) (by go_size) hb2); clear hb2
        go_wp2_with fail
        refine (alive_any _).mono ?_; rintro e w3 ⟨rfl, hb3⟩
        obtain ⟨hc3, hf3⟩ := bcell hb3
        have hz3_0 : wd.heap.size < w3.heap.size := by have hq := hb3.size; (try simp at hq); omega
        have HK3 := Lib.hid hb3
        have HB3 := Lib.hid (bstep (B := wd.heap.size) (W := wd) (by have hp := HB2.out; go_grown) (by go_size) hb3); clear hb3
        go_wp2_with fail
        go_ret
        exact ⟨rfl, bstep HBD.out hzd HB3.out⟩
      · obtain ⟨hpo, hqc⟩ := pairsCost_told (n := nn) (ws := ws) (ps := pz) (by rw [hQ]; omega)
        obtain ⟨hno, hl4, hpi⟩ := pairsOk_t hpo
        have HNO := Lib.hid hno
        have hni := netOk_t hno
        obtain ⟨m, rfl⟩ : ∃ m : Nat, nn = m := ⟨nn.toNat, by omega⟩
        have hm6 : m ≤ 6 := by have := hni.hi; omega
        obtain ⟨j, hj⟩ : ∃ j, L = j + 1 := ⟨L - 1, by omega⟩
        have hjL : j < pz.length := by omega
        obtain ⟨⟨pa, pb⟩, hx⟩ : ∃ x, pz[j]? = some x := ⟨_, List.getElem?_eq_getElem hjL⟩
        have hm9 := List.mem_of_getElem? hx
        have hpb := hpi (pa, pb) hm9
        simp only at hpb
        obtain ⟨ia, rfl⟩ : ∃ i : Nat, pa = i := ⟨pa.toNat, by omega⟩
        obtain ⟨ib, rfl⟩ : ∃ i : Nat, pb = i := ⟨pb.toNat, by omega⟩
        have hia : ia < m := by omega
        have hib : ib < m := by omega
        have hq0 : 0 ≤ pc ws pz := by rw [← hqc, hQ]; omega
        have hless := pc_fewer (qs := pz.take j) hni (fun p hp => List.mem_of_mem_take hp) hq0
        have hfar := pc_far hni hq0 hia hib hm9
        have hmore := pc_snoc (ps := pz.take j) hni (fun p hp => hpi p (List.mem_of_mem_take hp)) hless.1 hia hib hfar.1
        have hwhole : pz.take j ++ [((ia : Int), (ib : Int))] = pz := by
          have h9 : pz.take (j + 1) = pz := List.take_of_length_le (by omega)
          rw [List.take_add_one, hx] at h9
          exact h9
        rw [hwhole] at hmore
        rw [← hqc, hQ] at hless hmore hfar
        have hlt : (pz.take j).length = j := by rw [List.length_take]; omega
        have hpl : pairsOk (m : Int) ws (pz.take j) = true := pairsOk_mk hno (by omega) (fun p hp => hpi p (List.mem_of_mem_take hp))
        have hfb := farF_bd hni hia hib
        have hSb := (pc_ge hni (pz.take j)).2
        obtain ⟨S, hS⟩ : ∃ S, pc ws (pz.take j) = S := ⟨_, rfl⟩
        obtain ⟨FF, hFF⟩ : ∃ F, farF ws m ia ib = F := ⟨_, rfl⟩
        rw [hS] at hless hmore hSb
        rw [hFF] at hmore hfar hfb
        have HFF := Lib.hid hFF
        have HLS : Hid (pairsCost (m : Int) ws (pz.take j) = S) := by show _ = _; unfold pairsCost; rw [hpl, if_pos rfl, hS]
        have HPCL : Hid (∀ (W : World) (Ap : Option Addr) (cp : Nat), RW W W.heap.size A' ws → Tab W → RC W W.heap.size Ap (pz.take j) → Calls Tryd.prog 21 #[.agg #[.int .i64 m, .slice A' ws.length c'], .slice Ap j cp] W fun e w' => e = .returned (.int .i64 (pairsCost (m : Int) ws (pz.take j))) ∧ Below W.heap.size W w') := fun W Ap cp h1 h2 h3 => by
          have h9 := PairsCost_any (m : Int) A' c' ws Ap cp (pz.take j) W h1 h2 h3 (by omega)
          rwa [hlt] at h9
        have HRO : Hid (∀ (W : World) (Ap : Option Addr) (cp : Nat) {base : Nat}, W.ownsRow base 34 2 (.slice Ap j cp) j (ctCells (pz.take j)) → RC W W.heap.size Ap (pz.take j)) := fun W Ap cp base h => by
          rw [← hlt] at h
          have h9 : W.ownsRow base 34 2 (.slice Ap (pz.take j).length cp) (pz.take j).length (ctCells (pz.take j)) := by rw [hlt] at h ⊢; exact h
          exact rc_of_own h9
        have HLN : Hid ((ctCells (pz.take j)).length = j * 2) := by show _ = _; rw [ctCells_len, hlt]
        have HW1 : Hid (IntKind.i64.wrap ((L : Int) - 1) = (j : Int)) := by show _ = _; rw [show (L : Int) - 1 = (j : Int) from by omega]; exact IntWalk.i64_in _ ⟨by omega, by omega⟩
        have HW2 : Hid (wrap64 ((L : Int) - 1) = (j : Int)) := by show _ = _; rw [show (L : Int) - 1 = (j : Int) from by omega]; exact IntWalk.wrap64_in _ ⟨by omega, by omega⟩
        have HW3 : Hid (IntKind.i64.wrap (S + FF) = S + FF) := IntWalk.i64_in _ ⟨by omega, by omega⟩
        have HW4 : Hid (wrap64 (S + FF) = S + FF) := IntWalk.wrap64_in _ ⟨by omega, by omega⟩
        have HX := Lib.hid hx
        have hmx : j ≤ maxLen := by unfold maxLen; omega
        have hby : j * 16 ≤ 140737488355328 := by omega
        have j0 : (0 : Int) ≤ (j : Int) := by omega
        have j1 : (j : Int) < (L : Int) := by omega
        have j2 : (j : Int) ≤ (cc : Int) := by omega
        have j3 : j ≤ cc := by omega
        have ia0 : (0 : Int) ≤ (ia : Int) := by omega
        have ib0 : (0 : Int) ≤ (ib : Int) := by omega
        have ia1 : (ia : Int) < (m : Int) := by omega
        have ib1 : (ib : Int) < (m : Int) := by omega
        have hLz : ((L : Int) == 0) = false := by rw [beq_eq_false_iff_ne]; omega
        have d1 : decide (0 ≤ S) = true := by simpa using hless.1
        have d2 : decide (S ≤ Q) = true := by simpa using hless.2
        have d3 : decide (Q ≤ S + FF) = true := by simpa using hmore.2
        have hS0 := hless.1
        rw [hL] at hpz9 ⊢
        obtain ⟨i0, hi0, hz0, hz1', hz2⟩ := info_parts infoPairD
        have hbs := noPairs
        clear hQ hpo hqc hno hl4 hpi hni hx hm9 hpb hq0 hless hfar hmore hwhole hlt hpl hfb hS hFF hjL hL hL0 hj hSb
        go_wp2_with fail
        refine (HPC1.out _ (HRW.out.later (by go_grown)) (HTD.out.later (by go_grown)) (HRI.out.later (by go_grown))).mono ?_; rintro e w1 ⟨rfl, hb1⟩
        obtain ⟨hc1, hf1⟩ := bcell hb1
        have hz1_0 : wd.heap.size < w1.heap.size := by have hq := hb1.size; (try simp at hq); omega
        have HK1 := Lib.hid hb1
        have HB1 := Lib.hid (bstep (B := wd.heap.size) (W := wd) (by (try have hp := HB0.out); go_grown) (by go_size) hb1); clear hb1
        have k1 : w1.cell? ⟨wd.heap.size, 0, none⟩ = some (.int .i64 m) ∧ w1.cell? ⟨wd.heap.size, 1, none⟩ = some (.slice A' ws.length c') := ⟨by go_simp, by go_simp⟩
        obtain ⟨b, o, e9, hB, c0, c1⟩ := (HRI.out.later HB1.out).at_ HX.out
        injection e9 with e9; injection e9 with e91 e92; subst e91; subst e92
        simp only [Nat.zero_add] at c0 c1
        clear hc1 hf1 HK1
        obtain ⟨k10, k11⟩ := k1
        have HRI1 := Lib.hid (HRI.out.later HB1.out)
        have HBX := Lib.hid ((Below.refl w1.heap.size w1).alloc (Nat.le_refl _) (.cells #[.int .i64 ia, .int .i64 ib] 34))
        have y0 : (w1.alloc (.cells #[.int .i64 ia, .int .i64 ib] 34)).cell? ⟨w1.heap.size, 0, none⟩ = some (.int .i64 ia) := cell_of_row _ _ 0 _ _ (0, 0) (heap_alloc_new w1 _)
        have y1 : (w1.alloc (.cells #[.int .i64 ia, .int .i64 ib] 34)).cell? ⟨w1.heap.size, 1, none⟩ = some (.int .i64 ib) := cell_of_row _ _ 1 _ _ (0, 0) (heap_alloc_new w1 _)
        have b0 := (World.cell?_alloc_lt w1 (.cells #[.int .i64 ia, .int .i64 ib] 34) ⟨wd.heap.size, 0, none⟩ hz1_0).trans k10
        have b1 := (World.cell?_alloc_lt w1 (.cells #[.int .i64 ia, .int .i64 ib] 34) ⟨wd.heap.size, 1, none⟩ hz1_0).trans k11
        have hz21 : w1.heap.size < (w1.alloc (.cells #[.int .i64 ia, .int .i64 ib] 34)).heap.size := by simp
        obtain ⟨w2, hw2⟩ : ∃ w2, w1.alloc (.cells #[.int .i64 ia, .int .i64 ib] 34) = w2 := ⟨_, rfl⟩
        rw [hw2] at HBX y0 y1 b0 b1 hz21
        have HW2E := Lib.hid hw2
        have hz2_0 : wd.heap.size < w2.heap.size := Nat.lt_trans hz1_0 hz21
        have HB2 := Lib.hid (bstep (B := wd.heap.size) (W := wd) HB1.out (Nat.le_of_lt hz1_0) HBX.out)
        have HON : Hid ((w2.drew.alloc (.cells #[] 34)).ownsRow w2.heap.size 34 2 (.slice (some ⟨w2.heap.size, 0, none⟩) 0 0) 0 []) := ⟨rfl, .inr ⟨w2.heap.size, 0, #[], rfl, Nat.le_refl _, heap_alloc_new _ _, Nat.le_refl _, Nat.zero_le _, rfl, rfl⟩⟩
        have HNW : Hid (∀ u v, (ctCells (pz.take j))[u]? = some v → (w2.drew.alloc (.cells #[] 34)).cell? ((⟨bc, 0, none⟩ : Addr).add u) = some v) := (((HRI1.out.later HBX.out).take j).below (((Below.refl w2.heap.size w2).drew).alloc (Nat.le_refl _) (.cells #[] 34))).news
        clear hw2
        have hwa := HW1.out
        have hwb := HW2.out
        go_wp2_with fail
        rw [HW2E.out]
        refine wp_region_held_drew (S := (fun w' => w'.cell? ⟨wd.heap.size, 0, none⟩ = some (.int .i64 m) ∧ w'.cell? ⟨wd.heap.size, 1, none⟩ = some (.slice A' ws.length c'))) (by kernel_rfl) ?_ (fun hHeld => ?_)
        · exact ⟨b0, b1⟩
        refine wpAnyH_take (i := 0) (v := ?_) rfl (by kernel_rfl) (by kernel_rfl) (by kernel_rfl) (fun _ _ _ h => h) (Or.inl ⟨by rfl, ?_⟩) (by assumption) ?_
        rotate_left
        · (intro w hSw; (try dsimp only at hSw); (try simp only [List.getElem_toArray, List.getElem_cons_succ, List.getElem_cons_zero]); first | (go_simp; done) | (go_simp; with_reducible rfl))
        try simp only [Act.put, List.getElem_toArray, List.getElem_cons_succ, List.getElem_cons_zero, List.setIfInBounds_toArray, List.set_cons_zero, List.set_cons_succ]
        refine wpAnyH_take (i := 2) (v := ?_) rfl (by kernel_rfl) (by kernel_rfl) (by kernel_rfl) (fun _ _ _ h => h) (Or.inl ⟨by rfl, ?_⟩) (by assumption) ?_
        rotate_left
        · (intro w hSw; (try dsimp only at hSw); (try simp only [List.getElem_toArray, List.getElem_cons_succ, List.getElem_cons_zero]); first | (go_simp; done) | (go_simp; with_reducible rfl))
        try simp only [Act.put, List.getElem_toArray, List.getElem_cons_succ, List.getElem_cons_zero, List.setIfInBounds_toArray, List.set_cons_zero, List.set_cons_succ]
        refine wpAnyH_take (i := 3) (v := ?_) rfl (by kernel_rfl) (by kernel_rfl) (by kernel_rfl) (fun _ _ _ h => h) (Or.inl ⟨by rfl, ?_⟩) (by assumption) ?_
        rotate_left
        · (intro w hSw; (try dsimp only at hSw); (try simp only [List.getElem_toArray, List.getElem_cons_succ, List.getElem_cons_zero]); first | (go_simp; done) | (go_simp; with_reducible rfl))
        try simp only [Act.put, List.getElem_toArray, List.getElem_cons_succ, List.getElem_cons_zero, List.setIfInBounds_toArray, List.set_cons_zero, List.set_cons_succ]
        refine wpAnyH_take (i := 4) (v := ?_) rfl (by kernel_rfl) (by kernel_rfl) (by kernel_rfl) (fun _ _ _ h => h) (Or.inl ⟨by rfl, ?_⟩) (by assumption) ?_
        rotate_left
        · (intro w hSw; (try dsimp only at hSw); (try simp only [List.getElem_toArray, List.getElem_cons_succ, List.getElem_cons_zero]); first | (go_simp; done) | (go_simp; with_reducible rfl))
        try simp only [Act.put, List.getElem_toArray, List.getElem_cons_succ, List.getElem_cons_zero, List.setIfInBounds_toArray, List.set_cons_zero, List.set_cons_succ]
        refine wpAnyH_take (i := 5) (v := ?_) rfl (by kernel_rfl) (by kernel_rfl) (by kernel_rfl) (fun _ _ _ h => h) (Or.inl ⟨by rfl, ?_⟩) (by assumption) ?_
        rotate_left
        · (intro w hSw; (try dsimp only at hSw); (try simp only [List.getElem_toArray, List.getElem_cons_succ, List.getElem_cons_zero]); first | (go_simp; done) | (go_simp; with_reducible rfl))
        try simp only [Act.put, List.getElem_toArray, List.getElem_cons_succ, List.getElem_cons_zero, List.setIfInBounds_toArray, List.set_cons_zero, List.set_cons_succ]
        refine wpAnyH_take (i := 6) (v := ?_) rfl (by kernel_rfl) (by kernel_rfl) (by kernel_rfl) (fun _ _ _ h => h) (Or.inl ⟨by rfl, ?_⟩) (by assumption) ?_
        rotate_left
        · (intro w hSw; (try dsimp only at hSw); (try simp only [List.getElem_toArray, List.getElem_cons_succ, List.getElem_cons_zero]); first | (go_simp; done) | (go_simp; with_reducible rfl))
        try simp only [Act.put, List.getElem_toArray, List.getElem_cons_succ, List.getElem_cons_zero, List.setIfInBounds_toArray, List.set_cons_zero, List.set_cons_succ]
        refine wpAnyH_ready (rs := [1]) (by kernel_rfl) (by simp) ?_
        refine AllReadyH.cons rfl (fun K hK => ?_) AllReadyH.nil
        try simp only [List.getElem_toArray, List.getElem_cons_succ, List.getElem_cons_zero]
        go_simp

        refine hK.out _ _ ?_ (fun hHeld => ?_)
        · exact ⟨(World.cell?_alloc_lt _ _ _ hz2_0).trans b0, (World.cell?_alloc_lt _ _ _ hz2_0).trans b1⟩
        clear hK K
        try simp only [Act.put, List.getElem_toArray, List.getElem_cons_succ, List.getElem_cons_zero, List.setIfInBounds_toArray, List.set_cons_zero, List.set_cons_succ]
        refine wpAnyH_ready (rs := [7]) (by kernel_rfl) (by simp) ?_
        refine AllReadyH.cons rfl (fun K hK => ?_) AllReadyH.nil
        refine step_append_copy (by rfl) _ _ _ (by rfl) w2.heap.size 34 i0 _ 2 16 Tryd.underlying26 hi0 hz0 hz1' hz2 rfl (by decide) (.slice (some ⟨w2.heap.size, 0, none⟩) 0 0) (by rfl) HON.out ⟨bc, 0, none⟩ j cc (ctCells (pz.take j)) (by rfl) HLN.out HNW.out (ctCells_one _) hmx hby (by simp) ?_; intro A5 c5 w5 hown5 hg5
        have hb5 : Below w2.heap.size w2 w5 := below_grow (((Below.refl w2.heap.size w2).drew).alloc (Nat.le_refl _) (.cells #[] 34)) hg5 (Nat.le_refl _)
        obtain ⟨k50, k51⟩ := keep2 hb5 ⟨b0, b1⟩ hz2_0
        have z5 := Nat.lt_of_lt_of_le hz2_0 hb5.size
        have HB5 := Lib.hid (bstep (B := wd.heap.size) (W := wd) HB2.out (Nat.le_of_lt hz2_0) hb5)
        have HK5 := Lib.hid hb5
        have HOW5 := Lib.hid (HRO.out w5 A5 c5 hown5)
        clear hown5 hg5 hb5
        refine hK.out _ _ ?_ (fun hHeld => ?_)
        · exact ⟨k50, k51⟩
        clear hK K
        try simp only [Act.put, List.getElem_toArray, List.getElem_cons_succ, List.getElem_cons_zero, List.setIfInBounds_toArray, List.set_cons_zero, List.set_cons_succ]
        refine wpAnyH_ready (rs := [8]) (by kernel_rfl) (by simp) ?_
        refine AllReadyH.cons rfl (fun K hK => ?_) AllReadyH.nil
        try simp only [List.getElem_toArray, List.getElem_cons_succ, List.getElem_cons_zero]
        go_simp
        go_at_call 21; refine (HPCL.out w5 A5 c5 (HRW.out.later HB5.out) (HTD.out.later HB5.out) HOW5.out).mono ?_; rintro e6 w6 ⟨rfl, hb6⟩; rw [HLS.out]
        obtain ⟨k60, k61⟩ := keep2 hb6 ⟨k50, k51⟩ z5
        have z6 := Nat.lt_of_lt_of_le z5 hb6.size
        have HB6 := Lib.hid (bstep (B := wd.heap.size) (W := wd) HB5.out (Nat.le_of_lt z5) hb6)
        have HK6 := Lib.hid (bstep HK5.out HK5.out.size hb6)
        clear hb6
        refine hK.out _ _ ?_ (fun hHeld => ?_)
        · exact ⟨k60, k61⟩
        clear hK K
        try simp only [Act.put, List.getElem_toArray, List.getElem_cons_succ, List.getElem_cons_zero, List.setIfInBounds_toArray, List.set_cons_zero, List.set_cons_succ]
        refine wpAnyH_take (i := 9) (v := ?_) rfl (by kernel_rfl) (by kernel_rfl) (by kernel_rfl) (fun _ _ _ h => h) (Or.inl ⟨by rfl, ?_⟩) (by assumption) ?_
        rotate_left
        · (intro w hSw; (try dsimp only at hSw); (try simp only [List.getElem_toArray, List.getElem_cons_succ, List.getElem_cons_zero]); first | (go_simp; done) | (go_simp; with_reducible rfl))
        try simp only [Act.put, List.getElem_toArray, List.getElem_cons_succ, List.getElem_cons_zero, List.setIfInBounds_toArray, List.set_cons_zero, List.set_cons_succ]
        refine wpAnyH_done (by kernel_rfl) ?_ _
        clear hwa hwb
        have y60 := (HK6.out.cell (p := ⟨w1.heap.size, 0, none⟩) hz21).trans y0
        have y61 := (HK6.out.cell (p := ⟨w1.heap.size, 1, none⟩) hz21).trans y1
        have z61 := Nat.lt_of_lt_of_le hz21 HK6.out.size
        clear y0 y1 b0 b1 k10 k11 c0 c1 k50 k51 hbs
        go_wp2_with fail
        refine (FarTable_any m A' c' ws _ (HRW.out.later HB6.out) HNO.out).mono ?_; rintro e w7 ⟨T, hT, rfl, htab, hb7⟩
        have k70 := (hb7.cell (p := ⟨wd.heap.size, 0, none⟩) z6).trans k60
        have k71 := (hb7.cell (p := ⟨wd.heap.size, 1, none⟩) z6).trans k61
        have y70 := (hb7.cell (p := ⟨w1.heap.size, 0, none⟩) z61).trans y60
        have y71 := (hb7.cell (p := ⟨w1.heap.size, 1, none⟩) z61).trans y61
        have z7 := Nat.lt_of_lt_of_le z6 hb7.size
        have z71 := Nat.lt_of_lt_of_le z61 hb7.size
        have HB7 := Lib.hid (bstep (B := wd.heap.size) (W := wd) HB6.out (Nat.le_of_lt z6) hb7)
        have t70 := htab.top ia hia
        have t71 := (htab.row ia ib hia hib).1
        rw [HFF.out] at t71
        have zT : T < w7.heap.size := by have := htab.los; have := htab.his; omega
        have zR : T + 1 + ia < w7.heap.size := by have := htab.his; omega
        clear htab hb7 y60 y61 k60 k61
        have hw3 := HW3.out
        have hw4 := HW4.out
        go_wp2_with fail
        refine wp_region_held_drew (S := (fun w' => w'.cell? ⟨wd.heap.size, 0, none⟩ = some (.int .i64 m) ∧ w'.cell? ⟨w1.heap.size, 0, none⟩ = some (.int .i64 ia) ∧ w'.cell? ⟨w1.heap.size, 1, none⟩ = some (.int .i64 ib) ∧ w'.cell? ⟨T, ia, none⟩ = some (.slice (some ⟨T + 1 + ia, 0, none⟩) m m) ∧ w'.cell? ⟨T + 1 + ia, ib, none⟩ = some (.int .i64 FF))) (by kernel_rfl) ?_ (fun hHeld => ?_)
        · exact ⟨k70, y70, y71, t70, t71⟩
        refine wpAnyH_ready (rs := [0]) (by kernel_rfl) (by simp) ?_
        refine AllReadyH.cons rfl (fun K hK => ?_) AllReadyH.nil
        try simp only [List.getElem_toArray, List.getElem_cons_succ, List.getElem_cons_zero]
        go_simp
        go_at_call 16; refine (alive_any _).mono ?_; rintro e8 w8 ⟨rfl, hb8⟩; have g8 : Below w7.heap.size w7 w8 := und hb8; have k8 : w8.cell? ⟨wd.heap.size, 0, none⟩ = some (.int .i64 m) ∧ w8.cell? ⟨w1.heap.size, 0, none⟩ = some (.int .i64 ia) ∧ w8.cell? ⟨w1.heap.size, 1, none⟩ = some (.int .i64 ib) ∧ w8.cell? ⟨T, ia, none⟩ = some (.slice (some ⟨T + 1 + ia, 0, none⟩) m m) ∧ w8.cell? ⟨T + 1 + ia, ib, none⟩ = some (.int .i64 FF) := ⟨(g8.cell (p := ⟨wd.heap.size, 0, none⟩) z7).trans k70, (g8.cell (p := ⟨w1.heap.size, 0, none⟩) z71).trans y70, (g8.cell (p := ⟨w1.heap.size, 1, none⟩) z71).trans y71, (g8.cell (p := ⟨T, ia, none⟩) zT).trans t70, (g8.cell (p := ⟨T + 1 + ia, ib, none⟩) zR).trans t71⟩
        refine hK.out _ _ ?_ (fun hHeld => ?_)
        · exact k8
        clear hK K
        try simp only [Act.put, List.getElem_toArray, List.getElem_cons_succ, List.getElem_cons_zero, List.setIfInBounds_toArray, List.set_cons_zero, List.set_cons_succ]
        refine wpAnyH_take (i := 1) (v := ?_) rfl (by kernel_rfl) (by kernel_rfl) (by kernel_rfl) (fun _ _ _ h => h) (Or.inl ⟨by rfl, ?_⟩) (by assumption) ?_
        rotate_left
        · (intro w hSw; (try dsimp only at hSw); (try simp only [List.getElem_toArray, List.getElem_cons_succ, List.getElem_cons_zero]); first | (go_simp; done) | (go_simp; with_reducible rfl))
        try simp only [Act.put, List.getElem_toArray, List.getElem_cons_succ, List.getElem_cons_zero, List.setIfInBounds_toArray, List.set_cons_zero, List.set_cons_succ]
        refine wpAnyH_take (i := 2) (v := ?_) rfl (by kernel_rfl) (by kernel_rfl) (by kernel_rfl) (fun _ _ _ h => h) (Or.inl ⟨by rfl, ?_⟩) (by assumption) ?_
        rotate_left
        · (intro w hSw; (try dsimp only at hSw); (try simp only [List.getElem_toArray, List.getElem_cons_succ, List.getElem_cons_zero]); first | (go_simp; done) | (go_simp; with_reducible rfl))
        try simp only [Act.put, List.getElem_toArray, List.getElem_cons_succ, List.getElem_cons_zero, List.setIfInBounds_toArray, List.set_cons_zero, List.set_cons_succ]
        refine wpAnyH_take (i := 3) (v := ?_) rfl (by kernel_rfl) (by kernel_rfl) (by kernel_rfl) (fun _ _ _ h => h) (Or.inl ⟨by rfl, ?_⟩) (by assumption) ?_
        rotate_left
        · (intro w hSw; (try dsimp only at hSw); (try simp only [List.getElem_toArray, List.getElem_cons_succ, List.getElem_cons_zero]); first | (go_simp; done) | (go_simp; with_reducible rfl))
        try simp only [Act.put, List.getElem_toArray, List.getElem_cons_succ, List.getElem_cons_zero, List.setIfInBounds_toArray, List.set_cons_zero, List.set_cons_succ]
        refine wpAnyH_take (i := 4) (v := ?_) rfl (by kernel_rfl) (by kernel_rfl) (by kernel_rfl) (fun _ _ _ h => h) (Or.inl ⟨by rfl, ?_⟩) (by assumption) ?_
        rotate_left
        · (intro w hSw; (try dsimp only at hSw); (try simp only [List.getElem_toArray, List.getElem_cons_succ, List.getElem_cons_zero]); first | (go_simp; done) | (go_simp; with_reducible rfl))
        try simp only [Act.put, List.getElem_toArray, List.getElem_cons_succ, List.getElem_cons_zero, List.setIfInBounds_toArray, List.set_cons_zero, List.set_cons_succ]
        refine wpAnyH_take (i := 5) (v := ?_) rfl (by kernel_rfl) (by kernel_rfl) (by kernel_rfl) (fun _ _ _ h => h) (Or.inl ⟨by rfl, ?_⟩) (by assumption) ?_
        rotate_left
        · (intro w hSw; (try dsimp only at hSw); (try simp only [List.getElem_toArray, List.getElem_cons_succ, List.getElem_cons_zero]); first | (go_simp; done) | (go_simp; with_reducible rfl))
        try simp only [Act.put, List.getElem_toArray, List.getElem_cons_succ, List.getElem_cons_zero, List.setIfInBounds_toArray, List.set_cons_zero, List.set_cons_succ]
        refine wpAnyH_take (i := 6) (v := ?_) rfl (by kernel_rfl) (by kernel_rfl) (by kernel_rfl) (fun _ _ _ h => h) (Or.inl ⟨by rfl, ?_⟩) (by assumption) ?_
        rotate_left
        · (intro w hSw; (try dsimp only at hSw); (try simp only [List.getElem_toArray, List.getElem_cons_succ, List.getElem_cons_zero]); first | (go_simp; done) | (go_simp; with_reducible rfl))
        try simp only [Act.put, List.getElem_toArray, List.getElem_cons_succ, List.getElem_cons_zero, List.setIfInBounds_toArray, List.set_cons_zero, List.set_cons_succ]
        refine wpAnyH_take (i := 7) (v := ?_) rfl (by kernel_rfl) (by kernel_rfl) (by kernel_rfl) (fun _ _ _ h => h) (Or.inl ⟨by rfl, ?_⟩) (by assumption) ?_
        rotate_left
        · (intro w hSw; (try dsimp only at hSw); (try simp only [List.getElem_toArray, List.getElem_cons_succ, List.getElem_cons_zero]); first | (go_simp; done) | (go_simp; with_reducible rfl))
        try simp only [Act.put, List.getElem_toArray, List.getElem_cons_succ, List.getElem_cons_zero, List.setIfInBounds_toArray, List.set_cons_zero, List.set_cons_succ]
        refine wpAnyH_take (i := 8) (v := ?_) rfl (by kernel_rfl) (by kernel_rfl) (by kernel_rfl) (fun _ _ _ h => h) (Or.inl ⟨by rfl, ?_⟩) (by assumption) ?_
        rotate_left
        · (intro w hSw; (try dsimp only at hSw); (try simp only [List.getElem_toArray, List.getElem_cons_succ, List.getElem_cons_zero]); first | (go_simp; done) | (go_simp; with_reducible rfl))
        try simp only [Act.put, List.getElem_toArray, List.getElem_cons_succ, List.getElem_cons_zero, List.setIfInBounds_toArray, List.set_cons_zero, List.set_cons_succ]
        refine wpAnyH_take (i := 9) (v := ?_) rfl (by kernel_rfl) (by kernel_rfl) (by kernel_rfl) (fun _ _ _ h => h) (Or.inl ⟨by rfl, ?_⟩) (by assumption) ?_
        rotate_left
        · (intro w hSw; (try dsimp only at hSw); (try simp only [List.getElem_toArray, List.getElem_cons_succ, List.getElem_cons_zero]); first | (go_simp; done) | (go_simp; with_reducible rfl))
        try simp only [Act.put, List.getElem_toArray, List.getElem_cons_succ, List.getElem_cons_zero, List.setIfInBounds_toArray, List.set_cons_zero, List.set_cons_succ]
        refine wpAnyH_take (i := 10) (v := ?_) rfl (by kernel_rfl) (by kernel_rfl) (by kernel_rfl) (fun _ _ _ h => h) (Or.inl ⟨by rfl, ?_⟩) (by assumption) ?_
        rotate_left
        · (intro w hSw; (try dsimp only at hSw); (try simp only [List.getElem_toArray, List.getElem_cons_succ, List.getElem_cons_zero]); first | (go_simp; done) | (go_simp; with_reducible rfl))
        try simp only [Act.put, List.getElem_toArray, List.getElem_cons_succ, List.getElem_cons_zero, List.setIfInBounds_toArray, List.set_cons_zero, List.set_cons_succ]
        refine wpAnyH_take (i := 11) (v := ?_) rfl (by kernel_rfl) (by kernel_rfl) (by kernel_rfl) (fun _ _ _ h => h) (Or.inl ⟨by rfl, ?_⟩) (by assumption) ?_
        rotate_left
        · (intro w hSw; (try dsimp only at hSw); (try simp only [List.getElem_toArray, List.getElem_cons_succ, List.getElem_cons_zero]); first | (go_simp; done) | (go_simp; with_reducible rfl))
        try simp only [Act.put, List.getElem_toArray, List.getElem_cons_succ, List.getElem_cons_zero, List.setIfInBounds_toArray, List.set_cons_zero, List.set_cons_succ]
        refine wpAnyH_take (i := 12) (v := ?_) rfl (by kernel_rfl) (by kernel_rfl) (by kernel_rfl) (fun _ _ _ h => h) (Or.inl ⟨by rfl, ?_⟩) (by assumption) ?_
        rotate_left
        · (intro w hSw; (try dsimp only at hSw); (try simp only [List.getElem_toArray, List.getElem_cons_succ, List.getElem_cons_zero]); first | (go_simp; done) | (go_simp; with_reducible rfl))
        try simp only [Act.put, List.getElem_toArray, List.getElem_cons_succ, List.getElem_cons_zero, List.setIfInBounds_toArray, List.set_cons_zero, List.set_cons_succ]
        refine wpAnyH_take (i := 13) (v := ?_) rfl (by kernel_rfl) (by kernel_rfl) (by kernel_rfl) (fun _ _ _ h => h) (Or.inl ⟨by rfl, ?_⟩) (by assumption) ?_
        rotate_left
        · (intro w hSw; (try dsimp only at hSw); (try simp only [List.getElem_toArray, List.getElem_cons_succ, List.getElem_cons_zero]); first | (go_simp; done) | (go_simp; with_reducible rfl))
        try simp only [Act.put, List.getElem_toArray, List.getElem_cons_succ, List.getElem_cons_zero, List.setIfInBounds_toArray, List.set_cons_zero, List.set_cons_succ]
        refine wpAnyH_take (i := 14) (v := ?_) rfl (by kernel_rfl) (by kernel_rfl) (by kernel_rfl) (fun _ _ _ h => h) (Or.inl ⟨by rfl, ?_⟩) (by assumption) ?_
        rotate_left
        · (intro w hSw; (try dsimp only at hSw); (try simp only [List.getElem_toArray, List.getElem_cons_succ, List.getElem_cons_zero]); first | (go_simp; done) | (go_simp; with_reducible rfl))
        try simp only [Act.put, List.getElem_toArray, List.getElem_cons_succ, List.getElem_cons_zero, List.setIfInBounds_toArray, List.set_cons_zero, List.set_cons_succ]
        refine wpAnyH_take (i := 15) (v := ?_) rfl (by kernel_rfl) (by kernel_rfl) (by kernel_rfl) (fun _ _ _ h => h) (Or.inl ⟨by rfl, ?_⟩) (by assumption) ?_
        rotate_left
        · (intro w hSw; (try dsimp only at hSw); (try simp only [List.getElem_toArray, List.getElem_cons_succ, List.getElem_cons_zero]); first | (go_simp; done) | (go_simp; with_reducible rfl))
        try simp only [Act.put, List.getElem_toArray, List.getElem_cons_succ, List.getElem_cons_zero, List.setIfInBounds_toArray, List.set_cons_zero, List.set_cons_succ]
        refine wpAnyH_take (i := 16) (v := ?_) rfl (by kernel_rfl) (by kernel_rfl) (by kernel_rfl) (fun _ _ _ h => h) (Or.inl ⟨by rfl, ?_⟩) (by assumption) ?_
        rotate_left
        · (intro w hSw; (try dsimp only at hSw); (try simp only [List.getElem_toArray, List.getElem_cons_succ, List.getElem_cons_zero]); first | (go_simp; done) | (go_simp; with_reducible rfl))
        try simp only [Act.put, List.getElem_toArray, List.getElem_cons_succ, List.getElem_cons_zero, List.setIfInBounds_toArray, List.set_cons_zero, List.set_cons_succ]
        refine wpAnyH_take (i := 17) (v := ?_) rfl (by kernel_rfl) (by kernel_rfl) (by kernel_rfl) (fun _ _ _ h => h) (Or.inl ⟨by rfl, ?_⟩) (by assumption) ?_
        rotate_left
        · (intro w hSw; (try dsimp only at hSw); (try simp only [List.getElem_toArray, List.getElem_cons_succ, List.getElem_cons_zero]); first | (go_simp; done) | (go_simp; with_reducible rfl))
        try simp only [Act.put, List.getElem_toArray, List.getElem_cons_succ, List.getElem_cons_zero, List.setIfInBounds_toArray, List.set_cons_zero, List.set_cons_succ]
        refine wpAnyH_take (i := 18) (v := ?_) rfl (by kernel_rfl) (by kernel_rfl) (by kernel_rfl) (fun _ _ _ h => h) (Or.inl ⟨by rfl, ?_⟩) (by assumption) ?_
        rotate_left
        · (intro w hSw; (try dsimp only at hSw); (try simp only [List.getElem_toArray, List.getElem_cons_succ, List.getElem_cons_zero]); first | (go_simp; done) | (go_simp; with_reducible rfl))
        try simp only [Act.put, List.getElem_toArray, List.getElem_cons_succ, List.getElem_cons_zero, List.setIfInBounds_toArray, List.set_cons_zero, List.set_cons_succ]
        refine wpAnyH_take (i := 19) (v := ?_) rfl (by kernel_rfl) (by kernel_rfl) (by kernel_rfl) (fun _ _ _ h => h) (Or.inl ⟨by rfl, ?_⟩) (by assumption) ?_
        rotate_left
        · (intro w hSw; (try dsimp only at hSw); (try simp only [List.getElem_toArray, List.getElem_cons_succ, List.getElem_cons_zero]); first | (go_simp; done) | (go_simp; with_reducible rfl))
        try simp only [Act.put, List.getElem_toArray, List.getElem_cons_succ, List.getElem_cons_zero, List.setIfInBounds_toArray, List.set_cons_zero, List.set_cons_succ]
        refine wpAnyH_take (i := 20) (v := ?_) rfl (by kernel_rfl) (by kernel_rfl) (by kernel_rfl) (fun _ _ _ h => h) (Or.inl ⟨by rfl, ?_⟩) (by assumption) ?_
        rotate_left
        · (intro w hSw; (try dsimp only at hSw); (try simp only [List.getElem_toArray, List.getElem_cons_succ, List.getElem_cons_zero]); first | (go_simp; done) | (go_simp; with_reducible rfl))
        try simp only [Act.put, List.getElem_toArray, List.getElem_cons_succ, List.getElem_cons_zero, List.setIfInBounds_toArray, List.set_cons_zero, List.set_cons_succ]
        refine wpAnyH_take (i := 21) (v := ?_) rfl (by kernel_rfl) (by kernel_rfl) (by kernel_rfl) (fun _ _ _ h => h) (Or.inl ⟨by rfl, ?_⟩) (by assumption) ?_
        rotate_left
        · (intro w hSw; (try dsimp only at hSw); (try simp only [List.getElem_toArray, List.getElem_cons_succ, List.getElem_cons_zero]); first | (go_simp; done) | (go_simp; with_reducible rfl))
        try simp only [Act.put, List.getElem_toArray, List.getElem_cons_succ, List.getElem_cons_zero, List.setIfInBounds_toArray, List.set_cons_zero, List.set_cons_succ]
        refine wpAnyH_take (i := 22) (v := ?_) rfl (by kernel_rfl) (by kernel_rfl) (by kernel_rfl) (fun _ _ _ h => h) (Or.inl ⟨by rfl, ?_⟩) (by assumption) ?_
        rotate_left
        · (intro w hSw; (try dsimp only at hSw); (try simp only [List.getElem_toArray, List.getElem_cons_succ, List.getElem_cons_zero]); first | (go_simp; done) | (go_simp; with_reducible rfl))
        try simp only [Act.put, List.getElem_toArray, List.getElem_cons_succ, List.getElem_cons_zero, List.setIfInBounds_toArray, List.set_cons_zero, List.set_cons_succ]
        refine wpAnyH_take (i := 23) (v := ?_) rfl (by kernel_rfl) (by kernel_rfl) (by kernel_rfl) (fun _ _ _ h => h) (Or.inl ⟨by rfl, ?_⟩) (by assumption) ?_
        rotate_left
        · (intro w hSw; (try dsimp only at hSw); (try simp only [List.getElem_toArray, List.getElem_cons_succ, List.getElem_cons_zero]); first | (go_simp; done) | (go_simp; with_reducible rfl))
        try simp only [Act.put, List.getElem_toArray, List.getElem_cons_succ, List.getElem_cons_zero, List.setIfInBounds_toArray, List.set_cons_zero, List.set_cons_succ]
        refine wpAnyH_take (i := 24) (v := ?_) rfl (by kernel_rfl) (by kernel_rfl) (by kernel_rfl) (fun _ _ _ h => h) (Or.inl ⟨by rfl, ?_⟩) (by assumption) ?_
        rotate_left
        · (intro w hSw; (try dsimp only at hSw); (try simp only [List.getElem_toArray, List.getElem_cons_succ, List.getElem_cons_zero]); first | (go_simp; done) | (go_simp; with_reducible rfl))
        try simp only [Act.put, List.getElem_toArray, List.getElem_cons_succ, List.getElem_cons_zero, List.setIfInBounds_toArray, List.set_cons_zero, List.set_cons_succ]
        refine wpAnyH_take (i := 25) (v := ?_) rfl (by kernel_rfl) (by kernel_rfl) (by kernel_rfl) (fun _ _ _ h => h) (Or.inl ⟨by rfl, ?_⟩) (by assumption) ?_
        rotate_left
        · (intro w hSw; (try dsimp only at hSw); (try simp only [List.getElem_toArray, List.getElem_cons_succ, List.getElem_cons_zero]); first | (go_simp; done) | (go_simp; with_reducible rfl))
        try simp only [Act.put, List.getElem_toArray, List.getElem_cons_succ, List.getElem_cons_zero, List.setIfInBounds_toArray, List.set_cons_zero, List.set_cons_succ]
        refine wpAnyH_take (i := 26) (v := ?_) rfl (by kernel_rfl) (by kernel_rfl) (by kernel_rfl) (fun _ _ _ h => h) (Or.inl ⟨by rfl, ?_⟩) (by assumption) ?_
        rotate_left
        · (intro w hSw; (try dsimp only at hSw); (try simp only [List.getElem_toArray, List.getElem_cons_succ, List.getElem_cons_zero]); first | (go_simp; done) | (go_simp; with_reducible rfl))
        try simp only [Act.put, List.getElem_toArray, List.getElem_cons_succ, List.getElem_cons_zero, List.setIfInBounds_toArray, List.set_cons_zero, List.set_cons_succ]
        refine wpAnyH_take (i := 27) (v := ?_) rfl (by kernel_rfl) (by kernel_rfl) (by kernel_rfl) (fun _ _ _ h => h) (Or.inl ⟨by rfl, ?_⟩) (by assumption) ?_
        rotate_left
        · (intro w hSw; (try dsimp only at hSw); (try simp only [List.getElem_toArray, List.getElem_cons_succ, List.getElem_cons_zero]); first | (go_simp; done) | (go_simp; with_reducible rfl))
        try simp only [Act.put, List.getElem_toArray, List.getElem_cons_succ, List.getElem_cons_zero, List.setIfInBounds_toArray, List.set_cons_zero, List.set_cons_succ]
        refine wpAnyH_take (i := 28) (v := ?_) rfl (by kernel_rfl) (by kernel_rfl) (by kernel_rfl) (fun _ _ _ h => h) (Or.inl ⟨by rfl, ?_⟩) (by assumption) ?_
        rotate_left
        · (intro w hSw; (try dsimp only at hSw); (try simp only [List.getElem_toArray, List.getElem_cons_succ, List.getElem_cons_zero]); first | (go_simp; done) | (go_simp; with_reducible rfl))
        try simp only [Act.put, List.getElem_toArray, List.getElem_cons_succ, List.getElem_cons_zero, List.setIfInBounds_toArray, List.set_cons_zero, List.set_cons_succ]
        refine wpAnyH_take (i := 29) (v := ?_) rfl (by kernel_rfl) (by kernel_rfl) (by kernel_rfl) (fun _ _ _ h => h) (Or.inl ⟨by rfl, ?_⟩) (by assumption) ?_
        rotate_left
        · (intro w hSw; (try dsimp only at hSw); (try simp only [List.getElem_toArray, List.getElem_cons_succ, List.getElem_cons_zero]); first | (go_simp; done) | (go_simp; with_reducible rfl))
        try simp only [Act.put, List.getElem_toArray, List.getElem_cons_succ, List.getElem_cons_zero, List.setIfInBounds_toArray, List.set_cons_zero, List.set_cons_succ]
        refine wpAnyH_take (i := 30) (v := ?_) rfl (by kernel_rfl) (by kernel_rfl) (by kernel_rfl) (fun _ _ _ h => h) (Or.inl ⟨by rfl, ?_⟩) (by assumption) ?_
        rotate_left
        · (intro w hSw; (try dsimp only at hSw); (try simp only [List.getElem_toArray, List.getElem_cons_succ, List.getElem_cons_zero]); first | (go_simp; done) | (go_simp; with_reducible rfl))
        try simp only [Act.put, List.getElem_toArray, List.getElem_cons_succ, List.getElem_cons_zero, List.setIfInBounds_toArray, List.set_cons_zero, List.set_cons_succ]
        refine wpAnyH_take (i := 31) (v := ?_) rfl (by kernel_rfl) (by kernel_rfl) (by kernel_rfl) (fun _ _ _ h => h) (Or.inl ⟨by rfl, ?_⟩) (by assumption) ?_
        rotate_left
        · (intro w hSw; (try dsimp only at hSw); (try simp only [List.getElem_toArray, List.getElem_cons_succ, List.getElem_cons_zero]); first | (go_simp; done) | (go_simp; with_reducible rfl))
        try simp only [Act.put, List.getElem_toArray, List.getElem_cons_succ, List.getElem_cons_zero, List.setIfInBounds_toArray, List.set_cons_zero, List.set_cons_succ]
        refine wpAnyH_take (i := 32) (v := ?_) rfl (by kernel_rfl) (by kernel_rfl) (by kernel_rfl) (fun _ _ _ h => h) (Or.inl ⟨by rfl, ?_⟩) (by assumption) ?_
        rotate_left
        · (intro w hSw; (try dsimp only at hSw); (try simp only [List.getElem_toArray, List.getElem_cons_succ, List.getElem_cons_zero]); first | (go_simp; done) | (go_simp; with_reducible rfl))
        try simp only [Act.put, List.getElem_toArray, List.getElem_cons_succ, List.getElem_cons_zero, List.setIfInBounds_toArray, List.set_cons_zero, List.set_cons_succ]
        refine wpAnyH_done (by kernel_rfl) ?_ _
        clear hw3 hw4
        have HB9 := Lib.hid (bstep (B := wd.heap.size) (W := wd) HB7.out (Nat.le_of_lt z7) g8)
        go_wp2_with fail
        go_ret
        exact ⟨rfl, bstep HBD.out hzd ⟨HB9.out.os, HB9.out.tape, HB9.out.output, HB9.out.size, HB9.out.block⟩⟩
end Go.Proofs.YtnnpooemdonbhaaDoor
