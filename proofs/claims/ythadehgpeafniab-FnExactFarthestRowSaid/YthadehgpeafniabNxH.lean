/- The model's farthest places. -/
import Derived.Test.YthadehgpeafniabNxO
import Derived.Test.YthadehgpeafniabMD
import Derived.Test.YthadehgpeafniabRI
import Derived.Test.YthadehgpeafniabTf
import Derived.Test.YthadehgpeafniabWC
set_option linter.unusedSimpArgs false
set_option linter.unusedVariables false
attribute [local go_sem ↓] Go.wp_at_zero Go.wp_at_succ
namespace Go.Proofs.Ythadehgpeafniab
open Go.ChangeShapes Go.WideShapes Go.ChangeAt Go.RowKit

/-- a table that stands, and a row of one's own that grows -/
structure TbOwn (w0 W : World) (tt : TypeId) (base lo hi T m : Nat) (R C : Nat → Nat) (F : Nat → Nat → Int) (v : Value) (L : List Int) : Prop where
  low : Below w0.heap.size w0 W
  bb : w0.heap.size ≤ base
  bs : base ≤ W.heap.size
  own : W.ownsRow base tt 1 v L.length (rlCells L)
  tab : TabM W lo hi T m R C F
  apart : ∀ g, v.ownBlock = some g → g < lo ∨ hi ≤ g
theorem TbOwn.append {w0 W w5 : World} {tt : TypeId} {base lo hi T m gg cc : Nat} {R C : Nat → Nat} {F : Nat → Nat → Int} {v : Value} {L : List Int} (h : TbOwn w0 W tt base lo hi T m R C F v L) (x : Int) {o : Obj}
    (hown : w5.ownsRow base tt 1 (.slice (some ⟨gg, 0, none⟩) (L.length + 1) cc) (L.length + 1) (rlCells L ++ [.int .i64 x])) (hg : (W.alloc o).grownBy w5 v.ownBlock)
    (hat : v.ownBlock = some gg ∨ gg = W.heap.size + 1) :
    TbOwn w0 w5 tt base lo hi T m R C F (.slice (some ⟨gg, 0, none⟩) (L.length + 1) cc) (L ++ [x]) := by
  have h9 := h.low.alloc h.low.size o
  have hbs := h.bs
  have hbb := h.bb
  refine ⟨⟨hg.os.trans h9.os, hg.tape.trans h9.tape, hg.output.trans h9.output, Nat.le_trans h9.size hg.size, fun i hi => (hg.block i (by have := h9.size; omega) (fun e => by have := (h.own.lt i e.symm).1; omega)).trans (h9.block i hi)⟩, h.bb, ?_, ?_, ?_, ?_⟩
  · have := hg.size; simp at this; omega
  · rw [List.length_append, rlCells_snoc]; exact hown
  · refine (h.tab.below ((Below.refl _ _).alloc (Nat.le_refl _) o)).keep (fun k h1 h2 => hg.block k (by have := h.tab.his; simp; omega) fun e => ?_) hg.size
    rcases h.apart k e.symm with h8 | h8 <;> omega
  · intro g hgo
    have e9 : gg = g := by injection hgo
    subst e9
    rcases hat with h8 | h8
    · exact h.apart gg h8
    · have := h.tab.his; right; omega
/-- a list of m numbers, told one by one -/
theorem rangeM_take {m : Nat} {f : Nat → Int} {a : Nat} (h : a < m) : ((List.range m).map f).take (a + 1) = ((List.range m).map f).take a ++ [f a] := by
  rw [List.take_add_one]
  simp [h]
theorem rangeM_len {m : Nat} {f : Nat → Int} : ((List.range m).map f).length = m := by simp
theorem rangeM_at {m : Nat} {f : Nat → Int} {a : Nat} (h : a < m) : ((List.range m).map f).getD a 0 = f a := by
  rw [List.getD_eq_getElem?_getD]; simp [h]
set_option maxRecDepth 100000 in
set_option maxHeartbeats 4000000 in
theorem sFarthestRow_any (n : Int) (A : Option Addr) (cap : Nat) (ws : List Wy) (w : World) (hr : RW w w.heap.size A ws) (hm : ws.length ≤ 1073741824) :
    Calls Try.prog 13 #[.agg #[.int .i64 n, .slice A ws.length cap]] w (NewInts (farthestRow n ws) w) := by
  have HR := Lib.hid hr
  clear hr
  have hbs := emptyInts
  unfold farthestRow
  cases hno : netOk n ws
  · have HNO := Lib.hid hno
    rw [if_neg (by simp)]
    clear hno
    go_enter Try.func13, Try.ntmps13
    go_wp2_with fail
    refine (sFarTable_none _ _ _ _ _ (HR.out.later (by go_grown)) hm HNO.out).mono ?_; rintro e1 w1 ⟨⟨A2, c2, rfl⟩, hb1⟩
    have HB1 := Lib.hid (bstep (B := w.heap.size) (W := w) (by go_grown) (by go_size) hb1)
    clear hb1
    go_wp2_with fail
    refine wp_loop_rounds 1 ?_
    rw [rounds_succ]
    go_wp2_with fail
    go_ret
    exact newInts_nil rfl HB1.out
  · have hni := netOk_t hno
    have h2 := hni.lo
    have h6 := hni.hi
    obtain ⟨m, rfl⟩ := Int.eq_ofNat_of_zero_le (show 0 ≤ n by omega)
    rw [if_pos rfl, Int.toNat_natCast]
    have HNO := Lib.hid hno
    have hm6 : m ≤ 6 := by omega
    have hm2 : 2 ≤ m := by omega
    obtain ⟨F, hF⟩ : ∃ F, farF ws m = F := ⟨_, rfl⟩
    have HF := Lib.hid hF
    obtain ⟨L, hL⟩ : ∃ L, (List.range m).map (fun a => fhTo F a m) = L := ⟨_, rfl⟩
    have HTK : Hid (∀ a, a < m → L.take (a + 1) = L.take a ++ [fhTo F a m]) := fun a ha => by rw [← hL]; exact rangeM_take ha
    have hLl : L.length = m := by rw [← hL]; exact rangeM_len
    have HLL := Lib.hid hLl
    have HLT : Hid (L.take m = L) := by show _ = _; rw [← hLl, List.take_length]
    have HLE : Hid (∀ a, a ≤ m → (L.take a).length = a) := fun a ha => by rw [List.length_take]; omega
    obtain ⟨i0, hi0, hz0, hz1', hz2⟩ := info_parts infoInt
    rw [hF, hL]
    clear hno hni hL hLl hF
    go_enter Try.func13, Try.ntmps13
    go_wp2_with fail
    refine (sFarTable_any m _ _ _ _ (HR.out.later (by go_grown)) hm HNO.out).mono ?_; rintro e1 w1 ⟨T1, cT1, lo1, hi1, R1, C1, rfl, htab1, hlo1, hb1⟩
    rw [HF.out] at htab1
    have ST1 : Hid (TbOwn w w1 3 (w.heap.size + 1) lo1 hi1 T1 m R1 C1 F (.slice (some ⟨w.heap.size + 1, 0, none⟩) 0 0) (L.take 0)) := by
      show TbOwn _ _ _ _ _ _ _ _ _ _ _ _ _
      refine ⟨bstep (B := w.heap.size) (W := w) (by go_grown) (by go_size) hb1, Nat.le_succ _, by have hq := hb1.size; (try simp at hq); omega, own_below (by have h7 := World.ownsRow_made (base := w.heap.size + 1) (e := 3) (size := 1) (w.alloc (.cells #[.int .i64 (m : Int), .slice A ws.length cap] 29)) #[] 0 (by simp) (by unfold maxLen; omega) rfl; rw [World.size_alloc] at h7; exact h7) hb1, htab1, fun g hg => .inl ?_⟩
      have e9 : g = w.heap.size + 1 := by injection hg with hg; exact hg.symm
      (try simp at hlo1); omega
    clear hb1 htab1 hlo1
    go_wp2_with fail
    go_loopw [3, 5] (fun v i wr => ∃ a : Nat, a ≤ m ∧ i = .int .i64 a ∧ TbOwn w wr 3 (w.heap.size + 1) lo1 hi1 T1 m R1 C1 F v (L.take a)) (fun _ i _ => m - (intOf i).toNat)
    case atStart => exact ⟨0, Nat.zero_le _, rfl, ST1.out⟩
    case round =>
      clear ST1
      obtain ⟨a, ha, rfl, hst⟩ := hrel
      obtain ⟨A1, c1, rfl⟩ := own_form hst.own
      obtain ⟨q, hq⟩ : ∃ q, (L.take a).length = q := ⟨_, rfl⟩
      have HQ := Lib.hid hq
      rw [hq] at hst ⊢
      clear hq
      have ST := Lib.hid hst
      have hbs9 := hst.bs
      have ha0 : (0 : Int) ≤ (a : Int) := by omega
      clear hst
      by_cases hlt : a < m
      · have ha1 : (a : Int) < (m : Int) := by omega
        have t0 := ST.out.tab.top a hlt
        have hla6 : (L.take a).length ≤ 6 := by rw [HLE.out a ha]; omega
        go_wp2_with fail
        go_loopw [6, 7] (fun ms i wi => ∃ b : Nat, b ≤ m ∧ i = .int .i64 b ∧ ms = .int .i64 (fhTo F a b) ∧ wi = wr) (fun _ i _ => m - (intOf i).toNat)
        case atStart => exact ⟨0, Nat.zero_le _, rfl, rfl, rfl⟩
        case round =>
          obtain ⟨b, hb, rfl, rfl, rfl⟩ := hrel
          have hb0 : (0 : Int) ≤ (b : Int) := by omega
          by_cases hlb : b < m
          · have hb1 : (b : Int) < (m : Int) := by omega
            have t1 := (ST.out.tab.row a b hlt hlb).1
            have HS : Hid (fhTo F a (b + 1) = max (fhTo F a b) (F a b)) := rfl
            obtain ⟨X, hX⟩ : ∃ X, fhTo F a b = X := ⟨_, rfl⟩
            obtain ⟨Y, hY⟩ : ∃ Y, F a b = Y := ⟨_, rfl⟩
            rw [hX, hY] at HS
            rw [hX]
            rw [hY] at t1
            clear hX hY
            go_wp2_with fail
            go_roundw
            case rel => exact ⟨b + 1, by omega, by go_num, by rw [HS.out], by first | rfl | trivial⟩
            case measure => (simp [intOf]) <;> omega
          · obtain rfl : b = m := by omega
            have HTA := Lib.hid (HTK.out a hlt)
            obtain ⟨V, hV⟩ : ∃ V, fhTo F a b = V := ⟨_, rfl⟩
            rw [hV] at HTA ⊢
            clear hV t0
            go_wp2_with (at_builtin; refine wpList_append_lies _ rfl _ _ _ rfl (w.heap.size + 1) 3 i0 _ 1 8 Try.underlying33 hi0 hz0 hz1' hz2 rfl (by omega) (.slice A1 q c1) (L.take a).length (rlCells (L.take a)) rfl (ST.out.own.alloc _) ⟨wr.heap.size, 0, none⟩ 1 1 [.int .i64 V] rfl rfl (World.news_of_block (cs := #[.int .i64 V]) (t := 3) (fr := (0, 0)) (heap_alloc_new wr _)) (by simp [Value.oneCell']) (by omega) (by unfold maxLen; omega) (by omega) (by simp; omega) (wr.heap.size + 1) (by simp) ?_; intro gg cc w5 hown5 hgrow5 hat5 hlt5; have S5 := Lib.hid (TbOwn.append ST.out V hown5 hgrow5 hat5); clear hown5 hgrow5 hat5 hlt5)
            go_roundw
            case rel => exact ⟨a + 1, by omega, by go_num, by rw [HTA.out]; have h9 := S5.out; first | exact h9 | (simp only [List.length_take] at h9; exact h9)⟩
            case measure => (simp [intOf]) <;> omega
      · obtain rfl : a = m := by omega
        have HQ2 : Hid (q = L.length) := by show _ = _; rw [← HQ.out, HLT.out]
        have HOW : Hid (wr.ownsRow (w.heap.size + 1) 3 1 (.slice A1 L.length c1) L.length (rlCells L)) := by
          show wr.ownsRow _ _ _ _ _ _
          have h9 := ST.out.own
          rw [HLT.out, HQ2.out] at h9
          exact h9
        rw [HQ2.out]
        go_wp2_with fail
        go_ret
        exact ⟨_, _, rfl, (rowF_of_own HOW.out (fun j hj => rlCells_at hj)).wider (Nat.le_succ _), ST.out.low⟩
end Go.Proofs.Ythadehgpeafniab
