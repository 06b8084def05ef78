/- The law of HalfRound: boxes that share a point are within a box of both. -/
import Derived.Test.YtgnjjiljipgbnaaPoI
import Derived.Test.YtgnjjiljipgbnaaPoD
import Derived.Test.YtgnjjiljipgbnaaWC
import Derived.Test.YtgnjjiljipgbnaaWSb
import Derived.Test.YtgnjjiljipgbnaaCuA
set_option linter.unusedSimpArgs false
set_option linter.unusedVariables false
attribute [local go_sem ↓] Go.wp_at_zero Go.wp_at_succ
namespace Go.Proofs.Ytgnjjiljipgbnaa
open Go.ChangeShapes Go.WideShapes Go.ChangeAt Go.RowKit

theorem half_no {ps : List (Int × Int)} (h : pointsOk ps = false) : halfRound ps = -1 := by unfold halfRound; rw [h]; rfl
theorem half_is {ps : List (Int × Int)} (h : pointsOk ps = true) : halfRound ps = boxOf ps := by unfold halfRound; rw [if_pos h]
theorem pts_sub {ps qs : List (Int × Int)} (h : pointsOk ps = true) (h1 : 1 ≤ qs.length) (h2 : qs.length ≤ 6) (hs : ∀ p, p ∈ qs → p ∈ ps) : pointsOk qs = true :=
  pointsOk_mk h1 h2 fun p hp => (pointsOk_t h).2.2 p (hs p hp)
theorem rc_drop {w : World} {B b : Nat} {cs : List (Int × Int)} (h : RC w B (some ⟨b, 0, none⟩) cs) (k : Nat) : RC w B (some ⟨b, k * 2, none⟩) (cs.drop k) := by
  intro i x hx
  rw [List.getElem?_drop] at hx
  obtain ⟨b', o', e, h1, h2, h3⟩ := h (k + i) x hx
  injection e with e; injection e with e1 e2; subst e1; subst e2
  refine ⟨b, k * 2, rfl, h1, ?_, ?_⟩
  · rw [show k * 2 + i * 2 = 0 + (k + i) * 2 from by omega]; exact h2
  · rw [show k * 2 + i * 2 + 1 = 0 + (k + i) * 2 + 1 from by omega]; exact h3
/-- two parts of points that share one -/
theorem half_parts {ps : List (Int × Int)} (h : pointsOk ps = true) {k : Nat} (hk : k < ps.length) : boxOf ps ≤ boxOf (ps.take (k + 1)) + boxOf (ps.drop k) ∧ boxOf (ps.take (k + 1)) ≤ boxOf ps ∧ boxOf (ps.drop k) ≤ boxOf ps ∧ halfRound (ps.take (k + 1)) = boxOf (ps.take (k + 1)) ∧ halfRound (ps.drop k) = boxOf (ps.drop k) ∧ 0 ≤ boxOf (ps.take (k + 1)) ∧ 0 ≤ boxOf (ps.drop k) := by
  obtain ⟨h1, h2, h3⟩ := pointsOk_t h
  have l1 : (ps.take (k + 1)).length = k + 1 := by rw [List.length_take]; omega
  have l2 : (ps.drop k).length = ps.length - k := by rw [List.length_drop]
  have hx : ps[k]? = some ps[k] := List.getElem?_eq_getElem hk
  have x1 : ps[k] ∈ ps.take (k + 1) := List.mem_of_getElem? (i := k) (by rw [List.getElem?_take, if_pos (by omega)]; exact hx)
  have x2 : ps[k] ∈ ps.drop k := List.mem_of_getElem? (i := 0) (by rw [List.getElem?_drop]; exact hx)
  have o1 := pts_sub h (qs := ps.take (k + 1)) (by omega) (by omega) (fun p hp => List.mem_of_mem_take hp)
  have o2 := pts_sub h (qs := ps.drop k) (by omega) (by omega) (fun p hp => List.mem_of_mem_drop hp)
  refine ⟨box_join x1 x2 (fun p hp => ?_) (by omega), box_sub (by omega) (fun p hp => List.mem_of_mem_take hp), box_sub (by omega) (fun p hp => List.mem_of_mem_drop hp), half_is o1, half_is o2, (box_bd o1).1, (box_bd o2).1⟩
  have hp' : p ∈ ps.take (k + 1) ++ ps.drop (k + 1) := by rw [List.take_append_drop]; exact hp
  rcases List.mem_append.1 hp' with h9 | h9
  · exact .inl h9
  · right
    have : ps.drop (k + 1) = (ps.drop k).drop 1 := by rw [List.drop_drop]
    rw [this] at h9
    exact List.mem_of_mem_drop h9
set_option maxRecDepth 100000 in
set_option maxHeartbeats 4000000 in
theorem FnHalfJoin_walk (A : Option Addr) (len cap : Nat) (w : World) (hr : RB w w.heap.size A len) (hc : len ≤ cap) (hlen : len ≤ 9223372036854775807) :
    Calls Try.prog 8 #[.slice A len cap] w fun e w' => e = .returned (.bool true) ∧ Below w.heap.size w w' := by
  have HR := Lib.hid hr
  clear hr
  by_cases hm : 1048576 < len
  · go_enter Try.func8, Try.ntmps8
    go_wp2_with fail
    go_ret
    exact ⟨rfl, Below.refl _ _⟩
  · go_enter Try.func8, Try.ntmps8
    go_wp2_with fail
    refine (DrawHalfRound_any A len cap _ HR.out hc (by omega)).mono ?_
    rintro e wd ⟨bc, cc, ps, rfl, hri, hl12, hcc, hbd⟩
    have HRI := Lib.hid hri
    have HBD := Lib.hid hbd
    have hzd : w.heap.size ≤ wd.heap.size := hbd.size
    have hpm : ps.length ≤ 1073741824 := by omega
    clear hri hbd
    cases hok : pointsOk ps
    · have HN := Lib.hid (half_no hok)
      clear hok
      go_wp2_with fail
      refine (HalfRound_any _ _ _ _ (HRI.out.later (by go_grown)) hpm).mono ?_; rintro e w1 ⟨rfl, hb1⟩
      rw [HN.out]
      obtain ⟨hc1, hf1⟩ := bcell hb1
      have HK1 := Lib.hid hb1
      have HB1 := Lib.hid (bstep (B := wd.heap.size) (W := wd) (by (try have hp := HB0.out); go_grown) (by go_size) hb1); clear hb1
      have hs1 : wd.heap.size ≤ w1.heap.size := HB1.out.size
      go_wp2_with fail
      refine (sHalfRound_any _ _ _ _ (HRI.out.later (by have := HB1.out; go_grown)) hpm).mono ?_; rintro e w2 ⟨rfl, hb2⟩
      rw [HN.out]
      obtain ⟨hc2, hf2⟩ := bcell hb2
      have HK2 := Lib.hid hb2
      have HB2 := Lib.hid (bstep (B := wd.heap.size) (W := wd) (by have hp := HB1.out; go_grown) (by go_size) hb2); clear hb2
      have hs2 : wd.heap.size ≤ w2.heap.size := HB2.out.size
      go_wp2_with fail
      refine (alive_any _).mono ?_; rintro e w3 ⟨rfl, hb3⟩
      obtain ⟨hc3, hf3⟩ := bcell hb3
      have HK3 := Lib.hid hb3
      have HB3 := Lib.hid (bstep (B := wd.heap.size) (W := wd) (by have hp := HB2.out; go_grown) (by go_size) hb3); clear hb3
      have hs3 : wd.heap.size ≤ w3.heap.size := HB3.out.size
      go_wp2_with fail
      go_ret
      exact ⟨rfl, bstep HBD.out hzd HB3.out⟩
    · obtain ⟨hl1, hl6, hall⟩ := pointsOk_t hok
      have hbb := box_bd hok
      have hhr := half_is hok
      obtain ⟨H, hH⟩ : ∃ H, boxOf ps = H := ⟨_, rfl⟩
      obtain ⟨L, hL⟩ : ∃ L, ps.length = L := ⟨_, rfl⟩
      rw [hH] at hhr hbb
      have hnn : ¬ H < 0 := by omega
      have HHC : Hid (∀ (W : World), RC W W.heap.size (some ⟨bc, 0, none⟩) ps → Calls Try.prog 21 #[.slice (some ⟨bc, 0, none⟩) L cc] W fun e w' => e = .returned (.int .i64 H) ∧ Below W.heap.size W w') := fun W h => by
        have h9 := HalfRound_any (some ⟨bc, 0, none⟩) cc ps W h hpm
        rw [hhr, hL] at h9; exact h9
      have HPT : Hid (∀ k : Nat, k < L → ∃ a b : Int, halfRound (ps.take (k + 1)) = a ∧ halfRound (ps.drop k) = b ∧ H ≤ a + b ∧ a ≤ H ∧ b ≤ H ∧ 0 ≤ a ∧ 0 ≤ b ∧ (ps.take (k + 1)).length = k + 1 ∧ (ps.drop k).length = L - k) := fun k hk => by
        have h9 := half_parts hok (k := k) (by omega)
        rw [hH] at h9
        exact ⟨_, _, h9.2.2.2.1, h9.2.2.2.2.1, h9.1, h9.2.1, h9.2.2.1, h9.2.2.2.2.2.1, h9.2.2.2.2.2.2, by rw [List.length_take]; omega, by rw [List.length_drop, hL]⟩
      have hL7 : L ≤ 6 := by omega
      have hLc : L ≤ cc := by omega
      rw [hL]
      obtain ⟨i0, hi0, hz0, hz1', hz2⟩ := info_parts infoPointD
      have hbs := noPoints
      clear hok hl1 hl6 hall hhr hH hL
      go_wp2_with fail
      refine (HHC.out _ (HRI.out.later (by go_grown))).mono ?_; rintro e w1 ⟨rfl, hb1⟩
      skip
      obtain ⟨hc1, hf1⟩ := bcell hb1
      have HK1 := Lib.hid hb1
      have HB1 := Lib.hid (bstep (B := wd.heap.size) (W := wd) (by (try have hp := HB0.out); go_grown) (by go_size) hb1); clear hb1
      have hs1 : wd.heap.size ≤ w1.heap.size := HB1.out.size
      clear hc1 hf1 HK1
      go_wp2_with fail
      go_loopw [5] (fun v wr => ∃ k : Nat, k ≤ L ∧ v = .int .i64 k ∧ Below wd.heap.size wd wr) (fun v _ => L - (intOf v).toNat)
      case atStart => exact ⟨0, Nat.zero_le _, rfl, HB1.out⟩
      case round =>
        clear HB1 hs1
        obtain ⟨k, hk, rfl, hb⟩ := hrel
        have HB0 := Lib.hid hb
        clear hb
        have k0 : (0 : Int) ≤ (k : Int) := by omega
        by_cases hlk : k < L
        · have k1 : (k : Int) < (L : Int) := by omega
          obtain ⟨a, b, ha, hb, hab, haH, hbH, ha0, hb0, hlt6, hlt7⟩ := HPT.out k hlk
          have HHT : Hid (∀ (W : World) (Ap : Option Addr) (cp : Nat), RC W W.heap.size Ap (ps.take (k + 1)) → Calls Try.prog 21 #[.slice Ap (k + 1) cp] W fun e w' => e = .returned (.int .i64 a) ∧ Below W.heap.size W w') := fun W Ap cp h => by
            have h9 := HalfRound_any Ap cp (ps.take (k + 1)) W h (by omega)
            rw [ha, hlt6] at h9; exact h9
          have HHD : Hid (∀ (W : World) (Ap : Option Addr) (cp : Nat), RC W W.heap.size Ap (ps.drop k) → Calls Try.prog 21 #[.slice Ap (L - k) cp] W fun e w' => e = .returned (.int .i64 b) ∧ Below W.heap.size W w') := fun W Ap cp h => by
            have h9 := HalfRound_any Ap cp (ps.drop k) W h (by omega)
            rw [hb, hlt7] at h9; exact h9
          have HRO6 : Hid (∀ (W : World) (Ap : Option Addr) (cp : Nat) {base : Nat}, W.ownsRow base 27 2 (.slice Ap (k + 1) cp) (k + 1) (ctCells (ps.take (k + 1))) → RC W W.heap.size Ap (ps.take (k + 1))) := fun W Ap cp base h => by
            have h9 : W.ownsRow base 27 2 (.slice Ap (ps.take (k + 1)).length cp) (ps.take (k + 1)).length (ctCells (ps.take (k + 1))) := by rw [hlt6]; exact h
            exact rc_of_own h9
          have HRO7 : Hid (∀ (W : World) (Ap : Option Addr) (cp : Nat) {base : Nat}, W.ownsRow base 27 2 (.slice Ap (L - k) cp) (L - k) (ctCells (ps.drop k)) → RC W W.heap.size Ap (ps.drop k)) := fun W Ap cp base h => by
            have h9 : W.ownsRow base 27 2 (.slice Ap (ps.drop k).length cp) (ps.drop k).length (ctCells (ps.drop k)) := by rw [hlt7]; exact h
            exact rc_of_own h9
          have HLN6 : Hid ((ctCells (ps.take (k + 1))).length = (k + 1) * 2) := by show _ = _; rw [ctCells_len, hlt6]
          have HLN7 : Hid ((ctCells (ps.drop k)).length = (L - k) * 2) := by show _ = _; rw [ctCells_len, hlt7]
          have HW1 : Hid (IntKind.i64.wrap ((k : Int) + 1) = ((k + 1 : Nat) : Int)) := by show _ = _; rw [show (k : Int) + 1 = ((k + 1 : Nat) : Int) from by omega]; exact IntWalk.i64_in _ ⟨by omega, by omega⟩
          have HW2 : Hid (wrap64 ((k : Int) + 1) = ((k + 1 : Nat) : Int)) := by show _ = _; rw [show (k : Int) + 1 = ((k + 1 : Nat) : Int) from by omega]; exact IntWalk.wrap64_in _ ⟨by omega, by omega⟩
          have HW3 : Hid (IntKind.i64.wrap (a + b) = a + b) := IntWalk.i64_in _ ⟨by omega, by omega⟩
          have HW4 : Hid (wrap64 (a + b) = a + b) := IntWalk.wrap64_in _ ⟨by omega, by omega⟩
          have hmx6 : k + 1 ≤ maxLen := by unfold maxLen; omega
          have hby6 : (k + 1) * 16 ≤ 140737488355328 := by omega
          have hmx7 : L - k ≤ maxLen := by unfold maxLen; omega
          have hby7 : (L - k) * 16 ≤ 140737488355328 := by omega
          have q0 : (0 : Int) ≤ (k : Int) + 1 := by omega
          have q2 : (k : Int) + 1 ≤ (cc : Int) := by omega
          have q6 : ¬ cc = k := by omega
          have q7 : k ≤ L := by omega
          have q8 : L ≤ cc := by omega
          have q4 : (k : Int) ≤ (L : Int) := by omega
          have q5 : (L : Int) ≤ (cc : Int) := by omega
          have n1 : ¬ a + b < H := by omega
          have n2 : ¬ H < a := by omega
          have n3 : ¬ H < b := by omega
          clear ha hb hlt6 hlt7 hab haH hbH ha0 hb0
          have hsp : wd.heap.size ≤ wr.heap.size := HB0.out.size
          have HBP := HB0
          have hon6 : Hid ((wr.alloc (.cells #[] 27)).ownsRow wr.heap.size 27 2 (.slice (some ⟨wr.heap.size, 0, none⟩) 0 0) 0 []) := ⟨rfl, .inr ⟨wr.heap.size, 0, #[], rfl, Nat.le_refl _, heap_alloc_new _ _, Nat.le_refl _, Nat.zero_le _, rfl, rfl⟩⟩
          have hnw6 := Lib.hid (RC.news (RC.later ((HRI.out.later HB0.out).take (k + 1)) ((Below.refl wr.heap.size wr).alloc (Nat.le_refl _) (.cells #[] 27))))
          have hwa := HW1.out
          have hwb := HW2.out
          go_wp2_with (at_builtin; clear hwa hwb; refine wpList_append_copy rfl _ _ _ rfl wr.heap.size 27 i0 _ 2 16 Try.underlying23 hi0 hz0 hz1' hz2 rfl (by decide) (.slice (some ⟨wr.heap.size, 0, none⟩) 0 0) rfl hon6.out ⟨bc, 0, none⟩ (k + 1) cc (ctCells (ps.take (k + 1))) rfl HLN6.out hnw6.out (ctCells_one _) hmx6 hby6 (by simp) ?_; intro A6 c6 w6 hown6 hg6; have hb6 := below_grow ((Below.refl wr.heap.size wr).alloc (Nat.le_refl _) _) hg6 (Nat.le_refl _); have HB6 := Lib.hid (bstep (B := wd.heap.size) (W := wd) HBP.out hsp hb6); have hs6 : wd.heap.size ≤ w6.heap.size := HB6.out.size; have HLE6 := Lib.hid (HRO6.out w6 A6 c6 hown6); clear hown6 hg6 hb6)
          (try go_wp2_with fail)
          refine (HHT.out _ _ _ HLE6.out).mono ?_; rintro e w8 ⟨rfl, hb8⟩
          have HB8 := Lib.hid (bstep (B := wd.heap.size) (W := wd) HB6.out hs6 hb8); clear hb8
          have hsp : wd.heap.size ≤ w8.heap.size := HB8.out.size
          have HBP := HB8
          have hon7 : Hid ((w8.alloc (.cells #[] 27)).ownsRow w8.heap.size 27 2 (.slice (some ⟨w8.heap.size, 0, none⟩) 0 0) 0 []) := ⟨rfl, .inr ⟨w8.heap.size, 0, #[], rfl, Nat.le_refl _, heap_alloc_new _ _, Nat.le_refl _, Nat.zero_le _, rfl, rfl⟩⟩
          have hnw7 := Lib.hid (RC.news (rc_drop (RC.later (HRI.out.later HB8.out) ((Below.refl w8.heap.size w8).alloc (Nat.le_refl _) (.cells #[] 27))) k))
          go_wp2_with (at_builtin;  refine wpList_append_copy rfl _ _ _ rfl w8.heap.size 27 i0 _ 2 16 Try.underlying23 hi0 hz0 hz1' hz2 rfl (by decide) (.slice (some ⟨w8.heap.size, 0, none⟩) 0 0) rfl hon7.out ⟨bc, k * 2, none⟩ (L - k) (cc - k) (ctCells (ps.drop k)) rfl HLN7.out hnw7.out (ctCells_one _) hmx7 hby7 (by simp) ?_; intro A7 c7 w7 hown7 hg7; have hb7 := below_grow ((Below.refl w8.heap.size w8).alloc (Nat.le_refl _) _) hg7 (Nat.le_refl _); have HB7 := Lib.hid (bstep (B := wd.heap.size) (W := wd) HBP.out hsp hb7); have hs7 : wd.heap.size ≤ w7.heap.size := HB7.out.size; have HLE7 := Lib.hid (HRO7.out w7 A7 c7 hown7); clear hown7 hg7 hb7)
          (try go_wp2_with fail)
          refine (HHD.out _ _ _ HLE7.out).mono ?_; rintro e w9 ⟨rfl, hb9⟩
          have HB9 := Lib.hid (bstep (B := wd.heap.size) (W := wd) HB7.out hs7 hb9); clear hb9
          have hwc := HW3.out
          have hwd := HW4.out
          go_wp2_with fail
          clear hwc hwd
          go_roundw
          case rel => exact ⟨k + 1, by omega, by go_num, HB9.out⟩
          case measure => (simp [intOf]) <;> omega
        · obtain rfl : k = L := by omega
          go_wp2_with fail
          refine (alive_any _).mono ?_; rintro e w3 ⟨rfl, hb3⟩
          have HB3 := Lib.hid (bstep (B := wd.heap.size) (W := wd) HB0.out HB0.out.size hb3); clear hb3
          go_wp2_with fail
          go_ret
          exact ⟨rfl, bstep HBD.out hzd HB3.out⟩
end Go.Proofs.Ytgnjjiljipgbnaa
