/- The table over sets of ends, of the program. -/
import Derived.Test.YtoekaembfieigaaTr
import Derived.Test.YtoekaembfieigaaFtM
import Derived.Test.YtoekaembfieigaaMG
set_option linter.unusedSimpArgs false
set_option linter.unusedVariables false
attribute [local go_sem ↓] Go.wp_at_zero Go.wp_at_succ
namespace Go.Proofs.Ytoekaembfieigaa
open Go.ChangeShapes Go.WideShapes Go.ChangeAt Go.RowKit

set_option maxHeartbeats 4000000 in
theorem joinParts_any (lo hi T r L m cT : Nat) (R C : Nat → Nat) (f : Nat → Nat → Int) (p q k v : Nat) (w : World) (h : TabR w lo hi T r m R C f) (hp : p < r) (hq : q < r) (hk : k < r) (hL : r ≤ L) (hv : v < m) (hpk : p ≠ k) (hqk : q ≠ k) (hor : bits .or .i64 (p : Int) (q : Int) = (k : Int)) (hB1 : f p v ≤ 1000) (hB2 : f q v ≤ 1000) :
    Calls Try.prog 76 #[.slice (some ⟨T, 0, none⟩) L cT, .int .i64 p, .int .i64 q, .int .i64 v] w fun e w' => e = .returned (.tuple #[]) ∧ TabR w' lo hi T r m R C (if 0 ≤ f p v ∧ 0 ≤ f q v then lowF f k v (f p v + f q v) else f) ∧ OnT lo hi T w w' := by
  have H := Lib.hid h
  have h1 := h.top p hp
  have h2 := h.top q hq
  have g1 := (h.row p v hp hv).1
  have g2 := (h.row q v hq hv).1
  have p0 : (0 : Int) ≤ (p : Int) := by omega
  have q0 : (0 : Int) ≤ (q : Int) := by omega
  have v0 : (0 : Int) ≤ (v : Int) := by omega
  have p1 : (p : Int) < (L : Int) := by omega
  have q1 : (q : Int) < (L : Int) := by omega
  have v1 : (v : Int) < (m : Int) := by omega
  obtain ⟨x, hx⟩ : ∃ x, f p v = x := ⟨_, rfl⟩
  obtain ⟨y, hy⟩ : ∃ y, f q v = y := ⟨_, rfl⟩
  have HX := Lib.hid hx
  have HY := Lib.hid hy
  rw [hx] at g1 hB1 ⊢
  rw [hy] at g2 hB2 ⊢
  clear h hx hy
  by_cases hx0 : 0 ≤ x
  · by_cases hy0 : 0 ≤ y
    · have HK1 : Hid (lowF f k v (x + y) p v = x) := by show lowF f k v (x + y) p v = x; unfold lowF; rw [if_neg (fun e => hpk e.1)]; exact HX.out
      have HK2 : Hid (lowF f k v (x + y) q v = y) := by show lowF f k v (x + y) q v = y; unfold lowF; rw [if_neg (fun e => hqk e.1)]; exact HY.out
      have hwr : IntKind.i64.wrap (x + y) = x + y := IntWalk.i64_in _ ⟨by omega, by omega⟩
      have hwr2 : wrap64 (x + y) = x + y := IntWalk.wrap64_in _ ⟨by omega, by omega⟩
      go_enter Try.func76, Try.ntmps76
      go_wp2_with fail
      refine wp_region_held_drew (S := (fun w' => w'.cell? ⟨T, p, none⟩ = some (.slice (some ⟨R p, 0, none⟩) m (C p)) ∧ w'.cell? ⟨T, q, none⟩ = some (.slice (some ⟨R q, 0, none⟩) m (C q)) ∧ w'.cell? ⟨R p, v, none⟩ = some (.int .i64 x) ∧ w'.cell? ⟨R q, v, none⟩ = some (.int .i64 y))) (by kernel_rfl) ?_ (fun hHeld => ?_)
      · exact ⟨h1, h2, g1, g2⟩
      refine wpAnyH_take (i := 0) (v := ?_) rfl (by kernel_rfl) (by kernel_rfl) (by kernel_rfl) (fun _ _ _ h => h) (Or.inl ⟨by rfl, ?_⟩) (by assumption) ?_
      rotate_left
      · (intro w hSw; (try dsimp only at hSw); (try simp only [List.getElem_toArray, List.getElem_cons_succ, List.getElem_cons_zero]); first | (go_simp; done) | (go_simp; with_reducible rfl))
      try simp only [Act.put, List.getElem_toArray, List.getElem_cons_succ, List.getElem_cons_zero, List.setIfInBounds_toArray, List.set_cons_zero, List.set_cons_succ]
      refine wpAnyH_take (i := 1) (v := ?_) rfl (by kernel_rfl) (by kernel_rfl) (by kernel_rfl) (fun _ _ _ h => h) (Or.inl ⟨by rfl, ?_⟩) (by assumption) ?_
      rotate_left
      · (intro w hSw; (try dsimp only at hSw); (try simp only [List.getElem_toArray, List.getElem_cons_succ, List.getElem_cons_zero]); first | (go_simp; done) | (go_simp; with_reducible rfl))
      try simp only [Act.put, List.getElem_toArray, List.getElem_cons_succ, List.getElem_cons_zero, List.setIfInBounds_toArray, List.set_cons_zero, List.set_cons_succ]
      refine wpAnyH_take (i := 2) (v := ?_) rfl (by kernel_rfl) (by kernel_rfl) (by kernel_rfl) (fun _ _ _ h => h) (Or.inl ⟨by rfl, ?_⟩) (by assumption) ?_
      rotate_left
      · (intro w hSw; (try dsimp only at hSw); (try simp only [List.getElem_toArray, List.getElem_cons_succ, List.getElem_cons_zero]); first | (go_simp; done) | (go_simp; with_reducible rfl))
      try simp only [Act.put, List.getElem_toArray, List.getElem_cons_succ, List.getElem_cons_zero, List.setIfInBounds_toArray, List.set_cons_zero, List.set_cons_succ]
      refine wpAnyH_take (i := 3) (v := ?_) rfl (by kernel_rfl) (by kernel_rfl) (by kernel_rfl) (fun _ _ _ h => h) (Or.inl ⟨by rfl, ?_⟩) (by assumption) ?_
      rotate_left
      · (intro w hSw; (try dsimp only at hSw); (try simp only [List.getElem_toArray, List.getElem_cons_succ, List.getElem_cons_zero]); first | (go_simp; done) | (go_simp; with_reducible rfl))
      try simp only [Act.put, List.getElem_toArray, List.getElem_cons_succ, List.getElem_cons_zero, List.setIfInBounds_toArray, List.set_cons_zero, List.set_cons_succ]
      refine wpAnyH_take (i := 4) (v := ?_) rfl (by kernel_rfl) (by kernel_rfl) (by kernel_rfl) (fun _ _ _ h => h) (Or.inl ⟨by rfl, ?_⟩) (by assumption) ?_
      rotate_left
      · (intro w hSw; (try dsimp only at hSw); (try simp only [List.getElem_toArray, List.getElem_cons_succ, List.getElem_cons_zero]); first | (go_simp; done) | (go_simp; with_reducible rfl))
      try simp only [Act.put, List.getElem_toArray, List.getElem_cons_succ, List.getElem_cons_zero, List.setIfInBounds_toArray, List.set_cons_zero, List.set_cons_succ]
      refine wpAnyH_take (i := 5) (v := ?_) rfl (by kernel_rfl) (by kernel_rfl) (by kernel_rfl) (fun _ _ _ h => h) (Or.inl ⟨by rfl, ?_⟩) (by assumption) ?_
      rotate_left
      · (intro w hSw; (try dsimp only at hSw); (try simp only [List.getElem_toArray, List.getElem_cons_succ, List.getElem_cons_zero]); first | (go_simp; done) | (go_simp; with_reducible rfl))
      try simp only [Act.put, List.getElem_toArray, List.getElem_cons_succ, List.getElem_cons_zero, List.setIfInBounds_toArray, List.set_cons_zero, List.set_cons_succ]
      refine wpAnyH_take (i := 6) (v := ?_) rfl (by kernel_rfl) (by kernel_rfl) (by kernel_rfl) (fun _ _ _ h => h) (Or.inl ⟨by rfl, ?_⟩) (by assumption) ?_
      rotate_left
      · (intro w hSw; (try dsimp only at hSw); (try simp only [List.getElem_toArray, List.getElem_cons_succ, List.getElem_cons_zero]); first | (go_simp; done) | (go_simp; with_reducible rfl))
      try simp only [Act.put, List.getElem_toArray, List.getElem_cons_succ, List.getElem_cons_zero, List.setIfInBounds_toArray, List.set_cons_zero, List.set_cons_succ]
      refine wpAnyH_take (i := 7) (v := ?_) rfl (by kernel_rfl) (by kernel_rfl) (by kernel_rfl) (fun _ _ _ h => h) (Or.inl ⟨by rfl, ?_⟩) (by assumption) ?_
      rotate_left
      · (intro w hSw; (try dsimp only at hSw); (try simp only [List.getElem_toArray, List.getElem_cons_succ, List.getElem_cons_zero]); first | (go_simp; done) | (go_simp; with_reducible rfl))
      try simp only [Act.put, List.getElem_toArray, List.getElem_cons_succ, List.getElem_cons_zero, List.setIfInBounds_toArray, List.set_cons_zero, List.set_cons_succ]
      refine wpAnyH_take (i := 8) (v := ?_) rfl (by kernel_rfl) (by kernel_rfl) (by kernel_rfl) (fun _ _ _ h => h) (Or.inl ⟨by rfl, ?_⟩) (by assumption) ?_
      rotate_left
      · (intro w hSw; (try dsimp only at hSw); (try simp only [List.getElem_toArray, List.getElem_cons_succ, List.getElem_cons_zero]); first | (go_simp; done) | (go_simp; with_reducible rfl))
      try simp only [Act.put, List.getElem_toArray, List.getElem_cons_succ, List.getElem_cons_zero, List.setIfInBounds_toArray, List.set_cons_zero, List.set_cons_succ]
      refine wpAnyH_take (i := 9) (v := ?_) rfl (by kernel_rfl) (by kernel_rfl) (by kernel_rfl) (fun _ _ _ h => h) (Or.inl ⟨by rfl, ?_⟩) (by assumption) ?_
      rotate_left
      · (intro w hSw; (try dsimp only at hSw); (try simp only [List.getElem_toArray, List.getElem_cons_succ, List.getElem_cons_zero]); first | (go_simp; done) | (go_simp; with_reducible rfl))
      try simp only [Act.put, List.getElem_toArray, List.getElem_cons_succ, List.getElem_cons_zero, List.setIfInBounds_toArray, List.set_cons_zero, List.set_cons_succ]
      refine wpAnyH_take (i := 10) (v := ?_) rfl (by kernel_rfl) (by kernel_rfl) (by kernel_rfl) (fun _ _ _ h => h) (Or.inl ⟨by rfl, ?_⟩) (by assumption) ?_
      rotate_left
      · (intro w hSw; (try dsimp only at hSw); (try simp only [List.getElem_toArray, List.getElem_cons_succ, List.getElem_cons_zero]); first | (go_simp; done) | (go_simp; with_reducible rfl))
      try simp only [Act.put, List.getElem_toArray, List.getElem_cons_succ, List.getElem_cons_zero, List.setIfInBounds_toArray, List.set_cons_zero, List.set_cons_succ]
      refine wpAnyH_take (i := 11) (v := ?_) rfl (by kernel_rfl) (by kernel_rfl) (by kernel_rfl) (fun _ _ _ h => h) (Or.inl ⟨by rfl, ?_⟩) (by assumption) ?_
      rotate_left
      · (intro w hSw; (try dsimp only at hSw); (try simp only [List.getElem_toArray, List.getElem_cons_succ, List.getElem_cons_zero]); first | (go_simp; done) | (go_simp; with_reducible rfl))
      try simp only [Act.put, List.getElem_toArray, List.getElem_cons_succ, List.getElem_cons_zero, List.setIfInBounds_toArray, List.set_cons_zero, List.set_cons_succ]
      refine wpAnyH_take (i := 12) (v := ?_) rfl (by kernel_rfl) (by kernel_rfl) (by kernel_rfl) (fun _ _ _ h => h) (Or.inl ⟨by rfl, ?_⟩) (by assumption) ?_
      rotate_left
      · (intro w hSw; (try dsimp only at hSw); (try simp only [List.getElem_toArray, List.getElem_cons_succ, List.getElem_cons_zero]); first | (go_simp; done) | (go_simp; with_reducible rfl))
      try simp only [Act.put, List.getElem_toArray, List.getElem_cons_succ, List.getElem_cons_zero, List.setIfInBounds_toArray, List.set_cons_zero, List.set_cons_succ]
      refine wpAnyH_take (i := 13) (v := ?_) rfl (by kernel_rfl) (by kernel_rfl) (by kernel_rfl) (fun _ _ _ h => h) (Or.inl ⟨by rfl, ?_⟩) (by assumption) ?_
      rotate_left
      · (intro w hSw; (try dsimp only at hSw); (try simp only [List.getElem_toArray, List.getElem_cons_succ, List.getElem_cons_zero]); first | (go_simp; done) | (go_simp; with_reducible rfl))
      try simp only [Act.put, List.getElem_toArray, List.getElem_cons_succ, List.getElem_cons_zero, List.setIfInBounds_toArray, List.set_cons_zero, List.set_cons_succ]
      refine wpAnyH_take (i := 14) (v := ?_) rfl (by kernel_rfl) (by kernel_rfl) (by kernel_rfl) (fun _ _ _ h => h) (Or.inl ⟨by rfl, ?_⟩) (by assumption) ?_
      rotate_left
      · (intro w hSw; (try dsimp only at hSw); (try simp only [List.getElem_toArray, List.getElem_cons_succ, List.getElem_cons_zero]); first | (go_simp; done) | (go_simp; with_reducible rfl))
      try simp only [Act.put, List.getElem_toArray, List.getElem_cons_succ, List.getElem_cons_zero, List.setIfInBounds_toArray, List.set_cons_zero, List.set_cons_succ]
      refine wpAnyH_take (i := 15) (v := ?_) rfl (by kernel_rfl) (by kernel_rfl) (by kernel_rfl) (fun _ _ _ h => h) (Or.inl ⟨by rfl, ?_⟩) (by assumption) ?_
      rotate_left
      · (intro w hSw; (try dsimp only at hSw); (try simp only [List.getElem_toArray, List.getElem_cons_succ, List.getElem_cons_zero]); first | (go_simp; done) | (go_simp; with_reducible rfl))
      try simp only [Act.put, List.getElem_toArray, List.getElem_cons_succ, List.getElem_cons_zero, List.setIfInBounds_toArray, List.set_cons_zero, List.set_cons_succ]
      refine wpAnyH_take (i := 16) (v := ?_) rfl (by kernel_rfl) (by kernel_rfl) (by kernel_rfl) (fun _ _ _ h => h) (Or.inl ⟨by rfl, ?_⟩) (by assumption) ?_
      rotate_left
      · (intro w hSw; (try dsimp only at hSw); (try simp only [List.getElem_toArray, List.getElem_cons_succ, List.getElem_cons_zero]); first | (go_simp; done) | (go_simp; with_reducible rfl))
      try simp only [Act.put, List.getElem_toArray, List.getElem_cons_succ, List.getElem_cons_zero, List.setIfInBounds_toArray, List.set_cons_zero, List.set_cons_succ]
      refine wpAnyH_take (i := 17) (v := ?_) rfl (by kernel_rfl) (by kernel_rfl) (by kernel_rfl) (fun _ _ _ h => h) (Or.inl ⟨by rfl, ?_⟩) (by assumption) ?_
      rotate_left
      · (intro w hSw; (try dsimp only at hSw); (try simp only [List.getElem_toArray, List.getElem_cons_succ, List.getElem_cons_zero]); first | (go_simp; done) | (go_simp; with_reducible rfl))
      try simp only [Act.put, List.getElem_toArray, List.getElem_cons_succ, List.getElem_cons_zero, List.setIfInBounds_toArray, List.set_cons_zero, List.set_cons_succ]
      refine wpAnyH_take (i := 18) (v := ?_) rfl (by kernel_rfl) (by kernel_rfl) (by kernel_rfl) (fun _ _ _ h => h) (Or.inl ⟨by rfl, ?_⟩) (by assumption) ?_
      rotate_left
      · (intro w hSw; (try dsimp only at hSw); (try simp only [List.getElem_toArray, List.getElem_cons_succ, List.getElem_cons_zero]); first | (go_simp; done) | (go_simp; with_reducible rfl))
      try simp only [Act.put, List.getElem_toArray, List.getElem_cons_succ, List.getElem_cons_zero, List.setIfInBounds_toArray, List.set_cons_zero, List.set_cons_succ]
      refine wpAnyH_take (i := 19) (v := ?_) rfl (by kernel_rfl) (by kernel_rfl) (by kernel_rfl) (fun _ _ _ h => h) (Or.inl ⟨by rfl, ?_⟩) (by assumption) ?_
      rotate_left
      · (intro w hSw; (try dsimp only at hSw); (try simp only [List.getElem_toArray, List.getElem_cons_succ, List.getElem_cons_zero]); first | (go_simp; done) | (go_simp; with_reducible rfl))
      try simp only [Act.put, List.getElem_toArray, List.getElem_cons_succ, List.getElem_cons_zero, List.setIfInBounds_toArray, List.set_cons_zero, List.set_cons_succ]
      refine wpAnyH_ready (rs := [20]) (by kernel_rfl) (by simp) ?_
      refine AllReadyH.cons rfl (fun K hK => ?_) AllReadyH.nil
      try simp only [List.getElem_toArray, List.getElem_cons_succ, List.getElem_cons_zero]
      go_simp
      go_at_call 77; refine (lowerR_any lo hi T r L m cT R C f k v (x + y) _ (H.out.keep (w' := w.drew) (fun _ _ _ => rfl) (Nat.le_refl _)) hk hL hv).mono ?_; rintro e2 w2 ⟨rfl, ht2, ho2⟩; have HT2 := Lib.hid ht2; have HO2 := Lib.hid ho2.undrew; have k2 : w2.cell? ⟨T, p, none⟩ = some (.slice (some ⟨R p, 0, none⟩) m (C p)) ∧ w2.cell? ⟨T, q, none⟩ = some (.slice (some ⟨R q, 0, none⟩) m (C q)) ∧ w2.cell? ⟨R p, v, none⟩ = some (.int .i64 x) ∧ w2.cell? ⟨R q, v, none⟩ = some (.int .i64 y) := ⟨ht2.top p hp, ht2.top q hq, (by have h9 := (ht2.row p v hp hv).1; rw [HK1.out] at h9; exact h9), (by have h9 := (ht2.row q v hq hv).1; rw [HK2.out] at h9; exact h9)⟩; clear ht2 ho2
      refine hK.out _ _ ?_ (fun hHeld => ?_)
      · exact k2
      clear hK K
      try simp only [Act.put, List.getElem_toArray, List.getElem_cons_succ, List.getElem_cons_zero, List.setIfInBounds_toArray, List.set_cons_zero, List.set_cons_succ]
      refine wpAnyH_done (by kernel_rfl) ?_ _
      go_wp2_with fail
      go_end0
      exact ⟨rfl, HT2.out, HO2.out⟩
    · go_enter Try.func76, Try.ntmps76
      go_wp2_with fail
      go_end0
      exact ⟨rfl, H.out, OnT.refl _ _ _ _⟩
  · go_enter Try.func76, Try.ntmps76
    go_wp2_with fail
    go_end0
    exact ⟨rfl, H.out, OnT.refl _ _ _ _⟩
/-- rows of roots, and one under way -/
noncomputable def rowsF (ws : List Wy) (k : Nat) (r : Nat → Int) : Nat → Nat → Int := fun i v => if i = k then r v else FT ws i v
def putR (r : Nat → Int) (v : Nat) (c : Int) : Nat → Int := fun u => if u = v then lowC (r v) c else r u
theorem rows_low (ws : List Wy) (k : Nat) (r : Nat → Int) (v : Nat) (c : Int) (i j : Nat) : lowF (rowsF ws k r) k v c i j = rowsF ws k (putR r v c) i j := by
  have e0 : rowsF ws k r k v = r v := by unfold rowsF; rw [if_pos rfl]
  unfold lowF
  rw [e0]
  unfold rowsF putR lowC
  by_cases h1 : i = k
  · by_cases h2 : j = v
    · by_cases h3 : r v < 0 ∨ c < r v
      · rw [if_pos ⟨h1, h2, h3⟩, if_pos h1, if_pos h2, if_pos h3]
      · rw [if_neg (fun e => h3 e.2.2), if_pos h1, if_pos h1, if_pos h2, if_neg h3, h2]
    · rw [if_neg (fun e => h2 e.2.1), if_pos h1, if_pos h1, if_neg h2]
  · rw [if_neg (fun e => h1 e.1), if_neg h1, if_neg h1]
theorem rows_other {ws : List Wy} {k : Nat} {r : Nat → Int} {i : Nat} (h : i ≠ k) (v : Nat) : rowsF ws k r i v = FT ws i v := by unfold rowsF; rw [if_neg h]
theorem rows_at (ws : List Wy) (k : Nat) (r : Nat → Int) (v : Nat) : rowsF ws k r k v = r v := by unfold rowsF; rw [if_pos rfl]
theorem dn_sub {k p : Nat} (hk : k < 64) (hp : p &&& k = p) (h0 : 0 < p) : (p - 1) &&& k < p ∧ ((p - 1) &&& k) &&& k = (p - 1) &&& k := by
  have hpk : p ≤ k := by rw [← hp]; exact Nat.and_le_right
  exact dn_all ⟨k, hk⟩ ⟨p, by omega⟩ hp h0
theorem dn_next {k p P : Nat} (hk : k < 64) (hp : p &&& k = p) (h0 : 0 < p) (hP : P < p) (hs : P &&& k = P) : P ≤ (p - 1) &&& k := by
  have hpk : p ≤ k := by rw [← hp]; exact Nat.and_le_right
  exact dn_next_all ⟨k, hk⟩ ⟨p, by omega⟩ hp h0 ⟨P, by omega⟩ hP hs
theorem nd_or {k p : Nat} (hk : k < 64) (hp : p &&& k = p) : p ||| nd k p = k ∧ nd k p ≤ k ∧ (0 < p → nd k p < k) ∧ nd k p &&& k = nd k p := by
  have hpk : p ≤ k := by rw [← hp]; exact Nat.and_le_right
  exact nd_all ⟨k, hk⟩ ⟨p, by omega⟩ hp
theorem bits_dn {k p : Nat} (hk : k < 64) (hp : p ≤ k) (h0 : 0 < p) : bits .and .i64 ((p : Int) - 1) (k : Int) = ((((p - 1) &&& k : Nat)) : Int) := by
  rw [bits_and _ _ (by omega) (by omega) (by omega) (by omega)]
  unfold iand
  rw [Int.toNat_natCast, show ((p : Int) - 1).toNat = p - 1 by omega]
theorem bits_nd {k p : Nat} (hk : k < 64) (hp : p ≤ k) : bits .andNot .i64 (k : Int) (p : Int) = ((nd k p : Nat) : Int) := by
  rw [bits_andNot _ _ (by omega) (by omega) (by omega) (by omega)]
  exact nd_is k p
theorem bits_or_nd {k p : Nat} (hk : k < 64) (hp : p &&& k = p) : bits .or .i64 (p : Int) ((nd k p : Nat) : Int) = (k : Int) := by
  have hpk : p ≤ k := by rw [← hp]; exact Nat.and_le_right
  obtain ⟨h1, h2, _⟩ := nd_or hk hp
  rw [bits_or _ _ (by omega) (by omega) (by omega) (by omega)]
  unfold ior
  rw [Int.toNat_natCast, Int.toNat_natCast, h1]
theorem bits_and0 : bits .and .i64 (-1) 0 = 0 := by decide

set_option maxHeartbeats 4000000 in
theorem splitEnds_any (lo hi T L m cT k : Nat) (R C : Nat → Nat) (ws : List Wy) (r0 : Nat → Int) (w : World) (h : TabR w lo hi T (k + 1) m R C (rowsF ws k r0)) (hn : NetIs (m : Int) ws) (hL : k < L) (hk6 : k < 64) (hkm : k < 2 ^ m) (hs : ∀ u, u < m → SplitC ws k k u (r0 u)) :
    Calls Try.prog 65 #[.slice (some ⟨T, 0, none⟩) L cT, .int .i64 k] w fun e w' => e = .returned (.tuple #[]) ∧ ∃ r1, TabR w' lo hi T (k + 1) m R C (rowsF ws k r1) ∧ (∀ u, u < m → SplitC ws k 1 u (r1 u)) ∧ OnT lo hi T w w' := by
  have H := Lib.hid h
  have HS := Lib.hid hs
  have HN := Lib.hid hn
  have hm6 := hn.hi
  have k0 : (0 : Int) ≤ (k : Int) := by omega
  have kL : (k : Int) < (L : Int) := by omega
  have hk1 : k < k + 1 := by omega
  clear h hs hn
  have hba0 := bits_and0
  -- the first part
  obtain ⟨P0, hP0, hP1, hP2⟩ : ∃ P0 : Nat, bits .and .i64 ((k : Int) - 1) (k : Int) = (P0 : Int) ∧ (P0 < k ∨ k = 0 ∧ P0 = 0) ∧ P0 &&& k = P0 ∧ (∀ P, P0 + 1 ≤ P → P < k → 0 < P → P &&& k = P → k ≤ P) := by
    by_cases hk0 : k = 0
    · subst hk0
      refine ⟨0, ?_, .inr ⟨rfl, rfl⟩, rfl, fun P _ h => by omega⟩
      exact bits_and0
    · have hs : k &&& k = k := Nat.and_self k
      have hd := dn_sub hk6 hs (by omega)
      refine ⟨(k - 1) &&& k, ?_, .inl hd.1, hd.2, fun P h1 h2 h3 h4 => ?_⟩
      · exact bits_dn hk6 (Nat.le_refl _) (by omega)
      · have := dn_next hk6 hs (by omega) h2 h4
        omega
  have hP2a := hP2.1
  have HP2 := Lib.hid hP2.2
  clear hP2
  go_enter Try.func65, Try.ntmps65
  go_wp2_with fail
  go_loopw [4] (fun c wr => ∃ (p : Nat) (r : Nat → Int), c = .int .i64 p ∧ (p < k ∨ k = 0 ∧ p = 0) ∧ p &&& k = p ∧ TabR wr lo hi T (k + 1) m R C (rowsF ws k r) ∧ (∀ u, u < m → SplitC ws k (p + 1) u (r u)) ∧ OnT lo hi T w wr) (fun c _ => (intOf c).toNat)
  case atStart => exact ⟨P0, r0, by first | rfl | (rw [hP0]), hP1, hP2a, H.out, fun u hu => (HS.out u hu).down HP2.out, OnT.refl _ _ _ _⟩
  case round =>
    clear hP0 hP1 hP2a HP2
    obtain ⟨p, r, rfl, hp1, hp2, htab, hsp, hon⟩ := hrel
    have HTB := Lib.hid htab
    have HSP := Lib.hid hsp
    have HON := Lib.hid hon
    clear htab hsp hon
    by_cases hp0 : 0 < p
    · have hp0' : (0 : Int) < (p : Int) := by omega
      have hpk : p < k := by omega
      obtain ⟨ho1, ho2, ho3, ho4⟩ := nd_or hk6 hp2
      have hqk : nd k p < k := ho3 hp0
      have tk := HTB.out.top k hk1
      go_wp2_with fail
      clear tk
      go_loopw [21] (fun c wr => ∃ (v : Nat) (r : Nat → Int), v ≤ m ∧ c = .int .i64 v ∧ TabR wr lo hi T (k + 1) m R C (rowsF ws k r) ∧ (∀ u, u < m → SplitC ws k (if u < v then p else p + 1) u (r u)) ∧ OnT lo hi T w wr) (fun c _ => m - (intOf c).toNat)
      case atStart => exact ⟨0, r, Nat.zero_le _, rfl, HTB.out, fun u hu => by rw [if_neg (by omega)]; exact HSP.out u hu, HON.out⟩
      case round =>
        clear HTB HSP HON
        obtain ⟨v, r, hv, rfl, htab, hsp, hon⟩ := hrel
        have HTB := Lib.hid htab
        have HSP := Lib.hid hsp
        have HON := Lib.hid hon
        clear htab hsp hon
        have v0 : (0 : Int) ≤ (v : Int) := by omega
        by_cases hlv : v < m
        · have v1 : (v : Int) < (m : Int) := by omega
          have hnd := bits_nd hk6 (show p ≤ k by omega)
          have hor := bits_or_nd hk6 hp2
          have b1 := FT_bd HN.out p v
          have b2 := FT_bd HN.out (nd k p) v
          have HJ := joinParts_any lo hi T (k + 1) L m cT R C (rowsF ws k r) p (nd k p) k v
          have HOR := Lib.hid hor
          have HB1 := Lib.hid b1
          have HB2 := Lib.hid b2
          clear hor b1 b2
          go_wp2_with fail
          refine (HJ _ HTB.out (by omega) (by omega) hk1 (by omega) hlv (by omega) (by omega) HOR.out (by rw [rows_other (by omega)]; have := HB1.out; omega) (by rw [rows_other (by omega)]; have := HB2.out; omega)).mono ?_; rintro e w2 ⟨rfl, ht2, ho2⟩
          rw [rows_other (show p ≠ k by omega), rows_other (show nd k p ≠ k by omega)] at ht2
          have HO2 := Lib.hid (HON.out.trans ho2)
          have HT2 := Lib.hid ht2
          clear ht2 ho2 HJ
          go_wp2_with fail
          go_roundw
          case rel =>
            by_cases hb : 0 ≤ FT ws p v ∧ 0 ≤ FT ws (nd k p) v
            · refine ⟨v + 1, putR r v (FT ws p v + FT ws (nd k p) v), by omega, by go_num, ?_, fun u hu => ?_, HO2.out⟩
              · have h := HT2.out
                rw [if_pos hb] at h
                exact h.congr (fun i j _ _ => rows_low ws k r v _ i j)
              · have hsu := HSP.out u hu
                unfold putR
                by_cases e : u = v
                · subst e
                  rw [if_neg (by omega)] at hsu
                  rw [if_pos rfl, if_pos (by omega)]
                  exact hsu.take HN.out hkm hp2 hu hb.1 hb.2
                · rw [if_neg e]
                  by_cases e2 : u < v
                  · rw [if_pos e2] at hsu; rw [if_pos (by omega)]; exact hsu
                  · rw [if_neg e2] at hsu; rw [if_neg (by omega)]; exact hsu
            · refine ⟨v + 1, r, by omega, by go_num, ?_, fun u hu => ?_, HO2.out⟩
              · have h := HT2.out
                rw [if_neg hb] at h
                exact h
              · have hsu := HSP.out u hu
                by_cases e : u = v
                · subst e
                  rw [if_neg (by omega)] at hsu
                  rw [if_pos (by omega)]
                  exact hsu.skip hb
                · by_cases e2 : u < v
                  · rw [if_pos e2] at hsu; rw [if_pos (by omega)]; exact hsu
                  · rw [if_neg e2] at hsu; rw [if_neg (by omega)]; exact hsu
          case measure => (simp [intOf]) <;> omega
        · have hvm : v = m := by omega
          subst hvm
          have hdn := dn_sub hk6 hp2 hp0
          have hand := bits_dn hk6 (show p ≤ k by omega) hp0
          have hsub : IntKind.i64.wrap ((p : Int) - 1) = (p : Int) - 1 := IntWalk.i64_in _ ⟨by omega, by omega⟩
          have HND := Lib.hid (show ∀ P, ((p - 1) &&& k) + 1 ≤ P → P < k → 0 < P → P &&& k = P → p ≤ P from fun P h1 h2 h3 h4 => by
            apply Classical.byContradiction
            intro hno
            have := dn_next hk6 hp2 hp0 (show P < p by omega) h4
            omega)
          have HSPP := Lib.hid (show ∀ u, u < v → SplitC ws k (((p - 1) &&& k) + 1) u (r u) from fun u hu => by
            have h := HSP.out u hu
            rw [if_pos hu] at h
            exact h.down HND.out)
          have hdl : (p - 1) &&& k < k := by omega
          clear HSP HND
          go_wp2_with fail
          clear hsub
          go_roundw
          case rel => exact ⟨(p - 1) &&& k, r, by first | rfl | (rw [hand]), .inl hdl, hdn.2, HTB.out, HSPP.out, HON.out⟩
          case measure => simp only [intOf]; first | omega | (rw [hand]; simp only [intOf]; omega)
    · have hp0' : ¬ (0 : Int) < (p : Int) := by omega
      have hpz : p = 0 := by omega
      subst hpz
      go_wp2_with fail
      go_end0
      exact ⟨rfl, r, HTB.out, HSP.out, HON.out⟩
set_option maxHeartbeats 4000000 in
theorem moveFeet_any (lo hi T L m cT k T0 lo0 hi0 c0 : Nat) (R C R0 C0 : Nat → Nat) (ws : List Wy) (r0 : Nat → Int) (w : World) (h : TabR w lo hi T (k + 1) m R C (rowsF ws k r0)) (hf : TabM w lo0 hi0 T0 m R0 C0 (farF ws m)) (hd : hi0 ≤ lo) (hn : NetIs (m : Int) ws) (hL : k < L) (hkm : k < 2 ^ m) (hs : ∀ u, u < m → SplitC ws k 1 u (r0 u)) :
    Calls Try.prog 66 #[.slice (some ⟨T, 0, none⟩) L cT, .int .i64 k, .slice (some ⟨T0, 0, none⟩) m c0] w fun e w' => e = .returned (.tuple #[]) ∧ TabR w' lo hi T (k + 1) m R C (FT ws) ∧ OnT lo hi T w w' := by
  have H := Lib.hid h
  have HF := Lib.hid hf
  have HS := Lib.hid hs
  have HN := Lib.hid hn
  have hm6 := hn.hi
  have k0 : (0 : Int) ≤ (k : Int) := by omega
  have kL : (k : Int) < (L : Int) := by omega
  have hk1 : k < k + 1 := by omega
  clear h hf hs hn
  go_enter Try.func66, Try.ntmps66
  go_wp2_with fail
  go_loopw [10] (fun c wr => ∃ (a : Nat) (r : Nat → Int), a ≤ m ∧ c = .int .i64 a ∧ TabR wr lo hi T (k + 1) m R C (rowsF ws k r) ∧ (∀ u, u < m → MoveC m ws k r0 u a (200 + 1000 * (a : Int)) (r u)) ∧ OnT lo hi T w wr) (fun c _ => m - (intOf c).toNat)
  case atStart => exact ⟨0, r0, Nat.zero_le _, rfl, H.out, fun u hu => MoveC.first (HS.out u hu) (by omega), OnT.refl _ _ _ _⟩
  case round =>
    obtain ⟨a, r, ha, rfl, htab, hmv, hon⟩ := hrel
    have HTB := Lib.hid htab
    have HMV := Lib.hid hmv
    have HON := Lib.hid hon
    clear htab hmv hon
    have a0 : (0 : Int) ≤ (a : Int) := by omega
    by_cases hla : a < m
    · have a1 : (a : Int) < (m : Int) := by omega
      have HFA := HF.out.only HON.out.only (.inl hd)
      have ta := HFA.top a hla
      have HRA := Lib.hid (show r a ≤ 200 + 1000 * (a : Int) from ((HMV.out a hla).bd).2)
      go_wp2_with fail
      clear HFA ta
      go_loopw [18] (fun c wr => ∃ (b : Nat) (r : Nat → Int), b ≤ m ∧ c = .int .i64 b ∧ TabR wr lo hi T (k + 1) m R C (rowsF ws k r) ∧ (∀ u, u < m → MoveC m ws k r0 u (if u < b then a + 1 else a) (1200 + 1000 * (a : Int)) (r u)) ∧ r a ≤ 200 + 1000 * (a : Int) ∧ OnT lo hi T w wr) (fun c _ => m - (intOf c).toNat)
      case atStart => exact ⟨0, r, Nat.zero_le _, rfl, HTB.out, fun u hu => by rw [if_neg (by omega)]; exact (HMV.out u hu).more (by omega), HRA.out, HON.out⟩
      case round =>
        clear HTB HMV HON HRA
        obtain ⟨b, r, hb, rfl, htab, hmv, hra, hon⟩ := hrel
        have HTB := Lib.hid htab
        have HMV := Lib.hid hmv
        have HON := Lib.hid hon
        clear htab hmv hon
        have b0 : (0 : Int) ≤ (b : Int) := by omega
        by_cases hlb : b < m
        · have b1 : (b : Int) < (m : Int) := by omega
          have HFB := HF.out.only HON.out.only (.inl hd)
          have ta := HFB.top a hla
          have rab := (HFB.row a b hla hlb).1
          have tk := HTB.out.top k hk1
          have rka := (HTB.out.row k a hk1 hla).1
          rw [rows_at] at rka
          have hfd := farF_bd HN.out hla hlb
          have hdg : b = a → farF ws m a b = 0 := fun e => by rw [e]; exact farF_diag HN.out hla
          have hso := (HMV.out a hla).so
          have hle := (HMV.out a hla).le
          obtain ⟨x, hx⟩ : ∃ x, r a = x := ⟨_, rfl⟩
          obtain ⟨D, hD⟩ : ∃ D, farF ws m a b = D := ⟨_, rfl⟩
          rw [hx] at rka hra hso hle
          rw [hD] at rab hfd hdg
          have HX := Lib.hid hx
          have HD := Lib.hid hD
          have HFB' := Lib.hid HFB
          have HSO := Lib.hid hso
          have HLE := Lib.hid hle
          have HDG := Lib.hid hdg
          clear hx hD HFB hso hle hdg
          by_cases hx0 : 0 ≤ x
          · by_cases hd0 : 0 ≤ D
            · have HKA : Hid (lowF (rowsF ws k r) k b (x + D) k a = x) := by
                show lowF (rowsF ws k r) k b (x + D) k a = x
                unfold lowF
                rw [rows_at, rows_at]
                by_cases e : a = b
                · have := HDG.out e.symm
                  subst e
                  rw [HX.out, if_neg (by omega)]
                · rw [if_neg (fun h => e h.2.1), HX.out]
              have hwr : IntKind.i64.wrap (x + D) = x + D := IntWalk.i64_in _ ⟨by omega, by omega⟩
              have hwr2 : wrap64 (x + D) = x + D := IntWalk.wrap64_in _ ⟨by omega, by omega⟩
              go_wp2_with fail
              refine wp_region_held_drew (S := (fun w' => w'.cell? ⟨T, k, none⟩ = some (.slice (some ⟨R k, 0, none⟩) m (C k)) ∧ w'.cell? ⟨R k, a, none⟩ = some (.int .i64 x) ∧ w'.cell? ⟨T0, a, none⟩ = some (.slice (some ⟨R0 a, 0, none⟩) m (C0 a)) ∧ w'.cell? ⟨R0 a, b, none⟩ = some (.int .i64 D))) (by kernel_rfl) ?_ (fun hHeld => ?_)
              · exact ⟨tk, rka, ta, rab⟩
              refine wpAnyH_take (i := 0) (v := ?_) rfl (by kernel_rfl) (by kernel_rfl) (by kernel_rfl) (fun _ _ _ h => h) (Or.inl ⟨by rfl, ?_⟩) (by assumption) ?_
              rotate_left
              · (intro w hSw; (try dsimp only at hSw); (try simp only [List.getElem_toArray, List.getElem_cons_succ, List.getElem_cons_zero]); first | (go_simp; done) | (go_simp; with_reducible rfl))
              try simp only [Act.put, List.getElem_toArray, List.getElem_cons_succ, List.getElem_cons_zero, List.setIfInBounds_toArray, List.set_cons_zero, List.set_cons_succ]
              refine wpAnyH_take (i := 1) (v := ?_) rfl (by kernel_rfl) (by kernel_rfl) (by kernel_rfl) (fun _ _ _ h => h) (Or.inl ⟨by rfl, ?_⟩) (by assumption) ?_
              rotate_left
              · (intro w hSw; (try dsimp only at hSw); (try simp only [List.getElem_toArray, List.getElem_cons_succ, List.getElem_cons_zero]); first | (go_simp; done) | (go_simp; with_reducible rfl))
              try simp only [Act.put, List.getElem_toArray, List.getElem_cons_succ, List.getElem_cons_zero, List.setIfInBounds_toArray, List.set_cons_zero, List.set_cons_succ]
              refine wpAnyH_take (i := 2) (v := ?_) rfl (by kernel_rfl) (by kernel_rfl) (by kernel_rfl) (fun _ _ _ h => h) (Or.inl ⟨by rfl, ?_⟩) (by assumption) ?_
              rotate_left
              · (intro w hSw; (try dsimp only at hSw); (try simp only [List.getElem_toArray, List.getElem_cons_succ, List.getElem_cons_zero]); first | (go_simp; done) | (go_simp; with_reducible rfl))
              try simp only [Act.put, List.getElem_toArray, List.getElem_cons_succ, List.getElem_cons_zero, List.setIfInBounds_toArray, List.set_cons_zero, List.set_cons_succ]
              refine wpAnyH_take (i := 3) (v := ?_) rfl (by kernel_rfl) (by kernel_rfl) (by kernel_rfl) (fun _ _ _ h => h) (Or.inl ⟨by rfl, ?_⟩) (by assumption) ?_
              rotate_left
              · (intro w hSw; (try dsimp only at hSw); (try simp only [List.getElem_toArray, List.getElem_cons_succ, List.getElem_cons_zero]); first | (go_simp; done) | (go_simp; with_reducible rfl))
              try simp only [Act.put, List.getElem_toArray, List.getElem_cons_succ, List.getElem_cons_zero, List.setIfInBounds_toArray, List.set_cons_zero, List.set_cons_succ]
              refine wpAnyH_take (i := 4) (v := ?_) rfl (by kernel_rfl) (by kernel_rfl) (by kernel_rfl) (fun _ _ _ h => h) (Or.inl ⟨by rfl, ?_⟩) (by assumption) ?_
              rotate_left
              · (intro w hSw; (try dsimp only at hSw); (try simp only [List.getElem_toArray, List.getElem_cons_succ, List.getElem_cons_zero]); first | (go_simp; done) | (go_simp; with_reducible rfl))
              try simp only [Act.put, List.getElem_toArray, List.getElem_cons_succ, List.getElem_cons_zero, List.setIfInBounds_toArray, List.set_cons_zero, List.set_cons_succ]
              refine wpAnyH_take (i := 5) (v := ?_) rfl (by kernel_rfl) (by kernel_rfl) (by kernel_rfl) (fun _ _ _ h => h) (Or.inl ⟨by rfl, ?_⟩) (by assumption) ?_
              rotate_left
              · (intro w hSw; (try dsimp only at hSw); (try simp only [List.getElem_toArray, List.getElem_cons_succ, List.getElem_cons_zero]); first | (go_simp; done) | (go_simp; with_reducible rfl))
              try simp only [Act.put, List.getElem_toArray, List.getElem_cons_succ, List.getElem_cons_zero, List.setIfInBounds_toArray, List.set_cons_zero, List.set_cons_succ]
              refine wpAnyH_take (i := 6) (v := ?_) rfl (by kernel_rfl) (by kernel_rfl) (by kernel_rfl) (fun _ _ _ h => h) (Or.inl ⟨by rfl, ?_⟩) (by assumption) ?_
              rotate_left
              · (intro w hSw; (try dsimp only at hSw); (try simp only [List.getElem_toArray, List.getElem_cons_succ, List.getElem_cons_zero]); first | (go_simp; done) | (go_simp; with_reducible rfl))
              try simp only [Act.put, List.getElem_toArray, List.getElem_cons_succ, List.getElem_cons_zero, List.setIfInBounds_toArray, List.set_cons_zero, List.set_cons_succ]
              refine wpAnyH_take (i := 7) (v := ?_) rfl (by kernel_rfl) (by kernel_rfl) (by kernel_rfl) (fun _ _ _ h => h) (Or.inl ⟨by rfl, ?_⟩) (by assumption) ?_
              rotate_left
              · (intro w hSw; (try dsimp only at hSw); (try simp only [List.getElem_toArray, List.getElem_cons_succ, List.getElem_cons_zero]); first | (go_simp; done) | (go_simp; with_reducible rfl))
              try simp only [Act.put, List.getElem_toArray, List.getElem_cons_succ, List.getElem_cons_zero, List.setIfInBounds_toArray, List.set_cons_zero, List.set_cons_succ]
              refine wpAnyH_take (i := 8) (v := ?_) rfl (by kernel_rfl) (by kernel_rfl) (by kernel_rfl) (fun _ _ _ h => h) (Or.inl ⟨by rfl, ?_⟩) (by assumption) ?_
              rotate_left
              · (intro w hSw; (try dsimp only at hSw); (try simp only [List.getElem_toArray, List.getElem_cons_succ, List.getElem_cons_zero]); first | (go_simp; done) | (go_simp; with_reducible rfl))
              try simp only [Act.put, List.getElem_toArray, List.getElem_cons_succ, List.getElem_cons_zero, List.setIfInBounds_toArray, List.set_cons_zero, List.set_cons_succ]
              refine wpAnyH_take (i := 9) (v := ?_) rfl (by kernel_rfl) (by kernel_rfl) (by kernel_rfl) (fun _ _ _ h => h) (Or.inl ⟨by rfl, ?_⟩) (by assumption) ?_
              rotate_left
              · (intro w hSw; (try dsimp only at hSw); (try simp only [List.getElem_toArray, List.getElem_cons_succ, List.getElem_cons_zero]); first | (go_simp; done) | (go_simp; with_reducible rfl))
              try simp only [Act.put, List.getElem_toArray, List.getElem_cons_succ, List.getElem_cons_zero, List.setIfInBounds_toArray, List.set_cons_zero, List.set_cons_succ]
              refine wpAnyH_take (i := 10) (v := ?_) rfl (by kernel_rfl) (by kernel_rfl) (by kernel_rfl) (fun _ _ _ h => h) (Or.inl ⟨by rfl, ?_⟩) (by assumption) ?_
              rotate_left
              · (intro w hSw; (try dsimp only at hSw); (try simp only [List.getElem_toArray, List.getElem_cons_succ, List.getElem_cons_zero]); first | (go_simp; done) | (go_simp; with_reducible rfl))
              try simp only [Act.put, List.getElem_toArray, List.getElem_cons_succ, List.getElem_cons_zero, List.setIfInBounds_toArray, List.set_cons_zero, List.set_cons_succ]
              refine wpAnyH_take (i := 11) (v := ?_) rfl (by kernel_rfl) (by kernel_rfl) (by kernel_rfl) (fun _ _ _ h => h) (Or.inl ⟨by rfl, ?_⟩) (by assumption) ?_
              rotate_left
              · (intro w hSw; (try dsimp only at hSw); (try simp only [List.getElem_toArray, List.getElem_cons_succ, List.getElem_cons_zero]); first | (go_simp; done) | (go_simp; with_reducible rfl))
              try simp only [Act.put, List.getElem_toArray, List.getElem_cons_succ, List.getElem_cons_zero, List.setIfInBounds_toArray, List.set_cons_zero, List.set_cons_succ]
              refine wpAnyH_take (i := 12) (v := ?_) rfl (by kernel_rfl) (by kernel_rfl) (by kernel_rfl) (fun _ _ _ h => h) (Or.inl ⟨by rfl, ?_⟩) (by assumption) ?_
              rotate_left
              · (intro w hSw; (try dsimp only at hSw); (try simp only [List.getElem_toArray, List.getElem_cons_succ, List.getElem_cons_zero]); first | (go_simp; done) | (go_simp; with_reducible rfl))
              try simp only [Act.put, List.getElem_toArray, List.getElem_cons_succ, List.getElem_cons_zero, List.setIfInBounds_toArray, List.set_cons_zero, List.set_cons_succ]
              refine wpAnyH_take (i := 13) (v := ?_) rfl (by kernel_rfl) (by kernel_rfl) (by kernel_rfl) (fun _ _ _ h => h) (Or.inl ⟨by rfl, ?_⟩) (by assumption) ?_
              rotate_left
              · (intro w hSw; (try dsimp only at hSw); (try simp only [List.getElem_toArray, List.getElem_cons_succ, List.getElem_cons_zero]); first | (go_simp; done) | (go_simp; with_reducible rfl))
              try simp only [Act.put, List.getElem_toArray, List.getElem_cons_succ, List.getElem_cons_zero, List.setIfInBounds_toArray, List.set_cons_zero, List.set_cons_succ]
              refine wpAnyH_take (i := 14) (v := ?_) rfl (by kernel_rfl) (by kernel_rfl) (by kernel_rfl) (fun _ _ _ h => h) (Or.inl ⟨by rfl, ?_⟩) (by assumption) ?_
              rotate_left
              · (intro w hSw; (try dsimp only at hSw); (try simp only [List.getElem_toArray, List.getElem_cons_succ, List.getElem_cons_zero]); first | (go_simp; done) | (go_simp; with_reducible rfl))
              try simp only [Act.put, List.getElem_toArray, List.getElem_cons_succ, List.getElem_cons_zero, List.setIfInBounds_toArray, List.set_cons_zero, List.set_cons_succ]
              refine wpAnyH_take (i := 15) (v := ?_) rfl (by kernel_rfl) (by kernel_rfl) (by kernel_rfl) (fun _ _ _ h => h) (Or.inl ⟨by rfl, ?_⟩) (by assumption) ?_
              rotate_left
              · (intro w hSw; (try dsimp only at hSw); (try simp only [List.getElem_toArray, List.getElem_cons_succ, List.getElem_cons_zero]); first | (go_simp; done) | (go_simp; with_reducible rfl))
              try simp only [Act.put, List.getElem_toArray, List.getElem_cons_succ, List.getElem_cons_zero, List.setIfInBounds_toArray, List.set_cons_zero, List.set_cons_succ]
              refine wpAnyH_take (i := 16) (v := ?_) rfl (by kernel_rfl) (by kernel_rfl) (by kernel_rfl) (fun _ _ _ h => h) (Or.inl ⟨by rfl, ?_⟩) (by assumption) ?_
              rotate_left
              · (intro w hSw; (try dsimp only at hSw); (try simp only [List.getElem_toArray, List.getElem_cons_succ, List.getElem_cons_zero]); first | (go_simp; done) | (go_simp; with_reducible rfl))
              try simp only [Act.put, List.getElem_toArray, List.getElem_cons_succ, List.getElem_cons_zero, List.setIfInBounds_toArray, List.set_cons_zero, List.set_cons_succ]
              refine wpAnyH_take (i := 17) (v := ?_) rfl (by kernel_rfl) (by kernel_rfl) (by kernel_rfl) (fun _ _ _ h => h) (Or.inl ⟨by rfl, ?_⟩) (by assumption) ?_
              rotate_left
              · (intro w hSw; (try dsimp only at hSw); (try simp only [List.getElem_toArray, List.getElem_cons_succ, List.getElem_cons_zero]); first | (go_simp; done) | (go_simp; with_reducible rfl))
              try simp only [Act.put, List.getElem_toArray, List.getElem_cons_succ, List.getElem_cons_zero, List.setIfInBounds_toArray, List.set_cons_zero, List.set_cons_succ]
              refine wpAnyH_ready (rs := [18]) (by kernel_rfl) (by simp) ?_
              refine AllReadyH.cons rfl (fun K hK => ?_) AllReadyH.nil
              try simp only [List.getElem_toArray, List.getElem_cons_succ, List.getElem_cons_zero]
              go_simp
              go_at_call 77; refine (lowerR_any lo hi T (k + 1) L m cT R C (rowsF ws k r) k b (x + D) _ (HTB.out.keep (w' := wr.drew) (fun _ _ _ => rfl) (Nat.le_refl _)) hk1 (by omega) hlb).mono ?_; rintro e2 w2 ⟨rfl, ht2, ho2⟩; have HT2 := Lib.hid ht2; have HO2 := Lib.hid (HON.out.trans ho2.undrew); have hf9 := HFB'.out.only ho2.undrew.only (.inl hd); have k2 : w2.cell? ⟨T, k, none⟩ = some (.slice (some ⟨R k, 0, none⟩) m (C k)) ∧ w2.cell? ⟨R k, a, none⟩ = some (.int .i64 x) ∧ w2.cell? ⟨T0, a, none⟩ = some (.slice (some ⟨R0 a, 0, none⟩) m (C0 a)) ∧ w2.cell? ⟨R0 a, b, none⟩ = some (.int .i64 D) := ⟨ht2.top k hk1, (by have h9 := (ht2.row k a hk1 hla).1; rw [HKA.out] at h9; exact h9), hf9.top a hla, (by have h9 := (hf9.row a b hla hlb).1; rw [HD.out] at h9; exact h9)⟩; clear ht2 ho2 hf9
              refine hK.out _ _ ?_ (fun hHeld => ?_)
              · exact k2
              clear hK K
              try simp only [Act.put, List.getElem_toArray, List.getElem_cons_succ, List.getElem_cons_zero, List.setIfInBounds_toArray, List.set_cons_zero, List.set_cons_succ]
              refine wpAnyH_done (by kernel_rfl) ?_ _
              clear hwr hwr2
              go_wp2_with fail
              go_roundw
              case rel =>
                refine ⟨b + 1, putR r b (x + D), by omega, by go_num, HT2.out.congr (fun i j _ _ => rows_low ws k r b _ i j), fun u hu => ?_, ?_, HO2.out⟩
                · have hsu := HMV.out u hu
                  unfold putR
                  by_cases e : u = b
                  · subst e
                    rw [if_neg (by omega)] at hsu
                    rw [if_pos rfl, if_pos (by omega), ← HD.out]
                    exact hsu.take HN.out hkm hla hu hx0 (HSO.out hx0) (fun h => (HLE.out h).2) (by rw [HD.out]; exact hd0) (by rw [HD.out]; omega)
                  · rw [if_neg e]
                    by_cases e2 : u < b
                    · rw [if_pos e2] at hsu; rw [if_pos (by omega)]; exact hsu
                    · rw [if_neg e2] at hsu; rw [if_neg (by omega)]; exact hsu
                · unfold putR
                  by_cases e : a = b
                  · have := HDG.out e.symm
                    rw [if_pos e, ← e, HX.out]
                    have := (low_told (n := x) (c := x + D) (by omega)).2.1
                    omega
                  · rw [if_neg e, HX.out]; exact hra
              case measure => (simp [intOf]) <;> omega
            · go_wp2_with fail
              go_roundw
              case rel =>
                refine ⟨b + 1, r, by omega, by go_num, HTB.out, fun u hu => ?_, by rw [HX.out]; exact hra, HON.out⟩
                have hsu := HMV.out u hu
                by_cases e : u = b
                · subst e
                  rw [if_neg (by omega)] at hsu
                  rw [if_pos (by omega)]
                  exact hsu.skip (fun h => by rw [HD.out] at h; omega)
                · by_cases e2 : u < b
                  · rw [if_pos e2] at hsu; rw [if_pos (by omega)]; exact hsu
                  · rw [if_neg e2] at hsu; rw [if_neg (by omega)]; exact hsu
              case measure => (simp [intOf]) <;> omega
          · go_wp2_with fail
            go_roundw
            case rel =>
              refine ⟨b + 1, r, by omega, by go_num, HTB.out, fun u hu => ?_, by rw [HX.out]; exact hra, HON.out⟩
              have hsu := HMV.out u hu
              by_cases e : u = b
              · subst e
                rw [if_neg (by omega)] at hsu
                rw [if_pos (by omega)]
                exact hsu.skip (fun h => by have := (HLE.out h.1).1; omega)
              · by_cases e2 : u < b
                · rw [if_pos e2] at hsu; rw [if_pos (by omega)]; exact hsu
                · rw [if_neg e2] at hsu; rw [if_neg (by omega)]; exact hsu
            case measure => (simp [intOf]) <;> omega
        · have hbm : b = m := by omega
          subst hbm
          go_wp2_with fail
          go_roundw
          case rel => exact ⟨a + 1, r, by omega, by go_num, HTB.out, fun u hu => by
            have h := HMV.out u hu
            rw [if_pos hu] at h
            exact h.more (by omega), HON.out⟩
          case measure => (simp [intOf]) <;> omega
    · have ham : a = m := by omega
      subst ham
      go_wp2_with fail
      go_end0
      refine ⟨rfl, HTB.out.congr (fun i j hi hj => ?_), HON.out⟩
      unfold rowsF
      by_cases e : i = k
      · rw [if_pos e, e]
        exact foot_is HN.out hkm hj HS.out (HMV.out j hj)
      · rw [if_neg e]
end Go.Proofs.Ytoekaembfieigaa
