/- FnNodesOf: its walk. -/
import Derived.Test.YtnnpooemdonbhaaDoorWJ
import Derived.Test.YtnnpooemdonbhaaDoorMD
import Derived.Test.YtnnpooemdonbhaaDoorMA
import Derived.Test.YtnnpooemdonbhaaDoorMC
set_option linter.unusedSimpArgs false
set_option linter.unusedVariables false
namespace Go.Proofs.YtnnpooemdonbhaaDoor
open Go.ChangeShapes Go.WideShapes Go.ChangeAt Go.RowKit

set_option maxHeartbeats 400000 in
theorem lSizeOf_any (x : Int) (h0 : 0 ≤ x) (h1 : x < 512) (w : World) :
    Calls Tryd.prog 30 #[.int .i64 x] w fun e w' => e = .returned (.int .i64 (pop x)) ∧ w = w' := by
  have hpx := pop_bd x
  go_enter Tryd.func30, Tryd.ntmps30
  go_wp2_with fail
  go_loop [0, 3] (fun v c => ∃ y d : Int, v = .int .i64 y ∧ c = .int .i64 d ∧ 0 ≤ y ∧ y < 512 ∧ 0 ≤ d ∧ d ≤ 20 ∧ d + pop y = pop x) (fun v _ => (intOf v).toNat)
  case atStart => exact ⟨x, 0, rfl, rfl, h0, h1, by omega, by omega, by omega⟩
  case round =>
    obtain ⟨y, d, rfl, rfl, hy0, hy1, hd0, hd1, hsum⟩ := hrel
    have HS := Lib.hid hsum
    have HP := Lib.hid (pop_half y hy0 (by omega))
    have hb := pop_bd (y / 2)
    have hbx : d + pop y ≤ 20 := by omega
    have HB := Lib.hid hb
    by_cases hlt : 0 < y
    · have hle : d + y % 2 ≤ 20 := by have := HP.out; omega
      clear hsum hb hbx
      go_wp2_with fail
      go_round
      case rel => exact ⟨y / 2, d + y % 2, rfl, rfl, by omega, by omega, by omega, by omega, by have := HS.out; have := HP.out; omega⟩
      case measure => simp [intOf]; omega
    · have hy : y = 0 := by omega
      subst hy
      clear hsum hb hbx
      go_wp2_with fail
      go_ret
      exact ⟨ret_int (by have := HS.out; rw [pop_zero] at this; omega), rfl⟩

theorem nodes_bit {n : Int} {ws : List Wy} (hn : NetIs n ws) (s : Int) : ∀ (k : Nat) (q : Int), 0 ≤ q → (bit (nodesTo ws s k) q = true ↔ ∃ (j : Nat) (x : Wy), j < k ∧ ws[j]? = some x ∧ bit s j = true ∧ (q = x.a ∨ q = x.b))
  | 0, q, _ => by
    rw [show nodesTo ws s 0 = 0 from rfl, bit_zero_]
    constructor
    · intro h; cases h
    · rintro ⟨j, x, hj, _⟩; omega
  | k + 1, q, hq => by
    have ih := nodes_bit hn s k q hq
    have step : nodesTo ws s (k + 1) = nodesTo ws s k ∨ ∃ x, ws[k]? = some x ∧ bit s k = true ∧ nodesTo ws s (k + 1) = ior (nodesTo ws s k) (wayPl x) := by
      cases hx : ws[k]? with
      | none => left; simp only [nodesTo, hx]
      | some x =>
        cases hb : bit s k
        · left; exact nodesTo_no hx hb
        · right; exact ⟨x, rfl, rfl, nodesTo_yes hx hb⟩
    cases hx : ws[k]? with
    | none =>
      rw [show nodesTo ws s (k + 1) = nodesTo ws s k from by simp only [nodesTo, hx], ih]
      constructor
      · rintro ⟨j, x, hj, h⟩; exact ⟨j, x, by omega, h⟩
      · rintro ⟨j, x, hj, h1, h⟩
        have : j ≠ k := fun e => by subst e; rw [hx] at h1; cases h1
        exact ⟨j, x, by omega, h1, h⟩
    | some y =>
      obtain ⟨a0, _, b0, _⟩ := hn.at_ hx
      cases hb : bit s k
      · rw [nodesTo_no hx hb, ih]
        constructor
        · rintro ⟨j, x, hj, h⟩; exact ⟨j, x, by omega, h⟩
        · rintro ⟨j, x, hj, h1, h2, h⟩
          have : j ≠ k := fun e => by subst e; rw [hb] at h2; cases h2
          exact ⟨j, x, by omega, h1, h2, h⟩
      · rw [nodesTo_yes hx hb, bit_ior, Bool.or_eq_true, ih, wayPl_is, bit_ior, bit_shl _ _ a0 hq, bit_shl _ _ b0 hq]
        simp only [Bool.or_eq_true, decide_eq_true_eq]
        constructor
        · rintro (⟨j, x, hj, h⟩ | h)
          · exact ⟨j, x, by omega, h⟩
          · exact ⟨k, y, by omega, hx, hb, h⟩
        · rintro ⟨j, x, hj, h1, h2, h⟩
          by_cases hjk : j = k
          · subst hjk; rw [hx] at h1; injection h1 with h1; subst h1; exact .inr h
          · exact .inl ⟨j, x, by omega, h1, h2, h⟩
/-- the places of one way -/
theorem nodes_one {n : Int} {ws : List Wy} (hn : NetIs n ws) {k : Nat} {x : Wy} (hx : ws[k]? = some x) : nodesTo ws (2 ^ k) ws.length = wayPl x := by
  obtain ⟨a0, _, b0, _⟩ := hn.at_ hx
  have hk := (List.getElem?_eq_some_iff.1 hx).1
  refine set_ext (nodesTo_bd hn _ _).1 (wayPl_bd hn hx).1 fun q hq => ?_
  have hbk : ∀ j : Nat, bit (2 ^ k) (j : Int) = decide (j = k) := fun j => by
    have := bit_shl (k : Int) (j : Int) (by omega) (by omega)
    rw [Int.toNat_natCast] at this
    rw [this, Bool.eq_iff_iff]; simp only [decide_eq_true_eq]; omega
  rw [Bool.eq_iff_iff, nodes_bit hn _ _ q hq, wayPl_is, bit_ior, bit_shl _ _ a0 hq, bit_shl _ _ b0 hq]
  simp only [Bool.or_eq_true, decide_eq_true_eq]
  constructor
  · rintro ⟨j, y, _, h1, h2, h⟩
    rw [hbk] at h2
    have : j = k := by simpa using h2
    subst this; rw [hx] at h1; injection h1 with h1; subst h1; exact h
  · intro h
    exact ⟨k, x, hk, hx, by rw [hbk]; simp, h⟩
theorem pop_two_all : ∀ (a b : Fin 6), a.val ≠ b.val → pop ((2 ^ a.val ||| 2 ^ b.val : Nat) : Int) = 2 := by decide +kernel
theorem pop_way {n : Int} {ws : List Wy} (hn : NetIs n ws) {k : Nat} {x : Wy} (hx : ws[k]? = some x) : pop (wayPl x) = 2 := by
  obtain ⟨a0, a1, b0, b1, hne, _⟩ := hn.at_ hx
  have h6 := hn.hi
  have := pop_two_all ⟨x.a.toNat, by omega⟩ ⟨x.b.toNat, by omega⟩ (by simp only; omega)
  simp only at this
  rw [← this, wayPl_is]
  unfold ior
  rw [pow_toNat, pow_toNat]
theorem pop_ge2_all : ∀ (r : Fin 64) (a b : Fin 6), a.val ≠ b.val → r.val.testBit a.val = true → r.val.testBit b.val = true → 2 ≤ pop (r.val : Int) := by decide +kernel
theorem pop_ge2 {r a b : Int} (r0 : 0 ≤ r) (r1 : r < 64) (a0 : 0 ≤ a) (b0 : 0 ≤ b) (hab : a ≠ b) (ha : bit r a = true) (hb : bit r b = true) : 2 ≤ pop r := by
  have ha6 := set_sub (n := 6) r0 (by omega) ha
  have hb6 := set_sub (n := 6) r0 (by omega) hb
  have := pop_ge2_all ⟨r.toNat, by omega⟩ ⟨a.toNat, by omega⟩ ⟨b.toNat, by omega⟩ (by simp only; omega) ha hb
  simp only at this
  rwa [Int.toNat_of_nonneg r0] at this
/-- each place of the set is come to from another one -/
theorem reach_two {n : Int} {ws : List Wy} (hn : NetIs n ws) {s q : Int} (h0 : 0 ≤ q) (hqn : q < n) (h : bit (nodesTo ws s ws.length) q = true) : 2 ≤ pop (reach ws s q) := by
  obtain ⟨j, x, _, hx, hb, hq⟩ := (nodes_bit hn s _ q h0).1 h
  obtain ⟨a0, _, b0, _, hne, _⟩ := hn.at_ hx
  have hr := reach_is (s := s) hn h0 hqn
  have hc := hr.closed j x hx hb
  have hh := hr.has
  rcases hq with rfl | rfl
  · exact pop_ge2 hr.lo hr.hi a0 b0 hne hh (by rw [← hc]; exact hh)
  · exact pop_ge2 hr.lo hr.hi a0 b0 hne (by rw [hc]; exact hh) hh
/-- from a place that is none of the set one comes to itself alone -/
theorem reach_one {n : Int} {ws : List Wy} (hn : NetIs n ws) {s q : Int} (h0 : 0 ≤ q) (hqn : q < n) (h : bit (nodesTo ws s ws.length) q = false) : reach ws s q = 2 ^ q.toNat := by
  have hr := reach_is (s := s) hn h0 hqn
  refine set_ext hr.lo (by have := pow_bd q q.toNat (Nat.le_refl _); omega) fun y hy => ?_
  rw [bit_shl _ _ h0 hy, Bool.eq_iff_iff, decide_eq_true_eq]
  constructor
  · intro hb
    have := hr.least (fun z => decide (z = q)) (by simp) (fun k x hx hbk => by
      have hk := (List.getElem?_eq_some_iff.1 hx).1
      have hno : ∀ z, (z = x.a ∨ z = x.b) → z ≠ q := fun z hz e => by
        subst e
        have := (nodes_bit hn s ws.length z h0).2 ⟨k, x, hk, hx, hbk, hz⟩
        rw [h] at this; cases this
      simp [hno x.a (.inl rfl), hno x.b (.inr rfl)]) y hy hb
    simpa using this
  · rintro rfl; exact hr.has
end Go.Proofs.YtnnpooemdonbhaaDoor
