/- How many members sets have, and whether sets of ways are trees: of the program and of its model. -/
import Derived.Test.YtbbomajgmgmigaaDoorDA
import Derived.Test.YtbbomajgmgmigaaDoorWG
set_option linter.unusedSimpArgs false
set_option linter.unusedVariables false
namespace Go.Proofs.YtbbomajgmgmigaaDoor
open Go.ChangeShapes Go.WideShapes Go.ChangeAt Go.RowKit

set_option maxHeartbeats 1000000 in
theorem OC64_any (x : Int) (h0 : 0 ≤ x) (h1 : x < 512) (w : World) :
    Calls Tryd.prog 84 #[.int .u64 x] w fun e w' => e = .returned (.int .i64 (pop x)) ∧ w = w' := by
  go_enter Tryd.func84, Tryd.ntmps84
  go_wp2
  go_ret
  refine ⟨ret_int ?_, rfl⟩
  obtain ⟨n, rfl⟩ := Int.eq_ofNat_of_zero_le h0
  obtain ⟨k, rfl⟩ : ∃ k : Fin 512, n = k.val := ⟨⟨n, by omega⟩, rfl⟩
  clear h0 h1
  revert k
  decide +kernel
theorem OC_any (x : Int) (h0 : 0 ≤ x) (h1 : x < 512) (w : World) :
    Calls Tryd.prog 80 #[.int .u64 x] w fun e w' => e = .returned (.int .i64 (pop x)) ∧ w = w' := by
  have hw : IntKind.u64.wrap x = x := by rw [IntKind.wrap_u64]; omega
  go_enter Tryd.func80, Tryd.ntmps80
  go_wp2_with fail
  refine (OC64_any x h0 h1 _).mono ?_; rintro e w' ⟨rfl, rfl⟩
  go_wp2_with fail
  go_ret
  exact ⟨rfl, rfl⟩
set_option maxHeartbeats 400000 in
theorem l1Size_any (x : Int) (h0 : 0 ≤ x) (h1 : x < 512) (w : World) :
    Calls Tryd.prog 73 #[.int .i64 x] w fun e w' => e = .returned (.int .i64 (pop x)) ∧ w = w' := by
  have hpx := pop_bd x
  go_enter Tryd.func73, Tryd.ntmps73
  go_wp2_with fail
  go_loop [0, 3] (fun v c => ∃ y d : Int, v = .int .i64 y ∧ c = .int .i64 d ∧ 0 ≤ y ∧ y < 512 ∧ 0 ≤ d ∧ d ≤ 20 ∧ d + pop y = pop x) (fun v _ => (intOf v).toNat)
  case atStart => exact ⟨x, 0, rfl, rfl, h0, h1, by omega, by omega, by omega⟩
  case round =>
    obtain ⟨y, d, rfl, rfl, hy0, hy1, hd0, hd1, hsum⟩ := hrel
    have HS := Lib.hid hsum
    have HP := Lib.hid (pop_half y hy0 (by omega))
    have hb := pop_bd (y / 2)
    have hbx : d + pop y ≤ 20 := by omega
    have HB := Lib.hid hb
    by_cases hlt : 0 < y
    · have hle : d + y % 2 ≤ 20 := by have := HP.out; omega
      clear hsum hb hbx
      go_wp2_with fail
      go_round
      case rel => exact ⟨y / 2, d + y % 2, rfl, rfl, by omega, by omega, by omega, by omega, by have := HS.out; have := HP.out; omega⟩
      case measure => simp [intOf]; omega
    · have hy : y = 0 := by omega
      subst hy
      clear hsum hb hbx
      go_wp2_with fail
      go_ret
      exact ⟨ret_int (by have := HS.out; rw [pop_zero] at this; omega), rfl⟩

theorem ior_lt {a b : Int} {k : Nat} (ha : a < 2 ^ k) (hb : b < 2 ^ k) : ior a b < 2 ^ k := (ior_bd a b k ha hb).2
theorem shl_lt {a n : Int} (h0 : 0 ≤ a) (h1 : a < n) : (2 : Int) ^ a.toNat < 2 ^ n.toNat := by
  have h : 2 ^ a.toNat < 2 ^ n.toNat := Nat.pow_lt_pow_right (by omega) (by omega)
  have e1 : ((2 : Int) ^ a.toNat) = ((2 ^ a.toNat : Nat) : Int) := by simp
  have e2 : ((2 : Int) ^ n.toNat) = ((2 ^ n.toNat : Nat) : Int) := by simp
  omega
theorem wayPl_lt {n : Int} {ws : List Wy} (hn : NetIs n ws) {x : Wy} {k : Nat} (hx : ws[k]? = some x) : wayPl x < 2 ^ n.toNat := by
  obtain ⟨a0, a1, b0, b1, _⟩ := hn.at_ hx
  exact ior_lt (shl_lt a0 a1) (shl_lt b0 b1)
theorem nodesTo_lt {n : Int} {ws : List Wy} (hn : NetIs n ws) (s : Int) : ∀ k, nodesTo ws s k < 2 ^ n.toNat
  | 0 => by have := pow_bd n n.toNat (Nat.le_refl _); simp only [nodesTo]; omega
  | k + 1 => by
    have ih := nodesTo_lt hn s k
    cases hx : ws[k]? with
    | none => simp only [nodesTo, hx]; exact ih
    | some x =>
      cases hb : bit s k
      · rw [nodesTo_no hx hb]; exact ih
      · rw [nodesTo_yes hx hb]; exact ior_lt ih (wayPl_lt hn hx)
def nds (ws : List Wy) (s : Int) : Int := nodesTo ws s ws.length
theorem nds_bd {n : Int} {ws : List Wy} (hn : NetIs n ws) (s : Int) : 0 ≤ nds ws s ∧ nds ws s < 64 ∧ nds ws s < 2 ^ n.toNat :=
  ⟨(nodesTo_bd hn s _).1, (nodesTo_bd hn s _).2, nodesTo_lt hn s _⟩
noncomputable def tree (ws : List Wy) (s : Int) : Bool := s == 0 || (pop s == pop (nds ws s) - 1 && joins ws s (nds ws s))
noncomputable def treeOk (n : Int) (ws : List Wy) (s : Int) : Bool := setOk n ws s && tree ws s



end Go.Proofs.YtbbomajgmgmigaaDoor
