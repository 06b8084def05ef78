import Derived.Test.YtbbomajgmgmigaaDoorWC
set_option linter.unusedSimpArgs false
set_option linter.unusedVariables false
namespace Go.Proofs.YtbbomajgmgmigaaDoor
open Go.ChangeShapes Go.WideShapes Go.ChangeAt Go.RowKit

theorem l1Cost_any (n s : Int) (A : Option Addr) (cap : Nat) (ws : List Wy) (w : World) (hr : RW w w.heap.size A ws) (hn : NetIs n ws)
    (h2 : 0 ≤ s) (h3 : s ≤ 1048576) :
    Calls Tryd.prog 37 #[.agg #[.int .i64 n, .slice A ws.length cap], .int .i64 s] w fun e w' => e = .returned (.int .i64 (cost ws s)) ∧ Below w.heap.size w w' := by
  have HR := Lib.hid hr
  have HN := Lib.hid hn
  have hm := hn.len
  clear hr hn
  go_enter Tryd.func37, Tryd.ntmps37
  go_wp2_with fail
  go_loopw [5, 6] (fun c i wr => ∃ k : Nat, k ≤ ws.length ∧ i = .int .i64 k ∧ c = .int .i64 (cost (ws.take k) s) ∧ Below (w.heap.size + 1) (w.alloc (.cells #[.int .i64 n, .slice A ws.length cap] 25)) wr) (fun _ i _ => ws.length - (intOf i).toNat)
  case atStart => exact ⟨0, Nat.zero_le _, rfl, rfl, Below.refl _ _⟩
  case round =>
    obtain ⟨k, hk, rfl, rfl, hb⟩ := hrel
    obtain ⟨hb1, b0, b1, hz⟩ := box2 hb
    by_cases hlt : k < ws.length
    · obtain ⟨x, hx⟩ : ∃ x, ws[k]? = some x := ⟨_, List.getElem?_eq_getElem hlt⟩
      obtain ⟨b, o, rfl, hB, c0, c1, c2⟩ := HR.out.below hb1 k x hx
      have HX := Lib.hid (cost_take ws s k x hx)
      have hbd := cost_bd HN.out s k
      have hxc := HN.out.at_ hx
      have hx0 : 0 ≤ x.c := by omega
      have hx9 : x.c ≤ 9 := by omega
      have hq0 : 0 ≤ s / 2 ^ k := (div_pow_bd s k h2).1
      have hq1 : (s / 2 ^ k % 2 == 1) = bit s k := bit_mod_nat s k h2
      clear hx hxc hb1
      cases hbit : bit s k
      · rw [hbit] at hq1
        have Hbit := Lib.hid hbit
        clear hbit
        go_wp2_with fail
        go_roundw
        case rel => exact ⟨k + 1, by omega, by go_num, by rw [HX.out, Hbit.out]; simp, by go_grown⟩
        case measure => simp [intOf]; omega
      · rw [hbit] at hq1
        have Hbit := Lib.hid hbit
        clear hbit
        go_wp2_with fail
        go_roundw
        case rel => exact ⟨k + 1, by omega, by go_num, by rw [HX.out, Hbit.out]; simp, by go_grown⟩
        case measure => simp [intOf]; omega
    · go_wp2_with fail
      go_ret
      exact ⟨ret_int (by rw [List.take_of_length_le (by omega)]), hb1⟩

theorem full_wrap (len : Nat) (h : len ≤ 20) : wrap64 (wrap64 (2 ^ len) - 1) = full len := by
  have hp := pow_bd (len : Int) 20 (by omega)
  rw [Int.toNat_natCast] at hp
  have e1 : wrap64 (2 ^ len) = 2 ^ len := IntWalk.wrap64_in _ ⟨by omega, by omega⟩
  rw [e1]
  exact IntWalk.wrap64_in _ ⟨by omega, by omega⟩

end Go.Proofs.YtbbomajgmgmigaaDoor
