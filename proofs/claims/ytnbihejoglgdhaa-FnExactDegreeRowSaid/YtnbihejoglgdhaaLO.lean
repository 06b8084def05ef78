/- Small facts for the walks of laws; the fixed answer. -/
import Derived.Test.YtnbihejoglgdhaaWB
import Derived.Test.YtnbihejoglgdhaaReach
set_option linter.unusedSimpArgs false
set_option linter.unusedVariables false
namespace Go.Proofs.Ytnbihejoglgdhaa
open Go.ChangeShapes Go.WideShapes Go.ChangeAt Go.RowKit

theorem bit_iand (a b i : Int) : bit (iand a b) i = (bit a i && bit b i) := by
  unfold bit iand
  rw [Int.toNat_natCast, Nat.testBit_and]
theorem costFrom_join (s o : Int) : ∀ (ws : List Wy) (k : Int), costFrom ws s k + costFrom ws o k = costFrom ws (ior s o) k + costFrom ws (iand s o) k
  | [], _ => rfl
  | x :: ws, k => by
    have ih := costFrom_join s o ws (k + 1)
    simp only [costFrom, bit_ior, bit_iand]
    cases bit s k <;> cases bit o k <;> simp <;> omega
theorem cost_join (ws : List Wy) (s o : Int) : cost ws s + cost ws o = cost ws (ior s o) + cost ws (iand s o) := costFrom_join s o ws 0
theorem full_lt (len : Nat) (s : Int) : s ≤ full len ↔ s < 2 ^ len := by unfold full; omega
theorem setOk_mk {n : Int} {ws : List Wy} {s : Int} (hn : netOk n ws = true) (h0 : 0 ≤ s) (h1 : s ≤ full ws.length) : setOk n ws s = true := by
  unfold setOk; simp [hn, h0, h1]
theorem cost_zero (ws : List Wy) : cost ws 0 = 0 := by
  have : ∀ (ws : List Wy) (k : Int), costFrom ws 0 k = 0 := fun ws => by
    induction ws with
    | nil => intro k; rfl
    | cons x ws ih => intro k; simp [costFrom, bit, ih]
  exact this ws 0

theorem cost_all {n : Int} {ws : List Wy} (hn : netOk n ws = true) (s : Int) : 0 ≤ cost ws s ∧ cost ws s ≤ 81 := by
  have := cost_bd (netOk_t hn) s ws.length
  rwa [List.take_of_length_le (Nat.le_refl _)] at this
theorem keep2 {w w' : World} {h : Nat} {x0 x1 : Value} (hb : Below w.heap.size w w') (hk : w.cell? ⟨h, 0, none⟩ = some x0 ∧ w.cell? ⟨h, 1, none⟩ = some x1) (hl : h < w.heap.size) : w'.cell? ⟨h, 0, none⟩ = some x0 ∧ w'.cell? ⟨h, 1, none⟩ = some x1 :=
  ⟨(hb.cell (p := ⟨h, 0, none⟩) hl).trans hk.1, (hb.cell (p := ⟨h, 1, none⟩) hl).trans hk.2⟩
theorem RW.drewNR {w : World} {A : Option Addr} {ws : List Wy} (h : RW w w.heap.size A ws) (k : Nat) : RW (w.drewN k) (w.drewN k).heap.size A ws := h
theorem und {w w' : World} {k : Nat} (h : Below (w.drewN k).heap.size (w.drewN k) w') : Below w.heap.size w w' := ⟨h.os, h.tape, h.output, h.size, h.block⟩
theorem RW.nil_ (w : World) : RW w w.heap.size none [] := fun i x hx => by simp at hx
theorem alive_any (w : World) : Calls Try.prog 10 #[] w fun e w' => e = .returned (.bool true) ∧ Below w.heap.size w w' := by
  have e2 : netOk 2 [] = true := by decide
  have e1 : netOk 1 [] = false := by decide
  have E2 := Lib.hid e2
  have E1 := Lib.hid e1
  clear e1 e2
  go_enter Try.func10, Try.ntmps10
  go_wp2_with fail
  refine (NetOk_any 2 none 0 [] _ (RW.nil_ _)).mono ?_; rintro e w1 ⟨rfl, hb1⟩; rw [E2.out]
  go_wp2_with fail
  refine (NetOk_any 1 none 0 [] _ (RW.nil_ _)).mono ?_; rintro e w2 ⟨rfl, hb2⟩; rw [E1.out]
  have HB := Lib.hid (bstep hb1 hb1.size hb2)
  clear hb1 hb2
  go_wp2_with fail
  go_ret
  exact ⟨rfl, HB.out⟩
end Go.Proofs.Ytnbihejoglgdhaa
