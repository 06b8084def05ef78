/- Plain mathematics of nets, ways and sets of ways: no program is imported here. Who is come to: the least closed set that has the place. Plain mathematics. More on who is come to. Sets of places: their least place, their size, and whether a set of ways joins them. Plain mathematics. A set of ways joins at most one place more than it has ways; so no way of a tree is needless. Plain mathematics. Who is come to by a set of ways. Plain mathematics. -/
import Derived.WalkKit
import Derived.Laws.BitsAllLaws
import Derived.Laws.BitsLemmas
import Derived.Lib.Hide
import Derived.Deep.Draws
import Derived.Lib.TrailingZeros
set_option linter.unusedSimpArgs false
set_option linter.unusedVariables false
namespace Go.Proofs.Ythadehgpeafniaa
open Go.RowKit

/-! ### bits -/
theorem ofInt_i64 (a : Nat) (ha : a < 9223372036854775808) : (BitVec.ofInt 64 (a : Int)).toNat = a := by
  rw [BitVec.ofInt_natCast, BitVec.toNat_ofNat]; exact Nat.mod_eq_of_lt (by omega)
theorem i64_and_nat (a b : Nat) (ha : a < 9223372036854775808) (hb : b < 9223372036854775808) : bits .and .i64 (a : Int) (b : Int) = ((a &&& b : Nat) : Int) := by
  have hx : a &&& b < 2 ^ 63 := Nat.and_lt_two_pow _ (by omega)
  show IntKind.i64.wrap ((BitVec.ofInt 64 (a : Int) &&& BitVec.ofInt 64 (b : Int)).toNat : Int) = _
  rw [BitVec.toNat_and, ofInt_i64 a ha, ofInt_i64 b hb, IntKind.wrap_i64]
  omega
theorem i64_or_nat (a b : Nat) (ha : a < 9223372036854775808) (hb : b < 9223372036854775808) : bits .or .i64 (a : Int) (b : Int) = ((a ||| b : Nat) : Int) := by
  have hx : a ||| b < 2 ^ 63 := Nat.or_lt_two_pow (by omega) (by omega)
  show IntKind.i64.wrap ((BitVec.ofInt 64 (a : Int) ||| BitVec.ofInt 64 (b : Int)).toNat : Int) = _
  rw [BitVec.toNat_or, ofInt_i64 a ha, ofInt_i64 b hb, IntKind.wrap_i64]
  omega

theorem i64_xor_nat (a b : Nat) (ha : a < 9223372036854775808) (hb : b < 9223372036854775808) : bits .xor .i64 (a : Int) (b : Int) = ((a ^^^ b : Nat) : Int) := by
  have hx : a ^^^ b < 2 ^ 63 := Nat.xor_lt_two_pow (by omega) (by omega)
  show IntKind.i64.wrap ((BitVec.ofInt 64 (a : Int) ^^^ BitVec.ofInt 64 (b : Int)).toNat : Int) = _
  rw [BitVec.toNat_xor, ofInt_i64 a ha, ofInt_i64 b hb, IntKind.wrap_i64]
  omega
theorem xor_bd (a b : Int) (ha : 0 ≤ a) (ha' : a ≤ 1000000000) (hb : 0 ≤ b) (hb' : b ≤ 1000000000) : 0 ≤ bits .xor .i64 a b ∧ bits .xor .i64 a b ≤ 1073741824 := by
  obtain ⟨x, rfl⟩ := Int.eq_ofNat_of_zero_le ha
  obtain ⟨y, rfl⟩ := Int.eq_ofNat_of_zero_le hb
  rw [i64_xor_nat x y (by omega) (by omega)]
  have hx : x ^^^ y < 2 ^ 30 := Nat.xor_lt_two_pow (by omega) (by omega)
  omega
/-- the sets of bits of numbers from 0 on: both, either -/
def iand (a b : Int) : Int := ((a.toNat &&& b.toNat : Nat) : Int)
def ior (a b : Int) : Int := ((a.toNat ||| b.toNat : Nat) : Int)
theorem bits_and (a b : Int) (ha : 0 ≤ a) (ha' : a < 9223372036854775808) (hb : 0 ≤ b) (hb' : b < 9223372036854775808) : bits .and .i64 a b = iand a b := by
  obtain ⟨x, rfl⟩ := Int.eq_ofNat_of_zero_le ha
  obtain ⟨y, rfl⟩ := Int.eq_ofNat_of_zero_le hb
  rw [i64_and_nat x y (by omega) (by omega)]; rfl
theorem bits_or (a b : Int) (ha : 0 ≤ a) (ha' : a < 9223372036854775808) (hb : 0 ≤ b) (hb' : b < 9223372036854775808) : bits .or .i64 a b = ior a b := by
  obtain ⟨x, rfl⟩ := Int.eq_ofNat_of_zero_le ha
  obtain ⟨y, rfl⟩ := Int.eq_ofNat_of_zero_le hb
  rw [i64_or_nat x y (by omega) (by omega)]; rfl
/-- bit i of the number s -/
def bit (s i : Int) : Bool := s.toNat.testBit i.toNat
theorem bit_mod (s i : Int) (h0 : 0 ≤ i) (h2 : 0 ≤ s) : (s / 2 ^ i.toNat % 2 == 1) = bit s i := by
  obtain ⟨x, rfl⟩ := Int.eq_ofNat_of_zero_le h2
  obtain ⟨k, rfl⟩ := Int.eq_ofNat_of_zero_le h0
  unfold bit
  rw [Nat.testBit_eq_decide_div_mod_eq, Int.toNat_natCast, Int.toNat_natCast]
  have e : ((x : Int) / 2 ^ k % 2) = ((x / 2 ^ k % 2 : Nat) : Int) := by simp
  rw [e, Bool.eq_iff_iff]
  simp only [beq_iff_eq, decide_eq_true_eq]
  omega
theorem bit_mod_nat (s : Int) (k : Nat) (h2 : 0 ≤ s) : (s / 2 ^ k % 2 == 1) = bit s k := by
  have := bit_mod s k (by omega) h2
  rwa [Int.toNat_natCast] at this
theorem pow_toNat (i : Int) : ((2 : Int) ^ i.toNat).toNat = 2 ^ i.toNat := by
  have : ((2 : Int) ^ i.toNat) = ((2 ^ i.toNat : Nat) : Int) := by simp
  rw [this]; rfl
theorem div_pow_bd (s : Int) (i : Nat) (h2 : 0 ≤ s) : 0 ≤ s / 2 ^ i ∧ s / 2 ^ i ≤ s := by
  obtain ⟨x, rfl⟩ := Int.eq_ofNat_of_zero_le h2
  have e : ((x : Int) / 2 ^ i) = ((x / 2 ^ i : Nat) : Int) := by simp
  rw [e]
  have := Nat.div_le_self x (2 ^ i)
  generalize x / 2 ^ i = q at *
  omega
theorem and_one (q : Int) (h0 : 0 ≤ q) (h1 : q < 9223372036854775808) : (bits .and .i64 q 1 == 1) = (q % 2 == 1) := by
  rw [bits_and q 1 h0 h1 (by omega) (by omega)]
  unfold iand
  obtain ⟨x, rfl⟩ := Int.eq_ofNat_of_zero_le h0
  have e : ((x : Int).toNat &&& (1 : Int).toNat) = x % 2 := by
    show x &&& 1 = _
    exact Nat.and_one_is_mod x
  rw [e]
  rfl
theorem bit_and (s i : Int) (h0 : 0 ≤ i) (h1 : i ≤ 62) (h2 : 0 ≤ s) (h3 : s ≤ 1073741824) : (bits .and .i64 (s / 2 ^ min i.toNat 64) 1 == 1) = bit s i := by
  rw [Nat.min_eq_left (by omega), ← bit_mod s i h0 h2]
  have := div_pow_bd s i.toNat h2
  exact and_one _ (by omega) (by omega)
theorem bit_and' (s i : Int) (h0 : 0 ≤ i) (h2 : 0 ≤ s) (h3 : s ≤ 1073741824) : (bits .and .i64 (s / 2 ^ i.toNat) 1 == 1) = bit s i := by
  rw [← bit_mod s i h0 h2]
  have := div_pow_bd s i.toNat h2
  exact and_one _ (by omega) (by omega)
theorem pow_bd (i : Int) (k : Nat) (h : i.toNat ≤ k) : (1 : Int) ≤ 2 ^ i.toNat ∧ (2 : Int) ^ i.toNat ≤ 2 ^ k := by
  have h1 : 2 ^ i.toNat ≤ 2 ^ k := Nat.pow_le_pow_right (by omega) h
  have h2 : 1 ≤ 2 ^ i.toNat := Nat.one_le_two_pow
  have e1 : ((2 : Int) ^ i.toNat) = ((2 ^ i.toNat : Nat) : Int) := by simp
  have e2 : ((2 : Int) ^ k) = ((2 ^ k : Nat) : Int) := by simp
  omega
theorem iand_bd (a b : Int) (ha : 0 ≤ a) : 0 ≤ iand a b ∧ iand a b ≤ a := by
  unfold iand
  have := @Nat.and_le_left a.toNat b.toNat
  omega
theorem iand_bd2 (a b : Int) (hb : 0 ≤ b) : 0 ≤ iand a b ∧ iand a b ≤ b := by
  unfold iand
  have := @Nat.and_le_right a.toNat b.toNat
  omega
theorem ior_bd (a b : Int) (k : Nat) (ha : a < 2 ^ k) (hb : b < 2 ^ k) : 0 ≤ ior a b ∧ ior a b < 2 ^ k := by
  unfold ior
  have e : ((2 : Int) ^ k) = ((2 ^ k : Nat) : Int) := by simp
  have hp : 1 ≤ 2 ^ k := Nat.one_le_two_pow
  have := @Nat.or_lt_two_pow a.toNat b.toNat k (by omega) (by omega)
  omega

/-! ### ways and nets -/
structure Wy where
  a : Int
  b : Int
  c : Int

def hasPl (n p : Int) : Bool := decide (0 ≤ p) && decide (p < n)
theorem hasPl_t {n p : Int} (h : hasPl n p = true) : 0 ≤ p ∧ p < n := by
  unfold hasPl at h; simpa using h
def wayOk (n : Int) (x : Wy) : Bool := hasPl n x.a && hasPl n x.b && !(x.a == x.b) && decide (0 ≤ x.c) && decide (x.c ≤ 9)
theorem wayOk_t {n : Int} {x : Wy} (h : wayOk n x = true) : 0 ≤ x.a ∧ x.a < n ∧ 0 ≤ x.b ∧ x.b < n ∧ x.a ≠ x.b ∧ 0 ≤ x.c ∧ x.c ≤ 9 := by
  unfold wayOk at h
  simp only [Bool.and_eq_true, Bool.not_eq_true', beq_eq_false_iff_ne, decide_eq_true_eq] at h
  obtain ⟨⟨⟨⟨h1, h2⟩, h3⟩, h4⟩, h5⟩ := h
  have := hasPl_t h1
  have := hasPl_t h2
  exact ⟨by omega, by omega, by omega, by omega, h3, h4, h5⟩
def netOk (n : Int) (ws : List Wy) : Bool := decide (2 ≤ n) && decide (n ≤ 6) && decide (ws.length ≤ 9) && ws.all (wayOk n)
structure NetIs (n : Int) (ws : List Wy) : Prop where
  lo : 2 ≤ n
  hi : n ≤ 6
  len : ws.length ≤ 9
  ok : ∀ x ∈ ws, 0 ≤ x.a ∧ x.a < n ∧ 0 ≤ x.b ∧ x.b < n ∧ x.a ≠ x.b ∧ 0 ≤ x.c ∧ x.c ≤ 9
theorem netOk_t {n : Int} {ws : List Wy} (h : netOk n ws = true) : NetIs n ws := by
  unfold netOk at h
  simp only [Bool.and_eq_true, decide_eq_true_eq, List.all_eq_true] at h
  exact ⟨h.1.1.1, h.1.1.2, h.1.2, fun x hx => wayOk_t (h.2 x hx)⟩
theorem NetIs.at_ {n : Int} {ws : List Wy} (h : NetIs n ws) {k : Nat} {x : Wy} (hx : ws[k]? = some x) : 0 ≤ x.a ∧ x.a < n ∧ 0 ≤ x.b ∧ x.b < n ∧ x.a ≠ x.b ∧ 0 ≤ x.c ∧ x.c ≤ 9 :=
  h.ok x (List.mem_of_getElem? hx)

/-- the number 1 << len - 1 -/
def full (len : Nat) : Int := 2 ^ len - 1
def setOk (n : Int) (ws : List Wy) (s : Int) : Bool := netOk n ws && decide (0 ≤ s) && decide (s ≤ full ws.length)
theorem full_bd (len : Nat) (h : len ≤ 9) : 0 ≤ full len ∧ full len ≤ 511 := by
  unfold full
  have := pow_bd (len : Int) 9 (by omega)
  rw [Int.toNat_natCast] at this
  omega
theorem setOk_t {n : Int} {ws : List Wy} {s : Int} (h : setOk n ws s = true) : NetIs n ws ∧ 0 ≤ s ∧ s ≤ full ws.length ∧ s ≤ 511 := by
  unfold setOk at h
  simp only [Bool.and_eq_true, decide_eq_true_eq] at h
  have hn := netOk_t h.1.1
  have := full_bd ws.length hn.len
  exact ⟨hn, h.1.2, h.2, by omega⟩

/-- what the ways of a set cost together; the first way of the list is number k -/
def costFrom : List Wy → Int → Int → Int
  | [], _, _ => 0
  | x :: ws, s, k => (if bit s k then x.c else 0) + costFrom ws s (k + 1)
def cost (ws : List Wy) (s : Int) : Int := costFrom ws s 0
theorem costFrom_snoc (x : Wy) (s : Int) : ∀ (ws : List Wy) (k : Int), costFrom (ws ++ [x]) s k = costFrom ws s k + if bit s (k + ws.length) then x.c else 0
  | [], k => by simp [costFrom]
  | y :: ws, k => by
    simp only [List.cons_append, costFrom, costFrom_snoc x s ws (k + 1), List.length_cons]
    have e : k + 1 + (ws.length : Int) = k + ((ws.length + 1 : Nat) : Int) := by omega
    rw [e]; omega
theorem cost_take (ws : List Wy) (s : Int) (k : Nat) (x : Wy) (hx : ws[k]? = some x) : cost (ws.take (k + 1)) s = cost (ws.take k) s + if bit s k then x.c else 0 := by
  unfold cost
  have hk : k < ws.length := (List.getElem?_eq_some_iff.1 hx).1
  have e : ws.take (k + 1) = ws.take k ++ [x] := by
    rw [List.take_add_one, hx]; rfl
  rw [e, costFrom_snoc]
  have e2 : ((0 : Int) + ((ws.take k).length : Int)) = (k : Int) := by rw [List.length_take]; omega
  rw [e2]
theorem costFrom_bd {n : Int} (s : Int) : ∀ (ws : List Wy), (∀ x ∈ ws, 0 ≤ x.c ∧ x.c ≤ 9) → ∀ k, 0 ≤ costFrom ws s k ∧ costFrom ws s k ≤ 9 * ws.length
  | [], _, _ => by simp [costFrom]
  | x :: ws, h, k => by
    have h1 := costFrom_bd (n := n) s ws (fun y hy => h y (List.mem_cons_of_mem _ hy)) (k + 1)
    have h2 := h x (List.mem_cons_self ..)
    simp only [costFrom, List.length_cons]
    split <;> omega
theorem cost_bd {n : Int} {ws : List Wy} (h : NetIs n ws) (s : Int) (k : Nat) : 0 ≤ cost (ws.take k) s ∧ cost (ws.take k) s ≤ 81 := by
  have := costFrom_bd (n := n) s (ws.take k) (fun x hx => by have := h.ok x (List.mem_of_mem_take hx); omega) 0
  have hl := h.len
  have : (ws.take k).length ≤ ws.length := by rw [List.length_take]; omega
  unfold cost; omega

/-! ### memory -/
/-- The slice that begins at A holds the ways ws, below block B. -/
def RW (w : World) (B : Nat) (A : Option Addr) (ws : List Wy) : Prop :=
  ∀ i x, ws[i]? = some x → ∃ b o, A = some ⟨b, o, none⟩ ∧ b < B ∧ w.cell? ⟨b, o + i * 3, none⟩ = some (.int .i64 x.a) ∧ w.cell? ⟨b, o + i * 3 + 1, none⟩ = some (.int .i64 x.b) ∧ w.cell? ⟨b, o + i * 3 + 2, none⟩ = some (.int .i64 x.c)

theorem RW.below {w w' : World} {B : Nat} {A : Option Addr} {ws : List Wy} (h : RW w B A ws) (hb : Below B w w') : RW w' B A ws := by
  intro i x hx
  obtain ⟨b, o, ha, hB, h0, h1, h2⟩ := h i x hx
  exact ⟨b, o, ha, hB, (hb.cell hB).trans h0, (hb.cell hB).trans h1, (hb.cell hB).trans h2⟩
theorem RW.more {w : World} {B B' : Nat} {A : Option Addr} {ws : List Wy} (h : RW w B A ws) (hB : B ≤ B') : RW w B' A ws := by
  intro i x hx
  obtain ⟨b, o, ha, hb, h'⟩ := h i x hx
  exact ⟨b, o, ha, by omega, h'⟩
/-- seen from a later world -/
theorem RW.later {w w' : World} {A : Option Addr} {ws : List Wy} (h : RW w w.heap.size A ws) (hb : Below w.heap.size w w') : RW w' w'.heap.size A ws := (h.below hb).more hb.size

/-- The slice that begins at A holds n bytes, below block B. -/
def RB (w : World) (B : Nat) (A : Option Addr) (n : Nat) : Prop :=
  ∀ i, i < n → ∃ b o v, A = some ⟨b, o, none⟩ ∧ b < B ∧ 0 ≤ v ∧ v < 256 ∧ w.cell? ⟨b, o + i, none⟩ = some (.int .u8 v)
theorem RB.below {w w' : World} {B : Nat} {A : Option Addr} {n : Nat} (h : RB w B A n) (hb : Below B w w') : RB w' B A n := by
  intro i hi
  obtain ⟨b, o, v, ha, hB, h0, h1, h2⟩ := h i hi
  exact ⟨b, o, v, ha, hB, h0, h1, (hb.cell hB).trans h2⟩
/-- Block g holds the reader of a code: its bytes, and how many were read. -/
structure Rdr (w : World) (t : TypeId) (g : Nat) (A : Option Addr) (n cap : Nat) (p : Int) : Prop where
  blk : w.heap[g]? = some (.cells #[.slice A n cap, .int .i64 p] t (0, 0))
  byt : RB w g A n
  len : n ≤ 2000
  lo : 0 ≤ p
theorem Rdr.cells {w : World} {t : TypeId} {g : Nat} {A : Option Addr} {n cap : Nat} {p : Int} (h : Rdr w t g A n cap p) :
    w.cell? ⟨g, 0, none⟩ = some (.slice A n cap) ∧ w.cell? ⟨g, 1, none⟩ = some (.int .i64 p) ∧ w.frozen? ⟨g, 0, none⟩ = false ∧ w.frozen? ⟨g, 1, none⟩ = false ∧ g < w.heap.size := by
  refine ⟨cell_of_row _ _ 0 _ _ (0, 0) h.blk, cell_of_row _ _ 1 _ _ (0, 0) h.blk, ?_, ?_, (Array.getElem?_eq_some_iff.1 h.blk).1⟩
  · simp [World.frozen?, h.blk]
  · simp [World.frozen?, h.blk]
/-- of the reader at g at most m bytes were read -/
def RdrE (w : World) (t : TypeId) (g : Nat) (A : Option Addr) (n cap : Nat) (m : Int) : Prop := ∃ p, p ≤ m ∧ Rdr w t g A n cap p
theorem RdrE.lt {w : World} {t : TypeId} {g : Nat} {A : Option Addr} {n cap : Nat} {m : Int} (h : RdrE w t g A n cap m) : g < w.heap.size := by
  obtain ⟨_, _, h⟩ := h; exact h.cells.2.2.2.2
theorem RdrE.more {w : World} {t : TypeId} {g : Nat} {A : Option Addr} {n cap : Nat} {m m' : Int} (h : RdrE w t g A n cap m) (hm : m ≤ m') : RdrE w t g A n cap m' := by
  obtain ⟨p, hp, h⟩ := h; exact ⟨p, by omega, h⟩
/-- block g, and what lies below it, is as it was -/
theorem RdrE.keep {w w' : World} {t : TypeId} {g : Nat} {A : Option Addr} {n cap : Nat} {m : Int} (h : RdrE w t g A n cap m) (hb : ∀ k, k ≤ g → w'.heap[k]? = w.heap[k]?) : RdrE w' t g A n cap m := by
  obtain ⟨p, hp, h⟩ := h
  refine ⟨p, hp, ⟨(hb g (Nat.le_refl _)).trans h.blk, fun i hi => ?_, h.len, h.lo⟩⟩
  obtain ⟨b, o, v, ha, hB, h0, h1, h2⟩ := h.byt i hi
  exact ⟨b, o, v, ha, hB, h0, h1, (World.cell?_of_block (w := w) (hb b (by omega))).trans h2⟩
theorem RdrE.below {w w' : World} {t : TypeId} {g : Nat} {A : Option Addr} {n cap : Nat} {m : Int} (h : RdrE w t g A n cap m) (hb : Below w.heap.size w w') : RdrE w' t g A n cap m :=
  h.keep fun k hk => hb.block k (by have := h.lt; omega)
theorem RdrE.grown {w w' : World} {t : TypeId} {g : Nat} {A : Option Addr} {n cap : Nat} {m : Int} (h : RdrE w t g A n cap m) {row : Option Nat} (hb : w.grownBy w' row) (hr : ∀ k, row = some k → g < k) : RdrE w' t g A n cap m :=
  h.keep fun k hk => hb.block k (by have := h.lt; omega) (fun e => by have := hr k e.symm; omega)
theorem only_below {a w : World} (h : Below a.heap.size a w) (row : Option Nat) : a.grownBy w row := ⟨h.os, h.tape, h.output, h.size, fun i hi _ => h.block i hi⟩
theorem only_trans {a b c : World} {row : Option Nat} (h : a.grownBy b row) (k : b.grownBy c row) : a.grownBy c row :=
  ⟨k.os.trans h.os, k.tape.trans h.tape, k.output.trans h.output, Nat.le_trans h.size k.size, fun i hi hne => (k.block i (Nat.lt_of_lt_of_le hi h.size) hne).trans (h.block i hi hne)⟩
theorem only_new {a b c : World} {row row' : Option Nat} (h : a.grownBy b row) (k : b.grownBy c row') (hn : ∀ i, row' = some i → a.heap.size ≤ i) : a.grownBy c row :=
  ⟨k.os.trans h.os, k.tape.trans h.tape, k.output.trans h.output, Nat.le_trans h.size k.size, fun i hi hne => (k.block i (Nat.lt_of_lt_of_le hi h.size) (fun e => by have := hn i e.symm; omega)).trans (h.block i hi hne)⟩
theorem only_alloc {a w : World} {row : Option Nat} (h : a.grownBy w row) (o : Obj) : a.grownBy (w.alloc o) row :=
  ⟨h.os, h.tape, h.output, Nat.le_trans h.size (by simp), fun i hi hne => (Below.heap_alloc w o i (Nat.lt_of_lt_of_le hi h.size)).trans (h.block i hi hne)⟩
theorem only_drew {a w : World} {row : Option Nat} (h : a.grownBy w row) : a.grownBy w.drew row := ⟨h.os, h.tape, h.output, h.size, h.block⟩
theorem only_drewN {a w : World} {row : Option Nat} (h : a.grownBy w row) (n : Nat) : a.grownBy (w.drewN n) row := ⟨h.os, h.tape, h.output, h.size, h.block⟩
theorem only_setCell {a w : World} {row : Option Nat} (h : a.grownBy w row) {p : Addr} (hp : row = some p.block ∨ a.heap.size ≤ p.block) (u : Value) : a.grownBy (w.setCell p u) row :=
  ⟨h.os, h.tape, h.output, by simpa [World.setCell] using h.size, fun i hi hne => (Below.heap_setCell w p u i (by
    rintro rfl
    rcases hp with hp | hp
    · exact hne hp.symm
    · omega)).trans (h.block i hi hne)⟩
theorem bcell {W w1 : World} (hb : Below W.heap.size W w1) : (∀ b o, b < W.heap.size → w1.cell? ⟨b, o, none⟩ = W.cell? ⟨b, o, none⟩) ∧ (∀ b o, b < W.heap.size → w1.frozen? ⟨b, o, none⟩ = W.frozen? ⟨b, o, none⟩) :=
  ⟨fun b o h => hb.cell (p := ⟨b, o, none⟩) h, fun b o h => hb.frozen (p := ⟨b, o, none⟩) h⟩
/-- a struct of two cells that the call boxed at its beginning -/
theorem box2 {w wr : World} {v0 v1 : Value} {t : TypeId} (h : Below (w.heap.size + 1) (w.alloc (.cells #[v0, v1] t)) wr) :
    Below w.heap.size w wr ∧ wr.cell? ⟨w.heap.size, 0, none⟩ = some v0 ∧ wr.cell? ⟨w.heap.size, 1, none⟩ = some v1 ∧ w.heap.size < wr.heap.size := by
  have hs := h.size
  simp only [World.size_alloc] at hs
  refine ⟨((Below.refl _ _).alloc (Nat.le_refl _) _).trans (h.mono (by omega)), ?_, ?_, by omega⟩
  · rw [h.cell (p := ⟨w.heap.size, 0, none⟩) (by simp)]
    exact cell_of_row _ _ 0 _ _ (0, 0) (heap_alloc_new w _)
  · rw [h.cell (p := ⟨w.heap.size, 1, none⟩) (by simp)]
    exact cell_of_row _ _ 1 _ _ (0, 0) (heap_alloc_new w _)
/-- one step more, behind a call -/
theorem bstep {B : Nat} {W w w1 : World} (h : Below B W w) (hB : B ≤ w.heap.size) (h1 : Below w.heap.size w w1) : Below B W w1 := h.trans (h1.mono hB)
theorem ret_int {k : IntKind} {a b : Int} (h : a = b) : Ending.returned (.int k a) = .returned (.int k b) := by rw [h]
theorem ret_bool {a b : Bool} (h : a = b) : Ending.returned (.bool a) = .returned (.bool b) := by rw [h]
end Go.Proofs.Ythadehgpeafniaa
namespace Go.Proofs.Ythadehgpeafniaa
open Go.RowKit

theorem bit_ior (a b i : Int) : bit (ior a b) i = (bit a i || bit b i) := by
  unfold bit ior
  rw [Int.toNat_natCast, Nat.testBit_or]
theorem bit_shl (a i : Int) (ha : 0 ≤ a) (hi : 0 ≤ i) : bit (2 ^ a.toNat) i = decide (i = a) := by
  unfold bit
  rw [pow_toNat, Nat.testBit_two_pow, Bool.eq_iff_iff]
  simp only [decide_eq_true_eq]
  omega
/-- two sets of at most six places are one if they have the same places -/
theorem set_ext {r r' : Int} (h0 : 0 ≤ r) (h0' : 0 ≤ r') (h : ∀ q, 0 ≤ q → bit r q = bit r' q) : r = r' := by
  obtain ⟨x, rfl⟩ := Int.eq_ofNat_of_zero_le h0
  obtain ⟨y, rfl⟩ := Int.eq_ofNat_of_zero_le h0'
  have : x = y := Nat.eq_of_testBit_eq fun i => by
    have := h (i : Int) (by omega)
    simpa [bit] using this
  rw [this]
theorem ior_ge (a b : Int) (ha : 0 ≤ a) : a ≤ ior a b := by
  unfold ior
  have := @Nat.left_le_or a.toNat b.toNat
  omega
theorem iand_ne (a b r : Int) (ha : 0 ≤ a) (hb : 0 ≤ b) : iand (ior (2 ^ a.toNat) (2 ^ b.toNat)) r ≠ 0 ↔ bit r a = true ∨ bit r b = true := by
  constructor
  · intro h
    apply Classical.byContradiction
    intro hn
    apply h
    unfold iand
    have : (ior (2 ^ a.toNat) (2 ^ b.toNat)).toNat &&& r.toNat = 0 := Nat.eq_of_testBit_eq fun i => by
      rw [Nat.testBit_and, Nat.zero_testBit]
      have h1 : (ior (2 ^ a.toNat) (2 ^ b.toNat)).toNat.testBit i = (decide ((i : Int) = a) || decide ((i : Int) = b)) := by
        have := bit_ior (2 ^ a.toNat) (2 ^ b.toNat) (i : Int)
        rw [bit_shl a i ha (by omega), bit_shl b i hb (by omega)] at this
        simpa [bit] using this
      rw [h1]
      cases hr : r.toNat.testBit i
      · simp
      · have hbr : bit r (i : Int) = true := by simpa [bit] using hr
        have hna : ¬ (i : Int) = a := fun e => hn (.inl (e ▸ hbr))
        have hnb : ¬ (i : Int) = b := fun e => hn (.inr (e ▸ hbr))
        simp [hna, hnb]
    rw [this]; rfl
  · intro h he
    have key : ∀ c : Int, 0 ≤ c → bit (ior (2 ^ a.toNat) (2 ^ b.toNat)) c = true → bit r c = true → False := fun c hc h1 h2 => by
      have : (iand (ior (2 ^ a.toNat) (2 ^ b.toNat)) r).toNat.testBit c.toNat = true := by
        unfold iand
        rw [Int.toNat_natCast, Nat.testBit_and]
        unfold bit at h1 h2
        rw [h1, h2]; rfl
      rw [he] at this
      simp at this
    rcases h with h | h
    · exact key a ha (by rw [bit_ior, bit_shl a a ha ha]; simp) h
    · exact key b hb (by rw [bit_ior, bit_shl b b hb hb]; simp) h

/-- closed under the ways of a set -/
def Closed (ws : List Wy) (s : Int) (T : Int → Bool) : Prop := ∀ (k : Nat) (x : Wy), ws[k]? = some x → bit s k = true → T x.a = T x.b
/-- on the way to what is come to from p -/
structure OnWay (ws : List Wy) (s p r : Int) : Prop where
  lo : 0 ≤ r
  hi : r < 64
  has : bit r p = true
  least : ∀ T : Int → Bool, T p = true → Closed ws s T → ∀ q, 0 ≤ q → bit r q = true → T q = true
structure IsReach (ws : List Wy) (s p r : Int) : Prop extends OnWay ws s p r where
  closed : Closed ws s (bit r)
theorem IsReach.one {ws : List Wy} {s p r r' : Int} (h : IsReach ws s p r) (h' : IsReach ws s p r') : r = r' := by
  refine set_ext h.lo h'.lo fun q hq => ?_
  rw [Bool.eq_iff_iff]
  exact ⟨h.least (bit r') h'.has h'.closed q hq, h'.least (bit r) h.has h.closed q hq⟩
theorem OnWay.start {n : Int} {ws : List Wy} {s p : Int} (hn : NetIs n ws) (hp : 0 ≤ p) (hp' : p < n) : OnWay ws s p (2 ^ p.toNat) := by
  have h6 := hn.hi
  have hb := pow_bd p 5 (by omega)
  refine ⟨by omega, by omega, by rw [bit_shl p p hp hp]; simp, fun T hT _ q hq h => ?_⟩
  rw [bit_shl p q hp hq] at h
  have : q = p := by simpa using h
  rw [this]; exact hT
/-- a way that touches is taken in -/
theorem OnWay.step {n : Int} {ws : List Wy} {s p r : Int} (hn : NetIs n ws) (h : OnWay ws s p r) {k : Nat} {x : Wy} (hx : ws[k]? = some x) (hb : bit s k = true) (ht : bit r x.a = true ∨ bit r x.b = true) :
    OnWay ws s p (ior r (ior (2 ^ x.a.toNat) (2 ^ x.b.toNat))) := by
  obtain ⟨a0, a1, b0, b1, _⟩ := hn.at_ hx
  have h6 := hn.hi
  have ha := pow_bd x.a 5 (by omega)
  have hbb := pow_bd x.b 5 (by omega)
  have hw := ior_bd (2 ^ x.a.toNat) (2 ^ x.b.toNat) 6 (by omega) (by omega)
  have hr := ior_bd r (ior (2 ^ x.a.toNat) (2 ^ x.b.toNat)) 6 (by have := h.hi; omega) (by omega)
  refine ⟨hr.1, hr.2, by rw [bit_ior, h.has]; rfl, fun T hT hc q hq hbit => ?_⟩
  rw [bit_ior, bit_ior, bit_shl x.a q a0 hq, bit_shl x.b q b0 hq] at hbit
  simp only [Bool.or_eq_true, decide_eq_true_eq] at hbit
  have hab := hc k x hx hb
  have hta : T x.a = true := by
    rcases ht with ht | ht
    · exact h.least T hT hc x.a a0 ht
    · rw [hab]; exact h.least T hT hc x.b b0 ht
  rcases hbit with hbit | rfl | rfl
  · exact h.least T hT hc q hq hbit
  · exact hta
  · rw [← hab]; exact hta

/-! the program's wave -/
def waveTo (ws : List Wy) (s r : Int) : Nat → Int
  | 0 => r
  | k + 1 => match ws[k]? with
    | some x => if bit s k = true ∧ iand (ior (2 ^ x.a.toNat) (2 ^ x.b.toNat)) (waveTo ws s r k) ≠ 0 then ior (waveTo ws s r k) (ior (2 ^ x.a.toNat) (2 ^ x.b.toNat)) else waveTo ws s r k
    | none => waveTo ws s r k
theorem waveTo_yes {ws : List Wy} {s r : Int} {k : Nat} {x : Wy} (hx : ws[k]? = some x) (hb : bit s k = true) (hi : iand (ior (2 ^ x.a.toNat) (2 ^ x.b.toNat)) (waveTo ws s r k) ≠ 0) :
    waveTo ws s r (k + 1) = ior (waveTo ws s r k) (ior (2 ^ x.a.toNat) (2 ^ x.b.toNat)) := by
  rw [waveTo, hx]; simp only; rw [if_pos ⟨hb, hi⟩]
theorem waveTo_no {ws : List Wy} {s r : Int} {k : Nat} {x : Wy} (hx : ws[k]? = some x) (h : ¬ (bit s k = true ∧ iand (ior (2 ^ x.a.toNat) (2 ^ x.b.toNat)) (waveTo ws s r k) ≠ 0)) :
    waveTo ws s r (k + 1) = waveTo ws s r k := by
  rw [waveTo, hx]; simp only; rw [if_neg h]
theorem waveTo_ok {n : Int} {ws : List Wy} {s p r : Int} (hn : NetIs n ws) (h : OnWay ws s p r) : ∀ k, OnWay ws s p (waveTo ws s r k) ∧ r ≤ waveTo ws s r k
  | 0 => ⟨h, Int.le_refl _⟩
  | k + 1 => by
    obtain ⟨ih, hge⟩ := waveTo_ok hn h k
    cases hx : ws[k]? with
    | none => rw [waveTo, hx]; exact ⟨ih, hge⟩
    | some x =>
      obtain ⟨a0, _, b0, _⟩ := hn.at_ hx
      by_cases hc : bit s k = true ∧ iand (ior (2 ^ x.a.toNat) (2 ^ x.b.toNat)) (waveTo ws s r k) ≠ 0
      · rw [waveTo_yes hx hc.1 hc.2]
        exact ⟨ih.step hn hx hc.1 ((iand_ne _ _ _ a0 b0).1 hc.2), Int.le_trans hge (ior_ge _ _ ih.lo)⟩
      · rw [waveTo_no hx hc]; exact ⟨ih, hge⟩
theorem waveTo_mono {n : Int} {ws : List Wy} {s p r : Int} (hn : NetIs n ws) (h : OnWay ws s p r) (k : Nat) : waveTo ws s r k ≤ waveTo ws s r (k + 1) := by
  have ih := (waveTo_ok hn h k).1
  cases hx : ws[k]? with
  | none => rw [waveTo, hx]; exact Int.le_refl _
  | some x =>
    by_cases hc : bit s k = true ∧ iand (ior (2 ^ x.a.toNat) (2 ^ x.b.toNat)) (waveTo ws s r k) ≠ 0
    · rw [waveTo_yes hx hc.1 hc.2]; exact ior_ge _ _ ih.lo
    · rw [waveTo_no hx hc]; exact Int.le_refl _
theorem waveTo_mono' {n : Int} {ws : List Wy} {s p r : Int} (hn : NetIs n ws) (h : OnWay ws s p r) (k : Nat) : ∀ d, waveTo ws s r k ≤ waveTo ws s r (k + d)
  | 0 => Int.le_refl _
  | d + 1 => Int.le_trans (waveTo_mono' hn h k d) (waveTo_mono hn h (k + d))
/-- a wave that brings nothing: all is come to -/
theorem wave_end {n : Int} {ws : List Wy} {s p r : Int} (hn : NetIs n ws) (h : OnWay ws s p r) (he : waveTo ws s r ws.length = r) : IsReach ws s p r := by
  refine { h with closed := fun k x hx hb => ?_ }
  have hk := (List.getElem?_eq_some_iff.1 hx).1
  obtain ⟨a0, _, b0, _⟩ := hn.at_ hx
  have e1 : waveTo ws s r k = r := by
    have h1 := (waveTo_ok hn h k).2
    have h2 := waveTo_mono' hn h k (ws.length - k)
    rw [show k + (ws.length - k) = ws.length from by omega, he] at h2
    omega
  have e2 : waveTo ws s r (k + 1) = r := by
    have h1 := (waveTo_ok hn h (k + 1)).2
    have h2 := waveTo_mono' hn h (k + 1) (ws.length - (k + 1))
    rw [show k + 1 + (ws.length - (k + 1)) = ws.length from by omega, he] at h2
    omega
  by_cases hc : iand (ior (2 ^ x.a.toNat) (2 ^ x.b.toNat)) r ≠ 0
  · have e3 := waveTo_yes (r := r) hx hb (by rw [e1]; exact hc)
    rw [e1, e2] at e3
    rw [e3, bit_ior, bit_ior, bit_ior, bit_ior, bit_shl _ _ a0 a0, bit_shl _ _ b0 b0]
    simp
  · have hn1 : ¬ bit r x.a = true := fun hh => hc ((iand_ne _ _ _ a0 b0).2 (.inl hh))
    have hn2 : ¬ bit r x.b = true := fun hh => hc ((iand_ne _ _ _ a0 b0).2 (.inr hh))
    simp only [Bool.not_eq_true] at hn1 hn2
    rw [hn1, hn2]

/-- who is come to -/
noncomputable def reach (ws : List Wy) (s p : Int) : Int := @Classical.epsilon Int ⟨0⟩ (IsReach ws s p)
theorem IsReach.eq {ws : List Wy} {s p r : Int} (h : IsReach ws s p r) : r = reach ws s p :=
  h.one (Classical.epsilon_spec ⟨r, h⟩)
end Go.Proofs.Ythadehgpeafniaa
namespace Go.Proofs.Ythadehgpeafniaa
open Go.RowKit

theorem reach_ex {n : Int} {ws : List Wy} {s p : Int} (hn : NetIs n ws) : ∀ (m : Nat) (r : Int), (64 - r).toNat ≤ m → OnWay ws s p r → ∃ r', IsReach ws s p r'
  | 0, r, hm, h => by have := h.hi; omega
  | m + 1, r, hm, h => by
    obtain ⟨h1, h2⟩ := waveTo_ok hn h ws.length
    by_cases he : waveTo ws s r ws.length = r
    · exact ⟨r, wave_end hn h he⟩
    · exact reach_ex hn m _ (by have := h1.hi; omega) h1
theorem reach_is {n : Int} {ws : List Wy} {s p : Int} (hn : NetIs n ws) (hp : 0 ≤ p) (hp' : p < n) : IsReach ws s p (reach ws s p) := by
  obtain ⟨r, hr⟩ := reach_ex (s := s) hn 64 _ (by have := pow_bd p 5 (by have := hn.hi; omega); omega) (OnWay.start (s := s) hn hp hp')
  exact Classical.epsilon_spec ⟨r, hr⟩
/-- who is come to comes back -/
theorem IsReach.back {ws : List Wy} {s p q r : Int} (h : IsReach ws s p r) (hq : 0 ≤ q) (hb : bit r q = true) : IsReach ws s q r := by
  refine { lo := h.lo, hi := h.hi, has := hb, closed := h.closed, least := fun T hT hc x hx hxr => ?_ }
  have key : ∀ y, 0 ≤ y → bit r y = true → (T y == T p) = true := fun y hy hyr =>
    h.least (fun y => T y == T p) (by simp) (fun k w hw hk => by simp [hc k w hw hk]) y hy hyr
  have h1 := key q hq hb
  have h2 := key x hx hxr
  simp at h1 h2
  rw [h2, ← h1, hT]
theorem reach_back {n : Int} {ws : List Wy} {s p q : Int} (hn : NetIs n ws) (hp : 0 ≤ p) (hp' : p < n) (hq : 0 ≤ q) (hb : bit (reach ws s p) q = true) : reach ws s q = reach ws s p :=
  (((reach_is hn hp hp').back hq hb).eq).symm
end Go.Proofs.Ythadehgpeafniaa
namespace Go.Proofs.Ythadehgpeafniaa
open Go.RowKit

/-- a without b -/
def idiff (a b : Int) : Int := ((a.toNat &&& (a.toNat ^^^ b.toNat) : Nat) : Int)
theorem bit_idiff (a b i : Int) : bit (idiff a b) i = (bit a i && !bit b i) := by
  unfold bit idiff
  rw [Int.toNat_natCast, Nat.testBit_and, Nat.testBit_xor]
  cases a.toNat.testBit i.toNat <;> cases b.toNat.testBit i.toNat <;> rfl
theorem idiff_bd (a b : Int) (ha : 0 ≤ a) : 0 ≤ idiff a b ∧ idiff a b ≤ a := by
  unfold idiff
  have := @Nat.and_le_left a.toNat (a.toNat ^^^ b.toNat)
  omega
theorem and_not_nat (x y : Nat) (hx : x < 9223372036854775808) (hy : y < 9223372036854775808) : x &&& (2 ^ 64 - 1 - y) = x &&& (x ^^^ y) := by
  apply Nat.eq_of_testBit_eq
  intro i
  rw [Nat.testBit_and, Nat.testBit_and, Nat.testBit_xor, show 2 ^ 64 - 1 - y = 2 ^ 64 - (y + 1) from by omega, Nat.testBit_two_pow_sub_succ (by omega)]
  by_cases hi : i < 64
  · simp only [hi, decide_true, Bool.true_and]
    cases x.testBit i <;> cases y.testBit i <;> rfl
  · have hxi : x.testBit i = false := Nat.testBit_lt_two_pow (Nat.lt_of_lt_of_le (show x < 2 ^ 64 from by omega) (Nat.pow_le_pow_right (by omega) (by omega)))
    simp [hxi]
theorem bits_andNot (a b : Int) (ha : 0 ≤ a) (ha' : a < 9223372036854775808) (hb : 0 ≤ b) (hb' : b < 9223372036854775808) : bits .andNot .i64 a b = idiff a b := by
  obtain ⟨x, rfl⟩ := Int.eq_ofNat_of_zero_le ha
  obtain ⟨y, rfl⟩ := Int.eq_ofNat_of_zero_le hb
  show IntKind.i64.wrap ((BitVec.ofInt 64 (x : Int) &&& ~~~BitVec.ofInt 64 (y : Int)).toNat : Int) = _
  rw [BitVec.toNat_and, BitVec.toNat_not, ofInt_i64 x (by omega), ofInt_i64 y (by omega), IntKind.wrap_i64, and_not_nat x y (by omega) (by omega)]
  unfold idiff
  rw [Int.toNat_natCast, Int.toNat_natCast]
  have := @Nat.and_le_left x (x ^^^ y)
  omega
theorem bit_zero_ (q : Int) : bit 0 q = false := by simp [bit]
theorem idiff_zero {a b : Int} (ha : 0 ≤ a) : idiff a b = 0 ↔ ∀ q, 0 ≤ q → bit a q = true → bit b q = true := by
  constructor
  · intro h q _ hb
    have := bit_idiff a b q
    rw [h, bit_zero_, hb] at this
    cases hq : bit b q
    · rw [hq] at this; cases this
    · rfl
  · intro h
    refine set_ext (idiff_bd a b ha).1 (Int.le_refl 0) fun q hq => ?_
    rw [bit_idiff, bit_zero_]
    cases hb : bit a q
    · rfl
    · rw [h q hq hb]; rfl

/-- the least place of a set -/
def low (e : Int) : Int := ((Lib.ctz 64 e.toNat : Nat) : Int)
theorem low_spec {e : Int} (h0 : 0 < e) (h1 : e < 9223372036854775808) : 0 ≤ low e ∧ low e < 64 ∧ bit e (low e) = true ∧ ∀ j, 0 ≤ j → j < low e → bit e j = false := by
  obtain ⟨x, rfl⟩ := Int.eq_ofNat_of_zero_le (Int.le_of_lt h0)
  obtain ⟨m, hm, hk⟩ := Lib.ctzFrom_spec 64 x (by omega) (by omega)
  have e : low (x : Int) = ((Lib.ctzFrom 64 x : Nat) : Int) := by
    unfold low Lib.ctz
    rw [Int.toNat_natCast, if_neg (by omega)]
  rw [e]
  generalize Lib.ctzFrom 64 x = k at hm hk
  refine ⟨by omega, by omega, ?_, fun j hj hjk => ?_⟩
  · unfold bit
    rw [Int.toNat_natCast, Int.toNat_natCast, hm, Nat.mul_comm, Nat.testBit_mul_two_pow]
    simp
  · obtain ⟨i, rfl⟩ := Int.eq_ofNat_of_zero_le hj
    unfold bit
    rw [Int.toNat_natCast, Int.toNat_natCast, hm, Nat.mul_comm, Nat.testBit_mul_two_pow]
    have : ¬ k ≤ i := by omega
    simp [this]
theorem low_is {e k : Int} (h0 : 0 < e) (h1 : e < 9223372036854775808) (hk : 0 ≤ k) (hb : bit e k = true) (hl : ∀ j, 0 ≤ j → j < k → bit e j = false) : low e = k := by
  obtain ⟨a, _, c, d⟩ := low_spec h0 h1
  have h2 : ¬ k < low e := fun h => by have := d k hk h; rw [hb] at this; cases this
  have h3 : ¬ low e < k := fun h => by have := hl _ a h; rw [c] at this; cases this
  omega
theorem bit_big {e q : Int} {n : Nat} (h0 : 0 ≤ e) (h1 : e < 2 ^ n) (hq : (n : Int) ≤ q) : bit e q = false := by
  obtain ⟨x, rfl⟩ := Int.eq_ofNat_of_zero_le h0
  unfold bit
  rw [Int.toNat_natCast]
  have e2 : ((2 : Int) ^ n) = ((2 ^ n : Nat) : Int) := by simp
  exact Nat.testBit_lt_two_pow (Nat.lt_of_lt_of_le (show x < 2 ^ n from by omega) (Nat.pow_le_pow_right (by omega) (by omega)))
/-- a set below 2 ^ n without places below n is none -/
theorem set_none {e : Int} {n : Nat} (h0 : 0 ≤ e) (h1 : e < 2 ^ n) (h : ∀ j, 0 ≤ j → j < (n : Int) → bit e j = false) : e = 0 :=
  set_ext h0 (Int.le_refl 0) fun q hq => by
    rw [bit_zero_]
    by_cases hn : q < (n : Int)
    · exact h q hq hn
    · exact bit_big h0 h1 (by omega)
theorem set_sub {e : Int} {n : Nat} (h0 : 0 ≤ e) (h1 : e < 2 ^ n) {q : Int} (hb : bit e q = true) : q < (n : Int) := by
  apply Classical.byContradiction
  intro hn
  rw [bit_big h0 h1 (by omega)] at hb
  cases hb

/-- the ways of the set s join the places e -/
noncomputable def joins (ws : List Wy) (s e : Int) : Bool := if e = 0 then true else idiff e (reach ws s (low e)) == 0
theorem joins_none (ws : List Wy) (s : Int) : joins ws s 0 = true := by unfold joins; simp
theorem joins_at {ws : List Wy} {s e k : Int} (h0 : 0 ≤ e) (h1 : e < 9223372036854775808) (hk : 0 ≤ k) (hb : bit e k = true) (hl : ∀ j, 0 ≤ j → j < k → bit e j = false) : joins ws s e = (idiff e (reach ws s k) == 0) := by
  have hne : e ≠ 0 := by rintro rfl; rw [bit_zero_] at hb; cases hb
  unfold joins
  rw [if_neg hne, low_is (by omega) h1 hk hb hl]
theorem joins_iff {n : Int} {ws : List Wy} {s e : Int} (hn : NetIs n ws) (h0 : 0 ≤ e) (h1 : e < 2 ^ n.toNat) :
    joins ws s e = true ↔ ∀ p q, 0 ≤ p → 0 ≤ q → bit e p = true → bit e q = true → bit (reach ws s p) q = true := by
  have h2 := hn.lo
  have h6 := hn.hi
  have hp := pow_bd n 6 (by omega)
  by_cases he : e = 0
  · subst he
    rw [joins_none]
    refine ⟨fun _ p q _ _ hb => ?_, fun _ => rfl⟩
    rw [bit_zero_] at hb; cases hb
  · unfold joins
    rw [if_neg he]
    obtain ⟨l0, _, lb, _⟩ := low_spec (e := e) (by omega) (by omega)
    have ln : low e < n := by have := set_sub h0 h1 lb; omega
    rw [beq_iff_eq, idiff_zero h0]
    constructor
    · intro h p q hp0 hq0 hbp hbq
      have e1 := reach_back (s := s) hn l0 ln hp0 (h p hp0 hbp)
      rw [e1]; exact h q hq0 hbq
    · intro h q hq hb
      exact h _ q l0 hq lb hb

/-- how many of the first f bits are 1 -/
def popF : Nat → Nat → Nat
  | 0, _ => 0
  | f + 1, x => x % 2 + popF f (x / 2)
theorem popF_more : ∀ (f x : Nat), x < 2 ^ f → popF (f + 1) x = popF f x
  | 0, x, h => by have : x = 0 := by simp at h; exact h
                  subst this; rfl
  | f + 1, x, h => by
    show x % 2 + popF (f + 1) (x / 2) = x % 2 + popF f (x / 2)
    rw [popF_more f (x / 2) (by rw [Nat.pow_succ] at h; omega)]
theorem popF_le : ∀ (f x : Nat), popF f x ≤ f
  | 0, _ => Nat.le_refl _
  | f + 1, x => by have := popF_le f (x / 2); rw [popF]; omega
/-- how many members a set has -/
def pop (s : Int) : Int := ((popF 20 s.toNat : Nat) : Int)
theorem pop_bd (s : Int) : 0 ≤ pop s ∧ pop s ≤ 20 := by
  have := popF_le 20 s.toNat
  unfold pop; omega
theorem pop_zero : pop 0 = 0 := by decide
theorem pop_half (s : Int) (h0 : 0 ≤ s) (h1 : s < 1048576) : pop s = s % 2 + pop (s / 2) := by
  obtain ⟨x, rfl⟩ := Int.eq_ofNat_of_zero_le h0
  unfold pop
  have e1 : ((x : Int) / 2).toNat = x / 2 := by omega
  rw [e1, Int.toNat_natCast, ← popF_more 20 x (by omega), popF]
  omega
end Go.Proofs.Ythadehgpeafniaa
namespace Go.Proofs.Ythadehgpeafniaa
open Go.RowKit

theorem pop_place_all : ∀ (r : Fin 64) (j : Fin 6), r.val.testBit j.val = false → pop ((r.val ||| 2 ^ j.val : Nat) : Int) = pop (r.val : Int) + 1 := by decide +kernel
theorem pop_way_all : ∀ (u : Fin 512) (k : Fin 9), u.val.testBit k.val = false → pop ((u.val ||| 2 ^ k.val : Nat) : Int) = pop (u.val : Int) + 1 := by decide +kernel
theorem pop_less_all : ∀ (u : Fin 512) (k : Fin 9), u.val.testBit k.val = true → pop ((u.val - 2 ^ k.val : Nat) : Int) + 1 = pop (u.val : Int) := by decide +kernel
theorem pop_place {r j : Int} (r0 : 0 ≤ r) (r1 : r < 64) (j0 : 0 ≤ j) (j1 : j < 6) (h : bit r j = false) : pop (ior r (2 ^ j.toNat)) = pop r + 1 := by
  have := pop_place_all ⟨r.toNat, by omega⟩ ⟨j.toNat, by omega⟩ h
  simp only at this
  rw [Int.toNat_of_nonneg r0] at this
  rw [← this]
  unfold ior
  rw [pow_toNat]
theorem pop_add {u : Int} {k : Nat} (u0 : 0 ≤ u) (u1 : u < 512) (hk : k < 9) (h : bit u k = false) : pop (ior u (2 ^ k)) = pop u + 1 := by
  have := pop_way_all ⟨u.toNat, by omega⟩ ⟨k, hk⟩ (by simpa [bit] using h)
  simp only at this
  rw [Int.toNat_of_nonneg u0] at this
  rw [← this]
  unfold ior
  have := pow_toNat (k : Int)
  rw [Int.toNat_natCast] at this
  rw [this]
theorem pop_less {u : Int} {k : Nat} (u0 : 0 ≤ u) (u1 : u < 512) (hk : k < 9) (h : bit u k = true) : pop (u - 2 ^ k) + 1 = pop u := by
  have hb : u.toNat.testBit k = true := by simpa [bit] using h
  have := pop_less_all ⟨u.toNat, by omega⟩ ⟨k, hk⟩ hb
  simp only at this
  rw [Int.toNat_of_nonneg u0] at this
  rw [← this]
  have hge : 2 ^ k ≤ u.toNat := Nat.ge_two_pow_of_testBit hb
  have e : ((2 : Int) ^ k) = ((2 ^ k : Nat) : Int) := by simp
  have e2 : u - 2 ^ k = ((u.toNat - 2 ^ k : Nat) : Int) := by omega
  rw [e2]
theorem popF_sub : ∀ (f x y : Nat), (∀ i, x.testBit i = true → y.testBit i = true) → popF f x ≤ popF f y
  | 0, _, _, _ => Nat.le_refl _
  | f + 1, x, y, h => by
    have ih := popF_sub f (x / 2) (y / 2) (fun i hi => by
      have := h (i + 1)
      rw [Nat.testBit_succ, Nat.testBit_succ] at this
      exact this hi)
    have h0 := h 0
    rw [Nat.testBit_zero, Nat.testBit_zero] at h0
    simp only [decide_eq_true_eq] at h0
    rw [popF, popF]
    omega
theorem pop_sub {u s : Int} (h : ∀ q, 0 ≤ q → bit u q = true → bit s q = true) : pop u ≤ pop s := by
  have := popF_sub 20 u.toNat s.toNat (fun i hi => by
    have := h (i : Int) (by omega)
    simpa [bit, hi] using this)
  unfold pop; omega

/-- what is come to, and the ways by which it grew -/
structure GrownBy (ws : List Wy) (s p r u : Int) : Prop where
  on : OnWay ws s p r
  onu : OnWay ws u p r
  u0 : 0 ≤ u
  u1 : u < 512
  sub : ∀ q, 0 ≤ q → bit u q = true → bit s q = true
  ends : ∀ (k : Nat) (x : Wy), ws[k]? = some x → bit u k = true → bit r x.a = true ∧ bit r x.b = true
  cnt : pop r = pop u + 1
theorem bit_pow (k : Nat) (i : Int) (hi : 0 ≤ i) : bit (2 ^ k) i = decide (i = k) := by
  have := bit_shl (k : Int) i (by omega) hi
  rwa [Int.toNat_natCast] at this
theorem OnWay.more {ws : List Wy} {s s' p r : Int} (h : OnWay ws s p r) (hs : ∀ q, 0 ≤ q → bit s q = true → bit s' q = true) : OnWay ws s' p r :=
  ⟨h.lo, h.hi, h.has, fun T hT hc => h.least T hT fun k x hx hb => hc k x hx (hs k (by omega) hb)⟩
theorem grown_ex {n : Int} {ws : List Wy} {s p : Int} (hn : NetIs n ws) : ∀ (m : Nat) (r u : Int), (64 - r).toNat ≤ m → GrownBy ws s p r u → ∃ r' u', GrownBy ws s p r' u' ∧ Closed ws s (bit r')
  | 0, r, u, hm, h => by have := h.on.hi; omega
  | m + 1, r, u, hm, h => by
    by_cases hc : Closed ws s (bit r)
    · exact ⟨r, u, h, hc⟩
    · have hex : ∃ (k : Nat) (x : Wy), ws[k]? = some x ∧ bit s k = true ∧ bit r x.a ≠ bit r x.b := by
        apply Classical.byContradiction
        intro hno
        apply hc
        intro k x hx hb
        apply Classical.byContradiction
        intro hne
        exact hno ⟨k, x, hx, hb, hne⟩
      obtain ⟨k, x, hx, hb, hne⟩ := hex
      obtain ⟨a0, a1, b0, b1, _⟩ := hn.at_ hx
      have h6 := hn.hi
      have hl9 := hn.len
      have hk := (List.getElem?_eq_some_iff.1 hx).1
      have r0 := h.on.lo
      have r1 := h.on.hi
      have huk : bit u k = false := by
        cases hq : bit u k
        · rfl
        · obtain ⟨e1, e2⟩ := h.ends k x hx hq
          exact absurd (e1.trans e2.symm) hne
      have ht : bit r x.a = true ∨ bit r x.b = true := by
        cases h1 : bit r x.a <;> cases h2 : bit r x.b <;> simp_all
      have hon := h.on.step hn hx hb ht
      -- the one place that is new
      obtain ⟨c, c0, c6, hcf, hcr⟩ : ∃ c : Int, 0 ≤ c ∧ c < 6 ∧ bit r c = false ∧ ior r (ior (2 ^ x.a.toNat) (2 ^ x.b.toNat)) = ior r (2 ^ c.toNat) := by
        cases h1 : bit r x.a
        · have h2 : bit r x.b = true := by rcases ht with h | h; · rw [h1] at h; cases h
                                           · exact h
          refine ⟨x.a, a0, by omega, h1, set_ext hon.lo ?_ fun q hq => ?_⟩
          · unfold ior; omega
          · rw [bit_ior, bit_ior, bit_ior, bit_shl _ _ a0 hq, bit_shl _ _ b0 hq]
            by_cases hqb : q = x.b
            · rw [hqb, h2]; simp
            · simp [hqb]
        · have h2 : bit r x.b = false := by
            cases h2 : bit r x.b
            · rfl
            · exact absurd (h1.trans h2.symm) hne
          refine ⟨x.b, b0, by omega, h2, set_ext hon.lo ?_ fun q hq => ?_⟩
          · unfold ior; omega
          · rw [bit_ior, bit_ior, bit_ior, bit_shl _ _ a0 hq, bit_shl _ _ b0 hq]
            by_cases hqa : q = x.a
            · rw [hqa, h1]; simp
            · simp [hqa]
      have hpk := pow_bd (k : Int) 8 (by omega)
      rw [Int.toNat_natCast] at hpk
      have hub := ior_bd u (2 ^ k) 9 (by have := h.u1; omega) (by omega)
      have hge := ior_ge r (ior (2 ^ x.a.toNat) (2 ^ x.b.toNat)) r0
      have hnew : ior r (ior (2 ^ x.a.toNat) (2 ^ x.b.toNat)) ≠ r := by
        intro e
        rw [hcr] at e
        have : bit (ior r (2 ^ c.toNat)) c = true := by rw [bit_ior, bit_shl c c c0 c0]; simp
        rw [e, hcf] at this; cases this
      refine grown_ex hn m (ior r (ior (2 ^ x.a.toNat) (2 ^ x.b.toNat))) (ior u (2 ^ k)) (by have := hon.hi; omega) ⟨hon, (h.onu.more (s' := ior u (2 ^ k)) (fun q hq hbq => by rw [bit_ior, hbq]; rfl)).step hn hx (by rw [bit_ior, bit_pow k k (by omega)]; simp) ht, hub.1, by omega, fun q hq hbq => ?_, fun j y hy hbj => ?_, ?_⟩
      · rw [bit_ior, bit_pow k q hq] at hbq
        simp only [Bool.or_eq_true, decide_eq_true_eq] at hbq
        rcases hbq with hbq | hbq
        · exact h.sub q hq hbq
        · rw [hbq]; exact hb
      · rw [bit_ior, bit_pow k (j : Int) (by omega)] at hbj
        simp only [Bool.or_eq_true, decide_eq_true_eq] at hbj
        rcases hbj with hbj | hbj
        · obtain ⟨e1, e2⟩ := h.ends j y hy hbj
          rw [bit_ior r _ y.a, bit_ior r _ y.b, e1, e2]
          exact ⟨rfl, rfl⟩
        · have hjk : j = k := by omega
          subst hjk
          rw [hx] at hy; injection hy with hy; subst hy
          rw [bit_ior, bit_ior, bit_ior, bit_ior, bit_shl _ _ a0 a0, bit_shl _ _ b0 b0]
          simp
      · rw [hcr, pop_place r0 r1 c0 c6 hcf, pop_add h.u0 h.u1 (by omega) huk, h.cnt]
/-- from a place at most one place more is come to than there are ways -/
theorem pop_reach {n : Int} {ws : List Wy} {s p : Int} (hn : NetIs n ws) (hp : 0 ≤ p) (hp' : p < n) : pop (reach ws s p) ≤ pop s + 1 := by
  have h6 := hn.hi
  have hst : GrownBy ws s p (2 ^ p.toNat) 0 := by
    refine ⟨OnWay.start hn hp hp', OnWay.start hn hp hp', Int.le_refl _, by omega, fun q _ h => ?_, fun k x _ h => ?_, ?_⟩
    · rw [bit_zero_] at h; cases h
    · rw [bit_zero_] at h; cases h
    · have := pop_place (r := 0) (j := p) (Int.le_refl _) (by omega) hp (by omega) (bit_zero_ p)
      have e : ior 0 (2 ^ p.toNat) = 2 ^ p.toNat := by
        unfold ior
        have := pow_bd p p.toNat (Nat.le_refl _)
        simp; omega
      rw [e] at this
      exact this
  obtain ⟨r, u, hg, hc⟩ := grown_ex hn 64 _ 0 (by have := pow_bd p 5 (by omega); omega) hst
  have hr : r = reach ws s p := IsReach.eq { hg.on with closed := hc }
  have := pop_sub hg.sub
  rw [← hr, hg.cnt]; omega
/-- no way of a tree is needless -/
theorem tree_way {n : Int} {ws : List Wy} {s e : Int} (hn : NetIs n ws) (s0 : 0 ≤ s) (s1 : s < 512) (e0 : 0 ≤ e) (e1 : e < 2 ^ n.toNat) (hp : pop s = pop e - 1) {k : Nat} (hk : k < 9) (hb : bit s k = true) {a : Int} (ha : 0 ≤ a) (hae : bit e a = true) :
    joins ws (s - 2 ^ k) e = false := by
  cases hj : joins ws (s - 2 ^ k) e
  · rfl
  · exfalso
    have han : a < n := by have := set_sub e0 e1 hae; have := hn.lo; omega
    have hl := (joins_iff hn e0 e1).1 hj
    have h1 := pop_sub (u := e) (s := reach ws (s - 2 ^ k) a) (fun q hq hbq => hl a q ha hq hae hbq)
    have h2 := pop_reach (s := s - 2 ^ k) hn ha han
    have h3 := pop_less s0 s1 hk hb
    omega
end Go.Proofs.Ythadehgpeafniaa
namespace Go.Proofs.Ythadehgpeafniaa
open Go.RowKit

/-! ### who is come to -/
theorem bit_lt6 {ws : List Wy} {s p q : Int} {n : Int} (hn : NetIs n ws) (hp : 0 ≤ p) (hp' : p < n) (h : bit (reach ws s p) q = true) : q < n := by
  by_cases hq : q < 0
  · have := hn.lo; omega
  · have R := reach_is (s := s) hn hp hp'
    have := R.least (fun q => decide (q < n)) (by simpa using hp') (fun k x hx hb => by
      have := hn.at_ hx
      have h1 : x.a < n := by omega
      have h2 : x.b < n := by omega
      simp [h1, h2]) q (by omega) h
    simpa using this
theorem re_mono {n : Int} {ws : List Wy} {s t p q : Int} (hn : NetIs n ws) (hp : 0 ≤ p) (hp' : p < n) (hq : 0 ≤ q) (hs : ∀ k, 0 ≤ k → bit s k = true → bit t k = true) (h : bit (reach ws s p) q = true) : bit (reach ws t p) q = true := by
  have R := reach_is (s := s) hn hp hp'
  have R' := reach_is (s := t) hn hp hp'
  exact R.least (bit (reach ws t p)) R'.has (fun k x hx hb => R'.closed k x hx (hs k (by omega) hb)) q hq h
theorem re_sym {n : Int} {ws : List Wy} {s p q : Int} (hn : NetIs n ws) (hp : 0 ≤ p) (hp' : p < n) (hq : 0 ≤ q) (h : bit (reach ws s p) q = true) : bit (reach ws s q) p = true := by
  rw [reach_back hn hp hp' hq h]
  exact (reach_is hn hp hp').has
theorem re_trans {n : Int} {ws : List Wy} {s p q r : Int} (hn : NetIs n ws) (hp : 0 ≤ p) (hp' : p < n) (hq : 0 ≤ q) (h : bit (reach ws s p) q = true) (h' : bit (reach ws s q) r = true) : bit (reach ws s p) r = true := by
  rw [← reach_back hn hp hp' hq h]; exact h'
theorem re_way {n : Int} {ws : List Wy} {s : Int} {k : Nat} {x : Wy} (hn : NetIs n ws) (hx : ws[k]? = some x) (hb : bit s k = true) : bit (reach ws s x.a) x.b = true := by
  have hxa := hn.at_ hx
  have R := reach_is (s := s) hn hxa.1 hxa.2.1
  rw [← R.closed k x hx hb]; exact R.has
/-- if the ends of each way of s are joined by t, t joins what s does -/
theorem re_over {n : Int} {ws : List Wy} {s t p q : Int} (hn : NetIs n ws) (hp : 0 ≤ p) (hp' : p < n) (hq : 0 ≤ q) (hs : ∀ (k : Nat) (x : Wy), ws[k]? = some x → bit s k = true → bit (reach ws t x.a) x.b = true) (h : bit (reach ws s p) q = true) : bit (reach ws t p) q = true := by
  have R := reach_is (s := s) hn hp hp'
  have R' := reach_is (s := t) hn hp hp'
  refine R.least (bit (reach ws t p)) R'.has (fun k x hx hb => ?_) q hq h
  have hxa := hn.at_ hx
  have hj := hs k x hx hb
  rw [Bool.eq_iff_iff]
  exact ⟨fun h => re_trans hn hp hp' hxa.1 h hj, fun h => re_trans hn hp hp' hxa.2.2.1 h (re_sym hn hxa.1 hxa.2.1 hxa.2.2.1 hj)⟩
/-- one way more -/
theorem re_add {n : Int} {ws : List Wy} {t p q : Int} {k : Nat} {x : Wy} (hn : NetIs n ws) (hx : ws[k]? = some x) (hp : 0 ≤ p) (hp' : p < n) (hq : 0 ≤ q) (h : bit (reach ws (ior t (2 ^ k)) p) q = true) :
    bit (reach ws t p) q = true ∨ (bit (reach ws t p) x.a = true ∧ bit (reach ws t x.b) q = true) ∨ (bit (reach ws t p) x.b = true ∧ bit (reach ws t x.a) q = true) := by
  have hxa := hn.at_ hx
  have R := reach_is (s := ior t (2 ^ k)) hn hp hp'
  have Rp := reach_is (s := t) hn hp hp'
  have Ra := reach_is (s := t) hn hxa.1 hxa.2.1
  have Rb := reach_is (s := t) hn hxa.2.2.1 hxa.2.2.2.1
  have := R.least (fun q => bit (reach ws t p) q || ((bit (reach ws t p) x.a && bit (reach ws t x.b) q) || (bit (reach ws t p) x.b && bit (reach ws t x.a) q)))
    (by rw [Rp.has]; rfl) (fun j y hy hb => by
      rw [bit_ior, bit_pow k j (by omega)] at hb
      simp only [Bool.or_eq_true, decide_eq_true_eq] at hb
      rcases hb with hb | hb
      · simp only [Rp.closed j y hy hb, Ra.closed j y hy hb, Rb.closed j y hy hb]
      · have : j = k := by omega
        subst this
        rw [hx] at hy; injection hy with hy; subst hy
        simp only [Ra.has, Rb.has, Bool.and_true]
        cases bit (reach ws t p) x.a <;> cases bit (reach ws t p) x.b <;> simp) q hq h
  simpa using this

end Go.Proofs.Ythadehgpeafniaa
