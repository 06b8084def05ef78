/- Plain mathematics of nets, ways and sets of ways: no program is imported here. -/
import Derived.WalkKit
import Derived.Laws.BitsAllLaws
import Derived.Laws.BitsLemmas
import Derived.Lib.Hide
import Derived.Deep.Draws
namespace Go.Proofs.Ytnbihejoglgdhaa
open Go.RowKit

/-! ### bits -/
theorem ofInt_i64 (a : Nat) (ha : a < 9223372036854775808) : (BitVec.ofInt 64 (a : Int)).toNat = a := by
  rw [BitVec.ofInt_natCast, BitVec.toNat_ofNat]; exact Nat.mod_eq_of_lt (by omega)
theorem i64_and_nat (a b : Nat) (ha : a < 9223372036854775808) (hb : b < 9223372036854775808) : bits .and .i64 (a : Int) (b : Int) = ((a &&& b : Nat) : Int) := by
  have hx : a &&& b < 2 ^ 63 := Nat.and_lt_two_pow _ (by omega)
  show IntKind.i64.wrap ((BitVec.ofInt 64 (a : Int) &&& BitVec.ofInt 64 (b : Int)).toNat : Int) = _
  rw [BitVec.toNat_and, ofInt_i64 a ha, ofInt_i64 b hb, IntKind.wrap_i64]
  omega
theorem i64_or_nat (a b : Nat) (ha : a < 9223372036854775808) (hb : b < 9223372036854775808) : bits .or .i64 (a : Int) (b : Int) = ((a ||| b : Nat) : Int) := by
  have hx : a ||| b < 2 ^ 63 := Nat.or_lt_two_pow (by omega) (by omega)
  show IntKind.i64.wrap ((BitVec.ofInt 64 (a : Int) ||| BitVec.ofInt 64 (b : Int)).toNat : Int) = _
  rw [BitVec.toNat_or, ofInt_i64 a ha, ofInt_i64 b hb, IntKind.wrap_i64]
  omega

theorem i64_xor_nat (a b : Nat) (ha : a < 9223372036854775808) (hb : b < 9223372036854775808) : bits .xor .i64 (a : Int) (b : Int) = ((a ^^^ b : Nat) : Int) := by
  have hx : a ^^^ b < 2 ^ 63 := Nat.xor_lt_two_pow (by omega) (by omega)
  show IntKind.i64.wrap ((BitVec.ofInt 64 (a : Int) ^^^ BitVec.ofInt 64 (b : Int)).toNat : Int) = _
  rw [BitVec.toNat_xor, ofInt_i64 a ha, ofInt_i64 b hb, IntKind.wrap_i64]
  omega
theorem xor_bd (a b : Int) (ha : 0 ≤ a) (ha' : a ≤ 1000000000) (hb : 0 ≤ b) (hb' : b ≤ 1000000000) : 0 ≤ bits .xor .i64 a b ∧ bits .xor .i64 a b ≤ 1073741824 := by
  obtain ⟨x, rfl⟩ := Int.eq_ofNat_of_zero_le ha
  obtain ⟨y, rfl⟩ := Int.eq_ofNat_of_zero_le hb
  rw [i64_xor_nat x y (by omega) (by omega)]
  have hx : x ^^^ y < 2 ^ 30 := Nat.xor_lt_two_pow (by omega) (by omega)
  omega
/-- the sets of bits of numbers from 0 on: both, either -/
def iand (a b : Int) : Int := ((a.toNat &&& b.toNat : Nat) : Int)
def ior (a b : Int) : Int := ((a.toNat ||| b.toNat : Nat) : Int)
theorem bits_and (a b : Int) (ha : 0 ≤ a) (ha' : a < 9223372036854775808) (hb : 0 ≤ b) (hb' : b < 9223372036854775808) : bits .and .i64 a b = iand a b := by
  obtain ⟨x, rfl⟩ := Int.eq_ofNat_of_zero_le ha
  obtain ⟨y, rfl⟩ := Int.eq_ofNat_of_zero_le hb
  rw [i64_and_nat x y (by omega) (by omega)]; rfl
theorem bits_or (a b : Int) (ha : 0 ≤ a) (ha' : a < 9223372036854775808) (hb : 0 ≤ b) (hb' : b < 9223372036854775808) : bits .or .i64 a b = ior a b := by
  obtain ⟨x, rfl⟩ := Int.eq_ofNat_of_zero_le ha
  obtain ⟨y, rfl⟩ := Int.eq_ofNat_of_zero_le hb
  rw [i64_or_nat x y (by omega) (by omega)]; rfl
/-- bit i of the number s -/
def bit (s i : Int) : Bool := s.toNat.testBit i.toNat
theorem bit_mod (s i : Int) (h0 : 0 ≤ i) (h2 : 0 ≤ s) : (s / 2 ^ i.toNat % 2 == 1) = bit s i := by
  obtain ⟨x, rfl⟩ := Int.eq_ofNat_of_zero_le h2
  obtain ⟨k, rfl⟩ := Int.eq_ofNat_of_zero_le h0
  unfold bit
  rw [Nat.testBit_eq_decide_div_mod_eq, Int.toNat_natCast, Int.toNat_natCast]
  have e : ((x : Int) / 2 ^ k % 2) = ((x / 2 ^ k % 2 : Nat) : Int) := by simp
  rw [e, Bool.eq_iff_iff]
  simp only [beq_iff_eq, decide_eq_true_eq]
  omega
theorem bit_mod_nat (s : Int) (k : Nat) (h2 : 0 ≤ s) : (s / 2 ^ k % 2 == 1) = bit s k := by
  have := bit_mod s k (by omega) h2
  rwa [Int.toNat_natCast] at this
theorem pow_toNat (i : Int) : ((2 : Int) ^ i.toNat).toNat = 2 ^ i.toNat := by
  have : ((2 : Int) ^ i.toNat) = ((2 ^ i.toNat : Nat) : Int) := by simp
  rw [this]; rfl
theorem div_pow_bd (s : Int) (i : Nat) (h2 : 0 ≤ s) : 0 ≤ s / 2 ^ i ∧ s / 2 ^ i ≤ s := by
  obtain ⟨x, rfl⟩ := Int.eq_ofNat_of_zero_le h2
  have e : ((x : Int) / 2 ^ i) = ((x / 2 ^ i : Nat) : Int) := by simp
  rw [e]
  have := Nat.div_le_self x (2 ^ i)
  generalize x / 2 ^ i = q at *
  omega
theorem and_one (q : Int) (h0 : 0 ≤ q) (h1 : q < 9223372036854775808) : (bits .and .i64 q 1 == 1) = (q % 2 == 1) := by
  rw [bits_and q 1 h0 h1 (by omega) (by omega)]
  unfold iand
  obtain ⟨x, rfl⟩ := Int.eq_ofNat_of_zero_le h0
  have e : ((x : Int).toNat &&& (1 : Int).toNat) = x % 2 := by
    show x &&& 1 = _
    exact Nat.and_one_is_mod x
  rw [e]
  rfl
theorem bit_and (s i : Int) (h0 : 0 ≤ i) (h1 : i ≤ 62) (h2 : 0 ≤ s) (h3 : s ≤ 1073741824) : (bits .and .i64 (s / 2 ^ min i.toNat 64) 1 == 1) = bit s i := by
  rw [Nat.min_eq_left (by omega), ← bit_mod s i h0 h2]
  have := div_pow_bd s i.toNat h2
  exact and_one _ (by omega) (by omega)
theorem bit_and' (s i : Int) (h0 : 0 ≤ i) (h2 : 0 ≤ s) (h3 : s ≤ 1073741824) : (bits .and .i64 (s / 2 ^ i.toNat) 1 == 1) = bit s i := by
  rw [← bit_mod s i h0 h2]
  have := div_pow_bd s i.toNat h2
  exact and_one _ (by omega) (by omega)
theorem pow_bd (i : Int) (k : Nat) (h : i.toNat ≤ k) : (1 : Int) ≤ 2 ^ i.toNat ∧ (2 : Int) ^ i.toNat ≤ 2 ^ k := by
  have h1 : 2 ^ i.toNat ≤ 2 ^ k := Nat.pow_le_pow_right (by omega) h
  have h2 : 1 ≤ 2 ^ i.toNat := Nat.one_le_two_pow
  have e1 : ((2 : Int) ^ i.toNat) = ((2 ^ i.toNat : Nat) : Int) := by simp
  have e2 : ((2 : Int) ^ k) = ((2 ^ k : Nat) : Int) := by simp
  omega
theorem iand_bd (a b : Int) (ha : 0 ≤ a) : 0 ≤ iand a b ∧ iand a b ≤ a := by
  unfold iand
  have := @Nat.and_le_left a.toNat b.toNat
  omega
theorem iand_bd2 (a b : Int) (hb : 0 ≤ b) : 0 ≤ iand a b ∧ iand a b ≤ b := by
  unfold iand
  have := @Nat.and_le_right a.toNat b.toNat
  omega
theorem ior_bd (a b : Int) (k : Nat) (ha : a < 2 ^ k) (hb : b < 2 ^ k) : 0 ≤ ior a b ∧ ior a b < 2 ^ k := by
  unfold ior
  have e : ((2 : Int) ^ k) = ((2 ^ k : Nat) : Int) := by simp
  have hp : 1 ≤ 2 ^ k := Nat.one_le_two_pow
  have := @Nat.or_lt_two_pow a.toNat b.toNat k (by omega) (by omega)
  omega

/-! ### ways and nets -/
structure Wy where
  a : Int
  b : Int
  c : Int

def hasPl (n p : Int) : Bool := decide (0 ≤ p) && decide (p < n)
theorem hasPl_t {n p : Int} (h : hasPl n p = true) : 0 ≤ p ∧ p < n := by
  unfold hasPl at h; simpa using h
def wayOk (n : Int) (x : Wy) : Bool := hasPl n x.a && hasPl n x.b && !(x.a == x.b) && decide (0 ≤ x.c) && decide (x.c ≤ 9)
theorem wayOk_t {n : Int} {x : Wy} (h : wayOk n x = true) : 0 ≤ x.a ∧ x.a < n ∧ 0 ≤ x.b ∧ x.b < n ∧ x.a ≠ x.b ∧ 0 ≤ x.c ∧ x.c ≤ 9 := by
  unfold wayOk at h
  simp only [Bool.and_eq_true, Bool.not_eq_true', beq_eq_false_iff_ne, decide_eq_true_eq] at h
  obtain ⟨⟨⟨⟨h1, h2⟩, h3⟩, h4⟩, h5⟩ := h
  have := hasPl_t h1
  have := hasPl_t h2
  exact ⟨by omega, by omega, by omega, by omega, h3, h4, h5⟩
def netOk (n : Int) (ws : List Wy) : Bool := decide (2 ≤ n) && decide (n ≤ 6) && decide (ws.length ≤ 9) && ws.all (wayOk n)
structure NetIs (n : Int) (ws : List Wy) : Prop where
  lo : 2 ≤ n
  hi : n ≤ 6
  len : ws.length ≤ 9
  ok : ∀ x ∈ ws, 0 ≤ x.a ∧ x.a < n ∧ 0 ≤ x.b ∧ x.b < n ∧ x.a ≠ x.b ∧ 0 ≤ x.c ∧ x.c ≤ 9
theorem netOk_t {n : Int} {ws : List Wy} (h : netOk n ws = true) : NetIs n ws := by
  unfold netOk at h
  simp only [Bool.and_eq_true, decide_eq_true_eq, List.all_eq_true] at h
  exact ⟨h.1.1.1, h.1.1.2, h.1.2, fun x hx => wayOk_t (h.2 x hx)⟩
theorem NetIs.at_ {n : Int} {ws : List Wy} (h : NetIs n ws) {k : Nat} {x : Wy} (hx : ws[k]? = some x) : 0 ≤ x.a ∧ x.a < n ∧ 0 ≤ x.b ∧ x.b < n ∧ x.a ≠ x.b ∧ 0 ≤ x.c ∧ x.c ≤ 9 :=
  h.ok x (List.mem_of_getElem? hx)

/-- the number 1 << len - 1 -/
def full (len : Nat) : Int := 2 ^ len - 1
def setOk (n : Int) (ws : List Wy) (s : Int) : Bool := netOk n ws && decide (0 ≤ s) && decide (s ≤ full ws.length)
theorem full_bd (len : Nat) (h : len ≤ 9) : 0 ≤ full len ∧ full len ≤ 511 := by
  unfold full
  have := pow_bd (len : Int) 9 (by omega)
  rw [Int.toNat_natCast] at this
  omega
theorem setOk_t {n : Int} {ws : List Wy} {s : Int} (h : setOk n ws s = true) : NetIs n ws ∧ 0 ≤ s ∧ s ≤ full ws.length ∧ s ≤ 511 := by
  unfold setOk at h
  simp only [Bool.and_eq_true, decide_eq_true_eq] at h
  have hn := netOk_t h.1.1
  have := full_bd ws.length hn.len
  exact ⟨hn, h.1.2, h.2, by omega⟩

/-- what the ways of a set cost together; the first way of the list is number k -/
def costFrom : List Wy → Int → Int → Int
  | [], _, _ => 0
  | x :: ws, s, k => (if bit s k then x.c else 0) + costFrom ws s (k + 1)
def cost (ws : List Wy) (s : Int) : Int := costFrom ws s 0
theorem costFrom_snoc (x : Wy) (s : Int) : ∀ (ws : List Wy) (k : Int), costFrom (ws ++ [x]) s k = costFrom ws s k + if bit s (k + ws.length) then x.c else 0
  | [], k => by simp [costFrom]
  | y :: ws, k => by
    simp only [List.cons_append, costFrom, costFrom_snoc x s ws (k + 1), List.length_cons]
    have e : k + 1 + (ws.length : Int) = k + ((ws.length + 1 : Nat) : Int) := by omega
    rw [e]; omega
theorem cost_take (ws : List Wy) (s : Int) (k : Nat) (x : Wy) (hx : ws[k]? = some x) : cost (ws.take (k + 1)) s = cost (ws.take k) s + if bit s k then x.c else 0 := by
  unfold cost
  have hk : k < ws.length := (List.getElem?_eq_some_iff.1 hx).1
  have e : ws.take (k + 1) = ws.take k ++ [x] := by
    rw [List.take_add_one, hx]; rfl
  rw [e, costFrom_snoc]
  have e2 : ((0 : Int) + ((ws.take k).length : Int)) = (k : Int) := by rw [List.length_take]; omega
  rw [e2]
theorem costFrom_bd {n : Int} (s : Int) : ∀ (ws : List Wy), (∀ x ∈ ws, 0 ≤ x.c ∧ x.c ≤ 9) → ∀ k, 0 ≤ costFrom ws s k ∧ costFrom ws s k ≤ 9 * ws.length
  | [], _, _ => by simp [costFrom]
  | x :: ws, h, k => by
    have h1 := costFrom_bd (n := n) s ws (fun y hy => h y (List.mem_cons_of_mem _ hy)) (k + 1)
    have h2 := h x (List.mem_cons_self ..)
    simp only [costFrom, List.length_cons]
    split <;> omega
theorem cost_bd {n : Int} {ws : List Wy} (h : NetIs n ws) (s : Int) (k : Nat) : 0 ≤ cost (ws.take k) s ∧ cost (ws.take k) s ≤ 81 := by
  have := costFrom_bd (n := n) s (ws.take k) (fun x hx => by have := h.ok x (List.mem_of_mem_take hx); omega) 0
  have hl := h.len
  have : (ws.take k).length ≤ ws.length := by rw [List.length_take]; omega
  unfold cost; omega

/-! ### memory -/
/-- The slice that begins at A holds the ways ws, below block B. -/
def RW (w : World) (B : Nat) (A : Option Addr) (ws : List Wy) : Prop :=
  ∀ i x, ws[i]? = some x → ∃ b o, A = some ⟨b, o, none⟩ ∧ b < B ∧ w.cell? ⟨b, o + i * 3, none⟩ = some (.int .i64 x.a) ∧ w.cell? ⟨b, o + i * 3 + 1, none⟩ = some (.int .i64 x.b) ∧ w.cell? ⟨b, o + i * 3 + 2, none⟩ = some (.int .i64 x.c)

theorem RW.below {w w' : World} {B : Nat} {A : Option Addr} {ws : List Wy} (h : RW w B A ws) (hb : Below B w w') : RW w' B A ws := by
  intro i x hx
  obtain ⟨b, o, ha, hB, h0, h1, h2⟩ := h i x hx
  exact ⟨b, o, ha, hB, (hb.cell hB).trans h0, (hb.cell hB).trans h1, (hb.cell hB).trans h2⟩
theorem RW.more {w : World} {B B' : Nat} {A : Option Addr} {ws : List Wy} (h : RW w B A ws) (hB : B ≤ B') : RW w B' A ws := by
  intro i x hx
  obtain ⟨b, o, ha, hb, h'⟩ := h i x hx
  exact ⟨b, o, ha, by omega, h'⟩
/-- seen from a later world -/
theorem RW.later {w w' : World} {A : Option Addr} {ws : List Wy} (h : RW w w.heap.size A ws) (hb : Below w.heap.size w w') : RW w' w'.heap.size A ws := (h.below hb).more hb.size

/-- The slice that begins at A holds n bytes, below block B. -/
def RB (w : World) (B : Nat) (A : Option Addr) (n : Nat) : Prop :=
  ∀ i, i < n → ∃ b o v, A = some ⟨b, o, none⟩ ∧ b < B ∧ 0 ≤ v ∧ v < 256 ∧ w.cell? ⟨b, o + i, none⟩ = some (.int .u8 v)
theorem RB.below {w w' : World} {B : Nat} {A : Option Addr} {n : Nat} (h : RB w B A n) (hb : Below B w w') : RB w' B A n := by
  intro i hi
  obtain ⟨b, o, v, ha, hB, h0, h1, h2⟩ := h i hi
  exact ⟨b, o, v, ha, hB, h0, h1, (hb.cell hB).trans h2⟩
/-- Block g holds the reader of a code: its bytes, and how many were read. -/
structure Rdr (w : World) (t : TypeId) (g : Nat) (A : Option Addr) (n cap : Nat) (p : Int) : Prop where
  blk : w.heap[g]? = some (.cells #[.slice A n cap, .int .i64 p] t (0, 0))
  byt : RB w g A n
  len : n ≤ 2000
  lo : 0 ≤ p
theorem Rdr.cells {w : World} {t : TypeId} {g : Nat} {A : Option Addr} {n cap : Nat} {p : Int} (h : Rdr w t g A n cap p) :
    w.cell? ⟨g, 0, none⟩ = some (.slice A n cap) ∧ w.cell? ⟨g, 1, none⟩ = some (.int .i64 p) ∧ w.frozen? ⟨g, 0, none⟩ = false ∧ w.frozen? ⟨g, 1, none⟩ = false ∧ g < w.heap.size := by
  refine ⟨cell_of_row _ _ 0 _ _ (0, 0) h.blk, cell_of_row _ _ 1 _ _ (0, 0) h.blk, ?_, ?_, (Array.getElem?_eq_some_iff.1 h.blk).1⟩
  · simp [World.frozen?, h.blk]
  · simp [World.frozen?, h.blk]
/-- of the reader at g at most m bytes were read -/
def RdrE (w : World) (t : TypeId) (g : Nat) (A : Option Addr) (n cap : Nat) (m : Int) : Prop := ∃ p, p ≤ m ∧ Rdr w t g A n cap p
theorem RdrE.lt {w : World} {t : TypeId} {g : Nat} {A : Option Addr} {n cap : Nat} {m : Int} (h : RdrE w t g A n cap m) : g < w.heap.size := by
  obtain ⟨_, _, h⟩ := h; exact h.cells.2.2.2.2
theorem RdrE.more {w : World} {t : TypeId} {g : Nat} {A : Option Addr} {n cap : Nat} {m m' : Int} (h : RdrE w t g A n cap m) (hm : m ≤ m') : RdrE w t g A n cap m' := by
  obtain ⟨p, hp, h⟩ := h; exact ⟨p, by omega, h⟩
/-- block g, and what lies below it, is as it was -/
theorem RdrE.keep {w w' : World} {t : TypeId} {g : Nat} {A : Option Addr} {n cap : Nat} {m : Int} (h : RdrE w t g A n cap m) (hb : ∀ k, k ≤ g → w'.heap[k]? = w.heap[k]?) : RdrE w' t g A n cap m := by
  obtain ⟨p, hp, h⟩ := h
  refine ⟨p, hp, ⟨(hb g (Nat.le_refl _)).trans h.blk, fun i hi => ?_, h.len, h.lo⟩⟩
  obtain ⟨b, o, v, ha, hB, h0, h1, h2⟩ := h.byt i hi
  exact ⟨b, o, v, ha, hB, h0, h1, (World.cell?_of_block (w := w) (hb b (by omega))).trans h2⟩
theorem RdrE.below {w w' : World} {t : TypeId} {g : Nat} {A : Option Addr} {n cap : Nat} {m : Int} (h : RdrE w t g A n cap m) (hb : Below w.heap.size w w') : RdrE w' t g A n cap m :=
  h.keep fun k hk => hb.block k (by have := h.lt; omega)
theorem RdrE.grown {w w' : World} {t : TypeId} {g : Nat} {A : Option Addr} {n cap : Nat} {m : Int} (h : RdrE w t g A n cap m) {row : Option Nat} (hb : w.grownBy w' row) (hr : ∀ k, row = some k → g < k) : RdrE w' t g A n cap m :=
  h.keep fun k hk => hb.block k (by have := h.lt; omega) (fun e => by have := hr k e.symm; omega)
theorem only_below {a w : World} (h : Below a.heap.size a w) (row : Option Nat) : a.grownBy w row := ⟨h.os, h.tape, h.output, h.size, fun i hi _ => h.block i hi⟩
theorem only_trans {a b c : World} {row : Option Nat} (h : a.grownBy b row) (k : b.grownBy c row) : a.grownBy c row :=
  ⟨k.os.trans h.os, k.tape.trans h.tape, k.output.trans h.output, Nat.le_trans h.size k.size, fun i hi hne => (k.block i (Nat.lt_of_lt_of_le hi h.size) hne).trans (h.block i hi hne)⟩
theorem only_new {a b c : World} {row row' : Option Nat} (h : a.grownBy b row) (k : b.grownBy c row') (hn : ∀ i, row' = some i → a.heap.size ≤ i) : a.grownBy c row :=
  ⟨k.os.trans h.os, k.tape.trans h.tape, k.output.trans h.output, Nat.le_trans h.size k.size, fun i hi hne => (k.block i (Nat.lt_of_lt_of_le hi h.size) (fun e => by have := hn i e.symm; omega)).trans (h.block i hi hne)⟩
theorem only_alloc {a w : World} {row : Option Nat} (h : a.grownBy w row) (o : Obj) : a.grownBy (w.alloc o) row :=
  ⟨h.os, h.tape, h.output, Nat.le_trans h.size (by simp), fun i hi hne => (Below.heap_alloc w o i (Nat.lt_of_lt_of_le hi h.size)).trans (h.block i hi hne)⟩
theorem only_drew {a w : World} {row : Option Nat} (h : a.grownBy w row) : a.grownBy w.drew row := ⟨h.os, h.tape, h.output, h.size, h.block⟩
theorem only_drewN {a w : World} {row : Option Nat} (h : a.grownBy w row) (n : Nat) : a.grownBy (w.drewN n) row := ⟨h.os, h.tape, h.output, h.size, h.block⟩
theorem only_setCell {a w : World} {row : Option Nat} (h : a.grownBy w row) {p : Addr} (hp : row = some p.block ∨ a.heap.size ≤ p.block) (u : Value) : a.grownBy (w.setCell p u) row :=
  ⟨h.os, h.tape, h.output, by simpa [World.setCell] using h.size, fun i hi hne => (Below.heap_setCell w p u i (by
    rintro rfl
    rcases hp with hp | hp
    · exact hne hp.symm
    · omega)).trans (h.block i hi hne)⟩
theorem bcell {W w1 : World} (hb : Below W.heap.size W w1) : (∀ b o, b < W.heap.size → w1.cell? ⟨b, o, none⟩ = W.cell? ⟨b, o, none⟩) ∧ (∀ b o, b < W.heap.size → w1.frozen? ⟨b, o, none⟩ = W.frozen? ⟨b, o, none⟩) :=
  ⟨fun b o h => hb.cell (p := ⟨b, o, none⟩) h, fun b o h => hb.frozen (p := ⟨b, o, none⟩) h⟩
/-- a struct of two cells that the call boxed at its beginning -/
theorem box2 {w wr : World} {v0 v1 : Value} {t : TypeId} (h : Below (w.heap.size + 1) (w.alloc (.cells #[v0, v1] t)) wr) :
    Below w.heap.size w wr ∧ wr.cell? ⟨w.heap.size, 0, none⟩ = some v0 ∧ wr.cell? ⟨w.heap.size, 1, none⟩ = some v1 ∧ w.heap.size < wr.heap.size := by
  have hs := h.size
  simp only [World.size_alloc] at hs
  refine ⟨((Below.refl _ _).alloc (Nat.le_refl _) _).trans (h.mono (by omega)), ?_, ?_, by omega⟩
  · rw [h.cell (p := ⟨w.heap.size, 0, none⟩) (by simp)]
    exact cell_of_row _ _ 0 _ _ (0, 0) (heap_alloc_new w _)
  · rw [h.cell (p := ⟨w.heap.size, 1, none⟩) (by simp)]
    exact cell_of_row _ _ 1 _ _ (0, 0) (heap_alloc_new w _)
/-- one step more, behind a call -/
theorem bstep {B : Nat} {W w w1 : World} (h : Below B W w) (hB : B ≤ w.heap.size) (h1 : Below w.heap.size w w1) : Below B W w1 := h.trans (h1.mono hB)
theorem ret_int {k : IntKind} {a b : Int} (h : a = b) : Ending.returned (.int k a) = .returned (.int k b) := by rw [h]
theorem ret_bool {a b : Bool} (h : a = b) : Ending.returned (.bool a) = .returned (.bool b) := by rw [h]
end Go.Proofs.Ytnbihejoglgdhaa
