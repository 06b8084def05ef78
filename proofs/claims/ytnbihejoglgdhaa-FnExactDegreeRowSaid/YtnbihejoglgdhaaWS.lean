/- ReachOf of the model. -/
import Derived.Test.YtnbihejoglgdhaaWR
set_option linter.unusedSimpArgs false
set_option linter.unusedVariables false
namespace Go.Proofs.Ytnbihejoglgdhaa
open Go.ChangeShapes Go.WideShapes Go.ChangeAt Go.RowKit

theorem bit_one {s i : Int} (h0 : 0 ≤ i) (h2 : 0 ≤ s) (h : bit s i = true) : s / 2 ^ i.toNat % 2 = 1 ∧ (s / 2 ^ i.toNat).tmod 2 = 1 := by
  have := bit_mod s i h0 h2
  rw [h] at this
  have e : s / 2 ^ i.toNat % 2 = 1 := by simpa using this
  exact ⟨e, by rw [Int.tmod_eq_emod_of_nonneg (div_pow_bd s i.toNat h2).1]; exact e⟩
theorem bit_zero {s i : Int} (h0 : 0 ≤ i) (h2 : 0 ≤ s) (h : bit s i = false) : s / 2 ^ i.toNat % 2 = 0 ∧ (s / 2 ^ i.toNat).tmod 2 = 0 := by
  have := bit_mod s i h0 h2
  rw [h] at this
  have e : s / 2 ^ i.toNat % 2 ≠ 1 := by simpa using this
  have e' : s / 2 ^ i.toNat % 2 = 0 := by omega
  exact ⟨e', by rw [Int.tmod_eq_emod_of_nonneg (div_pow_bd s i.toNat h2).1]; exact e'⟩
def boolN : Value → Nat
  | .bool true => 1
  | _ => 0
/-- after k ways of a round that began with r0 -/
def Inner (ws : List Wy) (s p r0 : Int) (k : Nat) (r : Int) (ag : Bool) : Prop :=
  OnWay ws s p r ∧ (ag = false → r = r0 ∧ ∀ (j : Nat) (x : Wy), j < k → ws[j]? = some x → bit s j = true → bit r x.a = bit r x.b) ∧ (ag = true → r0 < r)
theorem Inner.start {ws : List Wy} {s p r0 : Int} (h : OnWay ws s p r0) : Inner ws s p r0 0 r0 false := ⟨h, fun _ => ⟨rfl, fun j x hj => by omega⟩, fun h => by cases h⟩
theorem Inner.pass {ws : List Wy} {s p r0 r : Int} {k : Nat} {ag : Bool} (h : Inner ws s p r0 k r ag) {x : Wy} (hx : ws[k]? = some x) (hc : bit s k = true → bit r x.a = bit r x.b) : Inner ws s p r0 (k + 1) r ag :=
  ⟨h.1, fun ha => ⟨(h.2.1 ha).1, fun j y hj hy hb => by
    by_cases hjk : j = k
    · subst hjk; rw [hx] at hy; injection hy with hy; subst hy; exact hc hb
    · exact (h.2.1 ha).2 j y (by omega) hy hb⟩, h.2.2⟩
theorem ior_ne {r a b : Int} (hr : 0 ≤ r) (ha : 0 ≤ a) (hb : 0 ≤ b) (h : bit r a ≠ bit r b) : ior r (ior (2 ^ a.toNat) (2 ^ b.toNat)) ≠ r := by
  intro e
  have h1 : bit (ior r (ior (2 ^ a.toNat) (2 ^ b.toNat))) a = true := by rw [bit_ior, bit_ior, bit_shl a a ha ha]; simp
  have h2 : bit (ior r (ior (2 ^ a.toNat) (2 ^ b.toNat))) b = true := by rw [bit_ior, bit_ior, bit_shl b b hb hb]; simp
  rw [e] at h1 h2
  exact h (h1.trans h2.symm)
theorem Inner.take {n : Int} {ws : List Wy} {s p r0 r : Int} {k : Nat} {ag : Bool} (hn : NetIs n ws) (h : Inner ws s p r0 k r ag) {x : Wy} (hx : ws[k]? = some x) (hb : bit s k = true) (hd : bit r x.a ≠ bit r x.b) :
    Inner ws s p r0 (k + 1) (ior r (wayPl x)) true := by
  obtain ⟨a0, _, b0, _⟩ := hn.at_ hx
  have ht : bit r x.a = true ∨ bit r x.b = true := by
    cases h1 : bit r x.a <;> cases h2 : bit r x.b <;> simp_all
  have hge := ior_ge r (wayPl x) h.1.lo
  have hne := ior_ne h.1.lo a0 b0 hd
  refine ⟨h.1.step hn hx hb ht, (fun hh => by cases hh), fun _ => ?_⟩
  rw [wayPl_is] at *
  cases ag
  · have := (h.2.1 rfl).1; omega
  · have := h.2.2 rfl; omega
theorem ior_assoc' (a b c : Int) : ior (ior a b) c = ior a (ior b c) := by
  unfold ior
  simp only [Int.toNat_natCast]
  rw [Nat.or_assoc]
theorem or_shl' (m : Int) (x : Wy) (h0 : 0 ≤ m) (h1 : m < 64) (ha0 : 0 ≤ x.a) (ha1 : x.a ≤ 5) (hb0 : 0 ≤ x.b) (hb1 : x.b ≤ 5) :
    bits .or .i64 (bits .or .i64 m (wrap64 (2 ^ x.a.toNat))) (wrap64 (2 ^ x.b.toNat)) = ior m (wayPl x) := by
  rw [wrap_shl1 _ ha1, wrap_shl1 _ hb1]
  have sa := shl1_bd x.a ha1
  have sb := shl1_bd x.b hb1
  have e3 := ior_bd m (shl1 x.a) 6 (by omega) (by omega)
  rw [bits_or m _ (by omega) (by omega) (by omega) (by omega), bits_or _ _ (by omega) (by omega) (by omega) (by omega), ior_assoc']
  rfl

set_option maxHeartbeats 2000000 in
theorem l1Reach_any (n s p : Int) (A : Option Addr) (cap : Nat) (ws : List Wy) (w : World) (hr : RW w w.heap.size A ws) (hn : NetIs n ws) (h2 : 0 ≤ s) (h3 : s ≤ 1048576) (hp : 0 ≤ p) (hp' : p < n) :
    Calls Try.prog 43 #[.agg #[.int .i64 n, .slice A ws.length cap], .int .i64 s, .int .i64 p] w fun e w' => e = .returned (.int .i64 (reach ws s p)) ∧ Below w.heap.size w w' := by
  have HR := Lib.hid hr
  have HS := Lib.hid hn
  have h6 := hn.hi
  have hm := hn.len
  have hpw := pow_bd p 5 (by omega)
  have HST := Lib.hid (OnWay.start (s := s) hn hp hp')
  clear hr hn
  go_enter Try.func43, Try.ntmps43
  go_wp2_with fail
  go_loopw [7, 8] (fun c ag wr => ∃ (r : Int) (a : Bool), c = .int .i64 r ∧ ag = .bool a ∧ OnWay ws s p r ∧ (a = false → Closed ws s (bit r)) ∧ Below (w.heap.size + 1) (w.alloc (.cells #[.int .i64 n, .slice A ws.length cap] 25)) wr) (fun c ag _ => (64 - intOf c).toNat * 2 + boolN ag)
  case atStart => exact ⟨_, true, rfl, rfl, HST.out, (fun h => by cases h), Below.refl _ _⟩
  case round =>
    obtain ⟨r0, a, rfl, rfl, hon, hcl, hb⟩ := hrel
    have hr0 := hon.lo
    have hr1 := hon.hi
    have HO := Lib.hid hon
    have HC := Lib.hid hcl
    have HB0 := Lib.hid hb
    obtain ⟨hb1, b0, b1, hz⟩ := box2 hb
    clear hon hcl hb
    cases a
    · go_wp2_with fail
      go_ret
      exact ⟨ret_int (IsReach.eq { HO.out with closed := by first | exact HC.out rfl | exact HC.out trivial }), hb1⟩
    · clear hb1
      obtain ⟨wo, rfl⟩ : ∃ wo : World, wo = wr := ⟨_, rfl⟩
      go_wp2_with fail
      go_loopw [7, 8, 9] (fun c ag i wr => ∃ (k : Nat) (r : Int) (a : Bool), k ≤ ws.length ∧ i = .int .i64 k ∧ c = .int .i64 r ∧ ag = .bool a ∧ Inner ws s p r0 k r a ∧ Below (w.heap.size + 1) (w.alloc (.cells #[.int .i64 n, .slice A ws.length cap] 25)) wr) (fun _ _ i _ => ws.length - (intOf i).toNat)
      case atStart => exact ⟨0, r0, false, Nat.zero_le _, rfl, rfl, rfl, Inner.start HO.out, HB0.out⟩
      case round =>
        obtain ⟨k, r, a, hk, rfl, rfl, rfl, hin, hb⟩ := hrel
        obtain ⟨hb1, b0, b1, hz⟩ := box2 hb
        have hv0 := hin.1.lo
        have hv1 := hin.1.hi
        have HI := Lib.hid hin
        have HBK := Lib.hid hb
        by_cases hlt : k < ws.length
        · obtain ⟨x, hx⟩ : ∃ x, ws[k]? = some x := ⟨_, List.getElem?_eq_getElem hlt⟩
          obtain ⟨b, o, rfl, hB, c0, c1, c2⟩ := HR.out.below hb1 k x hx
          have HX := Lib.hid hx
          have hxa := HS.out.at_ hx
          have ha0 : 0 ≤ x.a := by omega
          have ha1 : x.a ≤ 5 := by omega
          have hb0' : 0 ≤ x.b := by omega
          have hb5 : x.b ≤ 5 := by omega
          have hq0 : 0 ≤ s / 2 ^ k := (div_pow_bd s k h2).1
          have hqa : 0 ≤ r / 2 ^ x.a.toNat := (div_pow_bd r x.a.toNat hv0).1
          have hqb : 0 ≤ r / 2 ^ x.b.toNat := (div_pow_bd r x.b.toNat hv0).1
          have hq1 : (s / 2 ^ k % 2 == 1) = bit s k := bit_mod_nat s k h2
          clear hin hb hx hxa hb1
          cases hbit : bit s k
          · rw [hbit] at hq1
            have HY := Lib.hid (HI.out.pass HX.out (fun h => by rw [hbit] at h; cases h))
            clear hbit
            go_wp2_with fail
            go_quiet (fail)
            go_wp2_with fail
            go_roundw
            case rel => exact ⟨k + 1, r, a, by omega, by go_num, rfl, rfl, HY.out, by have := HBK.out; exact below_drewN (by go_grown) _⟩
            case measure => simp [intOf]; omega
          · rw [hbit] at hq1
            by_cases hd : bit r x.a = bit r x.b
            · have HY := Lib.hid (HI.out.pass HX.out (fun _ => hd))
              have hsame : r / 2 ^ x.a.toNat % 2 = r / 2 ^ x.b.toNat % 2 ∧ (r / 2 ^ x.a.toNat).tmod 2 = (r / 2 ^ x.b.toNat).tmod 2 := by
                cases h1 : bit r x.a
                · have h1' := bit_zero ha0 hv0 h1
                  have h2' := bit_zero hb0' hv0 (hd ▸ h1)
                  exact ⟨h1'.1.trans h2'.1.symm, h1'.2.trans h2'.2.symm⟩
                · have h1' := bit_one ha0 hv0 h1
                  have h2' := bit_one hb0' hv0 (hd ▸ h1)
                  exact ⟨h1'.1.trans h2'.1.symm, h1'.2.trans h2'.2.symm⟩
              obtain ⟨hsm, hst⟩ := hsame
              clear hbit hd
              go_wp2_with fail
              go_quiet (fail)
              go_wp2_with fail
              go_roundw
              case rel => exact ⟨k + 1, r, a, by omega, by go_num, rfl, rfl, HY.out, by have := HBK.out; exact below_drewN (by go_grown) _⟩
              case measure => simp [intOf]; omega
            · have HY := Lib.hid (HI.out.take HS.out HX.out hbit hd)
              have hor := Lib.hid (or_shl' r x hv0 hv1 ha0 ha1 hb0' hb5)
              have hdiff : ((r / 2 ^ x.a.toNat).tmod 2 != (r / 2 ^ x.b.toNat).tmod 2) = true ∧ (r / 2 ^ x.a.toNat % 2 != r / 2 ^ x.b.toNat % 2) = true := by
                cases h1 : bit r x.a
                · have h1' := bit_zero ha0 hv0 h1
                  have h2' := bit_one hb0' hv0 (by cases h3 : bit r x.b; · exact absurd (h1.trans h3.symm) hd
                                                   · rfl)
                  rw [h1'.1, h1'.2, h2'.1, h2'.2]; exact ⟨rfl, rfl⟩
                · have h1' := bit_one ha0 hv0 h1
                  have h2' := bit_zero hb0' hv0 (by cases h3 : bit r x.b; · rfl
                                                    · exact absurd (h1.trans h3.symm) hd)
                  rw [h1'.1, h1'.2, h2'.1, h2'.2]; exact ⟨rfl, rfl⟩
              obtain ⟨hdt, hdm⟩ := hdiff
              clear hbit hd
              go_wp2_with fail
              go_quiet (fail)
              go_wp2_with fail
              go_quiet (fail)
              go_wp2_with fail
              go_roundw
              case rel => exact ⟨k + 1, _, true, by omega, by go_num, by rw [hor.out], rfl, HY.out, by have := HBK.out; exact below_drewN (by go_grown) _⟩
              case measure => simp [intOf]; omega
        · have hkl : k = ws.length := by omega
          subst hkl
          clear hin hb hb1
          go_wp2_with fail
          go_roundw
          case rel => exact ⟨r, a, rfl, rfl, HI.out.1, (fun ha j x hx hb => (HI.out.2.1 ha).2 j x (List.getElem?_eq_some_iff.1 hx).1 hx hb), HBK.out⟩
          case measure =>
            have h1 := HI.out.2.1
            have h3 := HI.out.2.2
            cases a
            · have := (h1 rfl).1
              simp [intOf, boolN]; omega
            · have := h3 rfl
              simp [intOf, boolN]; omega

end Go.Proofs.Ytnbihejoglgdhaa
