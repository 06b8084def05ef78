/- NodesOf, of the program and of its model. LeavesOf, of the program and of its model. ReachOf, of the program and of its model. ReachOf of the model. -/
import Derived.Test.YthadehgpeafniaaWC
import Derived.Test.YthadehgpeafniaaMA
set_option linter.unusedSimpArgs false
set_option linter.unusedVariables false
namespace Go.Proofs.Ythadehgpeafniaa
open Go.ChangeShapes Go.WideShapes Go.ChangeAt Go.RowKit

theorem full_wrap (len : Nat) (h : len ≤ 20) : wrap64 (wrap64 (2 ^ len) - 1) = full len := by
  have hp := pow_bd (len : Int) 20 (by omega)
  rw [Int.toNat_natCast] at hp
  have e1 : wrap64 (2 ^ len) = 2 ^ len := IntWalk.wrap64_in _ ⟨by omega, by omega⟩
  rw [e1]
  exact IntWalk.wrap64_in _ ⟨by omega, by omega⟩

end Go.Proofs.Ythadehgpeafniaa
namespace Go.Proofs.Ythadehgpeafniaa
open Go.ChangeShapes Go.WideShapes Go.ChangeAt Go.RowKit

/-- the places of the first k ways, as far as they are of the set -/
def nodesTo (ws : List Wy) (s : Int) : Nat → Int
  | 0 => 0
  | k + 1 => match ws[k]? with
    | some x => if bit s k then ior (nodesTo ws s k) (wayPl x) else nodesTo ws s k
    | none => nodesTo ws s k
theorem nodesTo_yes {ws : List Wy} {s : Int} {k : Nat} {x : Wy} (hx : ws[k]? = some x) (hb : bit s k = true) : nodesTo ws s (k + 1) = ior (nodesTo ws s k) (wayPl x) := by
  simp only [nodesTo, hx, hb, if_true]
theorem nodesTo_no {ws : List Wy} {s : Int} {k : Nat} {x : Wy} (hx : ws[k]? = some x) (hb : bit s k = false) : nodesTo ws s (k + 1) = nodesTo ws s k := by
  simp [nodesTo, hx, hb]
theorem wayPl_bd {n : Int} {ws : List Wy} (hn : NetIs n ws) {x : Wy} {k : Nat} (hx : ws[k]? = some x) : 0 ≤ wayPl x ∧ wayPl x < 64 := by
  have h := hn.at_ hx
  have hh := hn.hi
  have ha := shl1_bd x.a (by omega)
  have hb := shl1_bd x.b (by omega)
  exact ior_bd _ _ 6 (by omega) (by omega)
theorem nodesTo_bd {n : Int} {ws : List Wy} (hn : NetIs n ws) (s : Int) : ∀ k, 0 ≤ nodesTo ws s k ∧ nodesTo ws s k < 64
  | 0 => by simp [nodesTo]
  | k + 1 => by
    have ih := nodesTo_bd hn s k
    cases hx : ws[k]? with
    | none => simp only [nodesTo, hx]; exact ih
    | some x =>
      cases hb : bit s k
      · rw [nodesTo_no hx hb]; exact ih
      · rw [nodesTo_yes hx hb]
        have := wayPl_bd hn hx
        exact ior_bd _ _ 6 (by omega) (by omega)
def nodesOf (n : Int) (ws : List Wy) (s : Int) : Int := if setOk n ws s = true then nodesTo ws s ws.length else -1

theorem ior_assoc (a b c : Int) : ior (ior a b) c = ior a (ior b c) := by
  unfold ior
  simp only [Int.toNat_natCast]
  rw [Nat.or_assoc]

theorem or_shl (m : Int) (x : Wy) (h0 : 0 ≤ m) (h1 : m < 64) (ha0 : 0 ≤ x.a) (ha1 : x.a ≤ 5) (hb0 : 0 ≤ x.b) (hb1 : x.b ≤ 5) :
    bits .or .i64 (bits .or .i64 m (wrap64 (2 ^ x.a.toNat))) (wrap64 (2 ^ x.b.toNat)) = ior m (wayPl x) := by
  rw [wrap_shl1 _ ha1, wrap_shl1 _ hb1]
  have sa := shl1_bd x.a ha1
  have sb := shl1_bd x.b hb1
  have e3 := ior_bd m (shl1 x.a) 6 (by omega) (by omega)
  rw [bits_or m _ (by omega) (by omega) (by omega) (by omega), bits_or _ _ (by omega) (by omega) (by omega) (by omega), ior_assoc]
  rfl


end Go.Proofs.Ythadehgpeafniaa
namespace Go.Proofs.Ythadehgpeafniaa
open Go.ChangeShapes Go.WideShapes Go.ChangeAt Go.RowKit

/-- the places of the first k ways, as far as they are of the set, and those that are met again -/
def lvTo (ws : List Wy) (s : Int) : Nat → Int × Int
  | 0 => (0, 0)
  | k + 1 => match ws[k]? with
    | some x => if bit s k then (ior (lvTo ws s k).1 (wayPl x), ior (lvTo ws s k).2 (iand (lvTo ws s k).1 (wayPl x))) else lvTo ws s k
    | none => lvTo ws s k
theorem lvTo_yes {ws : List Wy} {s : Int} {k : Nat} {x : Wy} (hx : ws[k]? = some x) (hb : bit s k = true) :
    (lvTo ws s (k + 1)).1 = ior (lvTo ws s k).1 (wayPl x) ∧ (lvTo ws s (k + 1)).2 = ior (lvTo ws s k).2 (iand (lvTo ws s k).1 (wayPl x)) := by
  simp only [lvTo, hx, hb, if_true]; exact ⟨trivial, trivial⟩
theorem lvTo_no {ws : List Wy} {s : Int} {k : Nat} {x : Wy} (hx : ws[k]? = some x) (hb : bit s k = false) : lvTo ws s (k + 1) = lvTo ws s k := by
  simp [lvTo, hx, hb]
theorem lvTo_bd {n : Int} {ws : List Wy} (hn : NetIs n ws) (s : Int) : ∀ k, (0 ≤ (lvTo ws s k).1 ∧ (lvTo ws s k).1 < 64) ∧ (0 ≤ (lvTo ws s k).2 ∧ (lvTo ws s k).2 < 64)
  | 0 => by simp [lvTo]
  | k + 1 => by
    have ih := lvTo_bd hn s k
    cases hx : ws[k]? with
    | none => simp only [lvTo, hx]; exact ih
    | some x =>
      cases hb : bit s k
      · rw [lvTo_no hx hb]; exact ih
      · rw [(lvTo_yes hx hb).1, (lvTo_yes hx hb).2]
        have hw := wayPl_bd hn hx
        have ha := iand_bd (lvTo ws s k).1 (wayPl x) ih.1.1
        exact ⟨ior_bd _ _ 6 (by omega) (by omega), ior_bd _ _ 6 (by omega) (by omega)⟩
/-- the places with just one way -/
def lvs (ws : List Wy) (s : Int) : Int := idiff (lvTo ws s ws.length).1 (lvTo ws s ws.length).2
def leavesOf (n : Int) (ws : List Wy) (s : Int) : Int := if setOk n ws s = true then lvs ws s else -1


theorem two_shl (x : Wy) (ha0 : 0 ≤ x.a) (ha1 : x.a ≤ 5) (hb0 : 0 ≤ x.b) (hb1 : x.b ≤ 5) :
    bits .or .i64 (wrap64 (2 ^ x.a.toNat)) (wrap64 (2 ^ x.b.toNat)) = wayPl x := by
  rw [wrap_shl1 _ ha1, wrap_shl1 _ hb1]
  have sa := shl1_bd x.a ha1
  have sb := shl1_bd x.b hb1
  exact bits_or _ _ (by omega) (by omega) (by omega) (by omega)


end Go.Proofs.Ythadehgpeafniaa
namespace Go.Proofs.Ythadehgpeafniaa
open Go.ChangeShapes Go.WideShapes Go.ChangeAt Go.RowKit

theorem wayPl_is (x : Wy) : wayPl x = ior (2 ^ x.a.toNat) (2 ^ x.b.toNat) := rfl
theorem wayPl_bd6 {n : Int} {ws : List Wy} (hn : NetIs n ws) {x : Wy} {k : Nat} (hx : ws[k]? = some x) : 0 ≤ wayPl x ∧ wayPl x < 64 := by
  have h := hn.at_ hx
  have hh := hn.hi
  have ha := shl1_bd x.a (by omega)
  have hb := shl1_bd x.b (by omega)
  exact ior_bd _ _ 6 (by omega) (by omega)

set_option maxHeartbeats 1000000 in
theorem wave_any (n s p r : Int) (A : Option Addr) (cap : Nat) (ws : List Wy) (w : World) (hr : RW w w.heap.size A ws) (hn : NetIs n ws) (h2 : 0 ≤ s) (h3 : s ≤ 1048576) (ho : OnWay ws s p r) :
    Calls Try.prog 66 #[.agg #[.int .i64 n, .slice A ws.length cap], .int .i64 s, .int .i64 r] w fun e w' => e = .returned (.int .i64 (waveTo ws s r ws.length)) ∧ Below w.heap.size w w' := by
  have HR := Lib.hid hr
  have HS := Lib.hid hn
  have HO := Lib.hid ho
  have hm := hn.len
  clear hr hn ho
  go_enter Try.func66, Try.ntmps66
  go_wp2_with fail
  go_loopw [2, 12] (fun c i wr => ∃ k : Nat, k ≤ ws.length ∧ i = .int .i64 k ∧ c = .int .i64 (waveTo ws s r k) ∧ Below w.heap.size w wr ∧ w.heap.size < wr.heap.size) (fun _ i _ => ws.length - (intOf i).toNat)
  case atStart => exact ⟨0, Nat.zero_le _, rfl, rfl, by go_grown, by simp⟩
  case round =>
    obtain ⟨k, hk, rfl, rfl, hb, hz⟩ := hrel
    by_cases hlt : k < ws.length
    · obtain ⟨x, hx⟩ : ∃ x, ws[k]? = some x := ⟨_, List.getElem?_eq_getElem hlt⟩
      obtain ⟨b, o, rfl, hB, c0, c1, c2⟩ := HR.out.below hb k x hx
      have HX := Lib.hid hx
      have hok := (waveTo_ok HS.out HO.out k).1
      have hv0 := hok.lo
      have hv1 := hok.hi
      have hbx := wayPl_bd6 HS.out hx
      have hxa := HS.out.at_ hx
      have h6 := HS.out.hi
      have ha0 : 0 ≤ x.a := by omega
      have ha1 : x.a ≤ 5 := by omega
      have hb0 : 0 ≤ x.b := by omega
      have hb1 : x.b ≤ 5 := by omega
      have HB0 := Lib.hid hb
      clear hx hb hxa hok
      cases hbit : bit s k
      · have HY := Lib.hid (waveTo_no (r := r) HX.out (by rw [hbit]; simp))
        have Hbit := Lib.hid hbit
        clear hbit
        go_wp2_with fail
        refine (inSet_any _ _ (by omega) (by omega) h2 h3 _).mono ?_; rintro e w' ⟨rfl, rfl⟩; rw [Hbit.out]
        go_wp2_with fail
        go_roundw
        case rel => exact ⟨k + 1, by omega, by go_num, by rw [HY.out], by have := HB0.out; go_grown, by go_size⟩
        case measure => simp [intOf]; omega
      · have HA := Lib.hid (bits_and (wayPl x) (waveTo ws s r k) (by omega) (by omega) (by omega) (by omega))
        have Hbit := Lib.hid hbit
        by_cases hi : iand (wayPl x) (waveTo ws s r k) = 0
        · have HY := Lib.hid (waveTo_no (r := r) HX.out (by rw [← wayPl_is]; intro hh; exact hh.2 hi))
          have HT : Hid ((bits .and .i64 (wayPl x) (waveTo ws s r k) != 0) = false) := by
            show (bits .and .i64 (wayPl x) (waveTo ws s r k) != 0) = false
            rw [HA.out, hi]; rfl
          clear hbit hi
          go_wp2_with fail
          refine (inSet_any _ _ (by omega) (by omega) h2 h3 _).mono ?_; rintro e w' ⟨rfl, rfl⟩; rw [Hbit.out]
          go_wp2_with fail
          refine (wayPlaces_any x ha0 ha1 hb0 hb1 _).mono ?_; rintro e w2 ⟨rfl, hb2⟩
          have hz2 : w.heap.size < w2.heap.size := by have hq := hb2.size; simp at hq; omega
          have HB2 := Lib.hid (bstep (B := w.heap.size) (W := w) (by have := HB0.out; go_grown) (by go_size) hb2)
          have ht := HT.out
          clear hb2
          go_wp2_with fail
          go_roundw
          case rel => exact ⟨k + 1, by omega, by go_num, by rw [HY.out], HB2.out, hz2⟩
          case measure => simp [intOf]; omega
        · have HY := Lib.hid (waveTo_yes (r := r) HX.out hbit (by rw [← wayPl_is]; exact hi))
          have HT : Hid ((bits .and .i64 (wayPl x) (waveTo ws s r k) != 0) = true) := by
            show (bits .and .i64 (wayPl x) (waveTo ws s r k) != 0) = true
            rw [HA.out]; simp [hi]
          have HO2 := Lib.hid (bits_or (waveTo ws s r k) (wayPl x) (by omega) (by omega) (by omega) (by omega))
          clear hbit hi
          go_wp2_with fail
          refine (inSet_any _ _ (by omega) (by omega) h2 h3 _).mono ?_; rintro e w' ⟨rfl, rfl⟩; rw [Hbit.out]
          go_wp2_with fail
          refine (wayPlaces_any x ha0 ha1 hb0 hb1 _).mono ?_; rintro e w2 ⟨rfl, hb2⟩
          have hz2 : w.heap.size < w2.heap.size := by have hq := hb2.size; simp at hq; omega
          have hz2r : wr.heap.size < w2.heap.size := by have hq := hb2.size; simp at hq; omega
          obtain ⟨hc2, hf2⟩ := bcell hb2
          have HB2 := Lib.hid (bstep (B := w.heap.size) (W := w) (by have := HB0.out; go_grown) (by go_size) hb2)
          have ht := HT.out
          clear hb2
          go_wp2_with fail
          refine (wayPlaces_any x ha0 ha1 hb0 hb1 _).mono ?_; rintro e w3 ⟨rfl, hb3⟩
          have hz3 : w.heap.size < w3.heap.size := by have hq := hb3.size; omega
          have HB3 := Lib.hid (bstep (B := w.heap.size) (W := w) HB2.out (by omega) hb3)
          clear hb3 hc2 hf2
          go_wp2_with fail
          go_roundw
          case rel => exact ⟨k + 1, by omega, by go_num, by rw [HY.out, HO2.out, wayPl_is], HB3.out, hz3⟩
          case measure => simp [intOf]; omega
    · have hkl : k = ws.length := by omega
      subst hkl
      go_wp2_with fail
      go_ret
      exact ⟨rfl, hb⟩

set_option maxHeartbeats 1000000 in
theorem setReach_any (n s p : Int) (A : Option Addr) (cap : Nat) (ws : List Wy) (w : World) (hr : RW w w.heap.size A ws) (hn : NetIs n ws) (h2 : 0 ≤ s) (h3 : s ≤ 1048576) (hp : 0 ≤ p) (hp' : p < n) :
    Calls Try.prog 55 #[.agg #[.int .i64 n, .slice A ws.length cap], .int .i64 s, .int .i64 p] w fun e w' => e = .returned (.int .i64 (reach ws s p)) ∧ Below w.heap.size w w' := by
  have HR := Lib.hid hr
  have HS := Lib.hid hn
  have h6 := hn.hi
  have hpw := pow_bd p 5 (by omega)
  have HST := Lib.hid (OnWay.start (s := s) hn hp hp')
  clear hr hn
  go_enter Try.func55, Try.ntmps55
  go_wp2_with fail
  go_loopw [7] (fun c wr => ∃ r : Int, c = .int .i64 r ∧ OnWay ws s p r ∧ Below (w.heap.size + 1) (w.alloc (.cells #[.int .i64 n, .slice A ws.length cap] 25)) wr) (fun c _ => (64 - intOf c).toNat)
  case atStart => exact ⟨_, rfl, HST.out, Below.refl _ _⟩
  case round =>
    obtain ⟨r, rfl, hon, hb⟩ := hrel
    obtain ⟨hb1, b0, b1, hz⟩ := box2 hb
    have HO := Lib.hid hon
    have HB0 := Lib.hid hb
    have hr0 := hon.lo
    have hr1 := hon.hi
    have hok := (waveTo_ok HS.out hon ws.length).1
    have hge := (waveTo_ok HS.out hon ws.length).2
    have hv1 := hok.hi
    have HK := Lib.hid hok
    have HRR := Lib.hid (HR.out.later hb1)
    clear hon hb hb1 hok
    by_cases he : waveTo ws s r ws.length = r
    · have HE := Lib.hid he
      have HT : Hid ((waveTo ws s r ws.length == r) = true) := by
        show (waveTo ws s r ws.length == r) = true
        rw [he]; simp
      clear he hge hv1
      go_wp2_with fail
      refine (wave_any n s p r A cap ws _ HRR.out HS.out h2 h3 HO.out).mono ?_; rintro e w2 ⟨rfl, hb2⟩
      have HB2 := Lib.hid (bstep (B := w.heap.size) (W := w) (box2 HB0.out).1 (by omega) hb2)
      have ht := HT.out
      clear hb2
      go_wp2_with fail
      go_ret
      exact ⟨ret_int (wave_end HS.out HO.out HE.out).eq, HB2.out⟩
    · have hlt : r < waveTo ws s r ws.length := by omega
      have HT : Hid ((waveTo ws s r ws.length == r) = false) := by
        show (waveTo ws s r ws.length == r) = false
        simp [he]
      clear he hge
      go_wp2_with fail
      refine (wave_any n s p r A cap ws _ HRR.out HS.out h2 h3 HO.out).mono ?_; rintro e w2 ⟨rfl, hb2⟩
      have HB2 := Lib.hid (bstep (B := w.heap.size + 1) (W := w.alloc (.cells #[.int .i64 n, .slice A ws.length cap] 25)) HB0.out (by omega) hb2)
      have ht := HT.out
      clear hb2
      go_wp2_with fail
      go_roundw
      case rel => exact ⟨_, rfl, HK.out, HB2.out⟩
      case measure => simp [intOf]; omega

noncomputable def reachOf (n : Int) (ws : List Wy) (s p : Int) : Int := if setOk n ws s = true ∧ hasPl n p = true then reach ws s p else -1
set_option maxHeartbeats 1000000 in
theorem ReachOf_any (n s p : Int) (A : Option Addr) (cap : Nat) (ws : List Wy) (w : World) (hr : RW w w.heap.size A ws) :
    Calls Try.prog 26 #[.agg #[.int .i64 n, .slice A ws.length cap], .int .i64 s, .int .i64 p] w fun e w' => e = .returned (.int .i64 (reachOf n ws s p)) ∧ Below w.heap.size w w' := by
  have HR := Lib.hid hr
  clear hr
  unfold reachOf
  cases hn : setOk n ws s
  · have HN := Lib.hid hn
    rw [if_neg (by simp)]
    clear hn
    go_enter Try.func26, Try.ntmps26
    go_wp2_with fail
    refine (waysOk_any _ _ _ _ _ _ (HR.out.later (by go_grown))).mono ?_; rintro e w1 ⟨rfl, hb1⟩
    rw [HN.out]
    obtain ⟨hc1, hf1⟩ := bcell hb1
    have hz1_0 : w.heap.size < w1.heap.size := by have hq := hb1.size; (try simp at hq); omega
    have HK1 := Lib.hid hb1
    have HB1 := Lib.hid (bstep (B := w.heap.size) (W := w) (by (try have hp := HB0.out); go_grown) (by go_size) hb1); clear hb1
    go_wp2_with fail
    go_ret
    exact ⟨rfl, HB1.out⟩
  · have HN := Lib.hid hn
    obtain ⟨hnet, hs0, hs1, hs2⟩ := setOk_t hn
    have HS := Lib.hid hnet
    clear hn hnet
    cases hp : hasPl n p
    · have HP := Lib.hid hp
      rw [if_neg (by simp)]
      clear hp
      go_enter Try.func26, Try.ntmps26
      go_wp2_with fail
      refine (waysOk_any _ _ _ _ _ _ (HR.out.later (by go_grown))).mono ?_; rintro e w1 ⟨rfl, hb1⟩
      rw [HN.out]
      obtain ⟨hc1, hf1⟩ := bcell hb1
      have hz1_0 : w.heap.size < w1.heap.size := by have hq := hb1.size; (try simp at hq); omega
      have HK1 := Lib.hid hb1
      have HB1 := Lib.hid (bstep (B := w.heap.size) (W := w) (by (try have hp := HB0.out); go_grown) (by go_size) hb1); clear hb1
      go_wp2_with fail
      refine (hasPlace_any _ _ _ _).mono ?_; rintro e w2 ⟨rfl, hb2⟩
      rw [HP.out]
      obtain ⟨hc2, hf2⟩ := bcell hb2
      have hz2_0 : w.heap.size < w2.heap.size := by have hq := hb2.size; (try simp at hq); omega
      have HK2 := Lib.hid hb2
      have HB2 := Lib.hid (bstep (B := w.heap.size) (W := w) (by have hp := HB1.out; go_grown) (by go_size) hb2); clear hb2
      go_wp2_with fail
      go_ret
      exact ⟨rfl, HB2.out⟩
    · have HP := Lib.hid hp
      obtain ⟨hp0, hp1⟩ := hasPl_t hp
      rw [if_pos ⟨rfl, rfl⟩]
      clear hp
      go_enter Try.func26, Try.ntmps26
      go_wp2_with fail
      refine (waysOk_any _ _ _ _ _ _ (HR.out.later (by go_grown))).mono ?_; rintro e w1 ⟨rfl, hb1⟩
      rw [HN.out]
      obtain ⟨hc1, hf1⟩ := bcell hb1
      have hz1_0 : w.heap.size < w1.heap.size := by have hq := hb1.size; (try simp at hq); omega
      have HK1 := Lib.hid hb1
      have HB1 := Lib.hid (bstep (B := w.heap.size) (W := w) (by (try have hp := HB0.out); go_grown) (by go_size) hb1); clear hb1
      go_wp2_with fail
      refine (hasPlace_any _ _ _ _).mono ?_; rintro e w2 ⟨rfl, hb2⟩
      rw [HP.out]
      obtain ⟨hc2, hf2⟩ := bcell hb2
      have hz2_0 : w.heap.size < w2.heap.size := by have hq := hb2.size; (try simp at hq); omega
      have HK2 := Lib.hid hb2
      have HB2 := Lib.hid (bstep (B := w.heap.size) (W := w) (by have hp := HB1.out; go_grown) (by go_size) hb2); clear hb2
      go_wp2_with fail
      refine (setReach_any n s p A cap ws _ (HR.out.later (by have := HB2.out; go_grown)) HS.out hs0 (by omega) hp0 hp1).mono ?_; rintro e w3 ⟨rfl, hb3⟩
      obtain ⟨hc3, hf3⟩ := bcell hb3
      have hz3_0 : w.heap.size < w3.heap.size := by have hq := hb3.size; (try simp at hq); omega
      have HK3 := Lib.hid hb3
      have HB3 := Lib.hid (bstep (B := w.heap.size) (W := w) (by have hp := HB2.out; go_grown) (by go_size) hb3); clear hb3
      go_wp2_with fail
      go_ret
      exact ⟨rfl, HB3.out⟩
end Go.Proofs.Ythadehgpeafniaa
namespace Go.Proofs.Ythadehgpeafniaa
open Go.ChangeShapes Go.WideShapes Go.ChangeAt Go.RowKit

theorem bit_one {s i : Int} (h0 : 0 ≤ i) (h2 : 0 ≤ s) (h : bit s i = true) : s / 2 ^ i.toNat % 2 = 1 ∧ (s / 2 ^ i.toNat).tmod 2 = 1 := by
  have := bit_mod s i h0 h2
  rw [h] at this
  have e : s / 2 ^ i.toNat % 2 = 1 := by simpa using this
  exact ⟨e, by rw [Int.tmod_eq_emod_of_nonneg (div_pow_bd s i.toNat h2).1]; exact e⟩
theorem bit_zero {s i : Int} (h0 : 0 ≤ i) (h2 : 0 ≤ s) (h : bit s i = false) : s / 2 ^ i.toNat % 2 = 0 ∧ (s / 2 ^ i.toNat).tmod 2 = 0 := by
  have := bit_mod s i h0 h2
  rw [h] at this
  have e : s / 2 ^ i.toNat % 2 ≠ 1 := by simpa using this
  have e' : s / 2 ^ i.toNat % 2 = 0 := by omega
  exact ⟨e', by rw [Int.tmod_eq_emod_of_nonneg (div_pow_bd s i.toNat h2).1]; exact e'⟩
def boolN : Value → Nat
  | .bool true => 1
  | _ => 0
/-- after k ways of a round that began with r0 -/
def Inner (ws : List Wy) (s p r0 : Int) (k : Nat) (r : Int) (ag : Bool) : Prop :=
  OnWay ws s p r ∧ (ag = false → r = r0 ∧ ∀ (j : Nat) (x : Wy), j < k → ws[j]? = some x → bit s j = true → bit r x.a = bit r x.b) ∧ (ag = true → r0 < r)
theorem Inner.start {ws : List Wy} {s p r0 : Int} (h : OnWay ws s p r0) : Inner ws s p r0 0 r0 false := ⟨h, fun _ => ⟨rfl, fun j x hj => by omega⟩, fun h => by cases h⟩
theorem Inner.pass {ws : List Wy} {s p r0 r : Int} {k : Nat} {ag : Bool} (h : Inner ws s p r0 k r ag) {x : Wy} (hx : ws[k]? = some x) (hc : bit s k = true → bit r x.a = bit r x.b) : Inner ws s p r0 (k + 1) r ag :=
  ⟨h.1, fun ha => ⟨(h.2.1 ha).1, fun j y hj hy hb => by
    by_cases hjk : j = k
    · subst hjk; rw [hx] at hy; injection hy with hy; subst hy; exact hc hb
    · exact (h.2.1 ha).2 j y (by omega) hy hb⟩, h.2.2⟩
theorem ior_ne {r a b : Int} (hr : 0 ≤ r) (ha : 0 ≤ a) (hb : 0 ≤ b) (h : bit r a ≠ bit r b) : ior r (ior (2 ^ a.toNat) (2 ^ b.toNat)) ≠ r := by
  intro e
  have h1 : bit (ior r (ior (2 ^ a.toNat) (2 ^ b.toNat))) a = true := by rw [bit_ior, bit_ior, bit_shl a a ha ha]; simp
  have h2 : bit (ior r (ior (2 ^ a.toNat) (2 ^ b.toNat))) b = true := by rw [bit_ior, bit_ior, bit_shl b b hb hb]; simp
  rw [e] at h1 h2
  exact h (h1.trans h2.symm)
theorem Inner.take {n : Int} {ws : List Wy} {s p r0 r : Int} {k : Nat} {ag : Bool} (hn : NetIs n ws) (h : Inner ws s p r0 k r ag) {x : Wy} (hx : ws[k]? = some x) (hb : bit s k = true) (hd : bit r x.a ≠ bit r x.b) :
    Inner ws s p r0 (k + 1) (ior r (wayPl x)) true := by
  obtain ⟨a0, _, b0, _⟩ := hn.at_ hx
  have ht : bit r x.a = true ∨ bit r x.b = true := by
    cases h1 : bit r x.a <;> cases h2 : bit r x.b <;> simp_all
  have hge := ior_ge r (wayPl x) h.1.lo
  have hne := ior_ne h.1.lo a0 b0 hd
  refine ⟨h.1.step hn hx hb ht, (fun hh => by cases hh), fun _ => ?_⟩
  rw [wayPl_is] at *
  cases ag
  · have := (h.2.1 rfl).1; omega
  · have := h.2.2 rfl; omega
theorem ior_assoc' (a b c : Int) : ior (ior a b) c = ior a (ior b c) := by
  unfold ior
  simp only [Int.toNat_natCast]
  rw [Nat.or_assoc]
theorem or_shl' (m : Int) (x : Wy) (h0 : 0 ≤ m) (h1 : m < 64) (ha0 : 0 ≤ x.a) (ha1 : x.a ≤ 5) (hb0 : 0 ≤ x.b) (hb1 : x.b ≤ 5) :
    bits .or .i64 (bits .or .i64 m (wrap64 (2 ^ x.a.toNat))) (wrap64 (2 ^ x.b.toNat)) = ior m (wayPl x) := by
  rw [wrap_shl1 _ ha1, wrap_shl1 _ hb1]
  have sa := shl1_bd x.a ha1
  have sb := shl1_bd x.b hb1
  have e3 := ior_bd m (shl1 x.a) 6 (by omega) (by omega)
  rw [bits_or m _ (by omega) (by omega) (by omega) (by omega), bits_or _ _ (by omega) (by omega) (by omega) (by omega), ior_assoc']
  rfl

end Go.Proofs.Ythadehgpeafniaa
