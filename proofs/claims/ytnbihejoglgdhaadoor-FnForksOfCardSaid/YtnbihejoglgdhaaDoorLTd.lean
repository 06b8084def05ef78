/- The law of ForksOf: each fork is a place of the set; a tree with ways has two leaves more than forks at least. -/
import Derived.Test.YtnbihejoglgdhaaDoorChI
import Derived.Test.YtnbihejoglgdhaaDoorChJ
import Derived.Test.YtnbihejoglgdhaaDoorChL
import Derived.Test.YtnbihejoglgdhaaDoorWVf
import Derived.Test.YtnbihejoglgdhaaDoorWC
import Derived.Test.YtnbihejoglgdhaaDoorMC
import Derived.Test.YtnbihejoglgdhaaDoorLN
import Derived.Test.YtnbihejoglgdhaaDoorMF
import Derived.Test.YtnbihejoglgdhaaDoorME
set_option linter.unusedSimpArgs false
set_option linter.unusedVariables false
attribute [local go_sem ↓] Go.wp_at_zero Go.wp_at_succ
namespace Go.Proofs.YtnbihejoglgdhaaDoor
open Go.ChangeShapes Go.WideShapes Go.ChangeAt Go.RowKit

set_option maxRecDepth 100000 in
set_option maxHeartbeats 16000000 in
theorem FnForksOf_walk (A : Option Addr) (len cap : Nat) (w : World) (hr : RB w w.heap.size A len) (hc : len ≤ cap) (hlen : len ≤ 9223372036854775807) (hT : Tab w) :
    Calls Tryd.prog 6 #[.slice A len cap] w fun e w' => e = .returned (.bool true) ∧ Below w.heap.size w w' := by
  have HR := Lib.hid hr
  have HT := Lib.hid hT
  clear hr hT
  by_cases hm : 1048576 < len
  · go_enter Tryd.func6, Tryd.ntmps6
    go_wp2_with fail
    go_ret
    exact ⟨rfl, Below.refl _ _⟩
  · go_enter Tryd.func6, Tryd.ntmps6
    go_wp2_with fail
    refine (DrawForksOf_any A len cap _ HR.out hc (by omega)).mono ?_
    rintro e wd ⟨nn, ss, A', c', ws, rfl, hrw, hl10, hcc, hn0, hn7, hs0, hs1, hbd⟩
    have HRW := Lib.hid hrw
    have HBD := Lib.hid hbd
    have HTD := Lib.hid (HT.out.later hbd)
    have hzd : w.heap.size ≤ wd.heap.size := hbd.size
    clear hrw hbd
    cases hset : setOk nn ws ss
    · have HF : Hid (forksOf nn ws ss = -1) := by show _ = _; unfold forksOf; rw [hset]; rfl
      clear hset
      go_wp2_with fail
      refine (ForksOf_any _ _ _ _ _ _ (HRW.out.later (by go_grown))).mono ?_; rintro e w1 ⟨rfl, hb1⟩
      rw [HF.out]
      obtain ⟨hc1, hf1⟩ := bcell hb1
      have hz1_0 : wd.heap.size < w1.heap.size := by have hq := hb1.size; (try simp at hq); omega
      have HK1 := Lib.hid hb1
      have HB1 := Lib.hid (bstep (B := wd.heap.size) (W := wd) (by (try have hp := HB0.out); go_grown) (by go_size) hb1); clear hb1
      go_wp2_with fail
      refine (sForksOf_any _ _ _ _ _ _ (HRW.out.later (by have := HB1.out; go_grown)) (by omega)).mono ?_; rintro e w2 ⟨rfl, hb2⟩
      rw [HF.out]
      obtain ⟨hc2, hf2⟩ := bcell hb2
      have hz2_0 : wd.heap.size < w2.heap.size := by have hq := hb2.size; (try simp at hq); omega
      have HK2 := Lib.hid hb2
      have HB2 := Lib.hid (bstep (B := wd.heap.size) (W := wd) (by have hp := HB1.out; go_grown) (by go_size) hb2); clear hb2
      go_wp2_with fail
      refine (alive_any _).mono ?_; rintro e w3 ⟨rfl, hb3⟩
      obtain ⟨hc3, hf3⟩ := bcell hb3
      have hz3_0 : wd.heap.size < w3.heap.size := by have hq := hb3.size; (try simp at hq); omega
      have HK3 := Lib.hid hb3
      have HB3 := Lib.hid (bstep (B := wd.heap.size) (W := wd) (by have hp := HB2.out; go_grown) (by go_size) hb3); clear hb3
      go_wp2_with fail
      go_ret
      exact ⟨rfl, bstep HBD.out hzd HB3.out⟩
    · have HSET := Lib.hid hset
      obtain ⟨hni, s0, s1, s5⟩ := setOk_t hset
      obtain ⟨m, rfl⟩ : ∃ m : Nat, nn = m := ⟨nn.toNat, by omega⟩
      have hm6 : m ≤ 6 := by have := hni.hi; omega
      have hp6 := pow_bd (m : Int) 6 (by omega)
      have hfb := fks_bd (n := (m : Int)) ws ss
      have hnb := nds_bd hni ss
      have hF0 : forksOf (m : Int) ws ss = fks (m : Int) ws ss := by unfold forksOf; rw [hset]; rfl
      have hN0 : nodesOf (m : Int) ws ss = nds ws ss := by unfold nodesOf; rw [hset]; rfl
      have hL0 : leavesOf (m : Int) ws ss = lvs ws ss := by unfold leavesOf; rw [hset]; rfl
      have hT0 : treeOk (m : Int) ws ss = tree ws ss := by unfold treeOk; rw [hset]; rfl
      have hz0 : idiff (fks (m : Int) ws ss) (nds ws ss) = 0 := (idiff_zero hfb.1).2 fun q hq hb => fks_nds hni ss q hq hb
      have hlb := lvs_bd hni ss
      have htr : tree ws ss = true → ss ≠ 0 → pop (fks (m : Int) ws ss) + 2 ≤ pop (lvs ws ss) := fun h1 h2 => by
        unfold tree at h1
        have h3 : (ss == 0) = false := by simpa using h2
        rw [h3, Bool.false_or, Bool.and_eq_true, beq_iff_eq] at h1
        exact tree_forks hni s0 s1 h1.1
      obtain ⟨K, hK⟩ : ∃ K, fks (m : Int) ws ss = K := ⟨_, rfl⟩
      obtain ⟨V, hV⟩ : ∃ V, nds ws ss = V := ⟨_, rfl⟩
      obtain ⟨E, hE⟩ : ∃ E, lvs ws ss = E := ⟨_, rfl⟩
      obtain ⟨T, hT⟩ : ∃ T, tree ws ss = T := ⟨_, rfl⟩
      rw [hK] at hfb hF0 hz0 htr
      rw [hV] at hnb hN0 hz0
      rw [hE] at hL0 hlb htr
      rw [hT] at hT0 htr
      have hK64 : K < 64 := by omega
      have hK0 : 0 ≤ K := hfb.1
      have hV0 : 0 ≤ V := hnb.1
      have hV64 : V < 64 := hnb.2.1
      have hE0 : 0 ≤ E := hlb.1
      have hE64 : E < 64 := hlb.2
      have hdf : bits .andNot .i64 K V = 0 := by rw [bits_andNot _ _ hK0 (by omega) hV0 (by omega)]; exact hz0
      have hmx3 : max V 0 = V := by omega
      have hKn : ¬ K < 0 := by omega
      have HF := Lib.hid hF0
      have HN := Lib.hid hN0
      have HE := Lib.hid hL0
      have HTR := Lib.hid hT0
      clear hset hni s1 hp6 hfb hnb hF0 hN0 hL0 hT0 hz0 hlb hK hV hE hT
      go_wp2_with fail
      refine (ForksOf_any _ _ _ _ _ _ (HRW.out.later (by go_grown))).mono ?_; rintro e w1 ⟨rfl, hb1⟩
      rw [HF.out]
      obtain ⟨hc1, hf1⟩ := bcell hb1
      have hz1_0 : wd.heap.size < w1.heap.size := by have hq := hb1.size; (try simp at hq); omega
      have HK1 := Lib.hid hb1
      have HB1 := Lib.hid (bstep (B := wd.heap.size) (W := wd) (by (try have hp := HB0.out); go_grown) (by go_size) hb1); clear hb1
      go_wp2_with fail
      refine (sForksOf_any _ _ _ _ _ _ (HRW.out.later (by have := HB1.out; go_grown)) (by omega)).mono ?_; rintro e w2 ⟨rfl, hb2⟩
      rw [HF.out]
      obtain ⟨hc2, hf2⟩ := bcell hb2
      have hz2_0 : wd.heap.size < w2.heap.size := by have hq := hb2.size; (try simp at hq); omega
      have HK2 := Lib.hid hb2
      have HB2 := Lib.hid (bstep (B := wd.heap.size) (W := wd) (by have hp := HB1.out; go_grown) (by go_size) hb2); clear hb2
      go_wp2_with fail
      refine (NodesOf_any _ _ _ _ _ _ (HRW.out.later (by have := HB2.out; go_grown))).mono ?_; rintro e w3 ⟨rfl, hb3⟩
      rw [HN.out]
      obtain ⟨hc3, hf3⟩ := bcell hb3
      have hz3_0 : wd.heap.size < w3.heap.size := by have hq := hb3.size; (try simp at hq); omega
      have HK3 := Lib.hid hb3
      have HB3 := Lib.hid (bstep (B := wd.heap.size) (W := wd) (by have hp := HB2.out; go_grown) (by go_size) hb3); clear hb3
      go_wp2_with fail
      refine (TreeOk_any _ _ _ _ _ _ (HRW.out.later (by have := HB3.out; go_grown)) (HTD.out.later (by have := HB3.out; go_grown))).mono ?_; rintro e w4 ⟨rfl, hb4⟩
      rw [HTR.out]
      obtain ⟨hc4, hf4⟩ := bcell hb4
      have hz4_0 : wd.heap.size < w4.heap.size := by have hq := hb4.size; (try simp at hq); omega
      have HK4 := Lib.hid hb4
      have HB4 := Lib.hid (bstep (B := wd.heap.size) (W := wd) (by have hp := HB3.out; go_grown) (by go_size) hb4); clear hb4
      cases T
      · go_wp2_with fail
        go_ret
        exact ⟨rfl, bstep HBD.out hzd HB4.out⟩
      · by_cases hs00 : ss = 0
        · subst hs00
          go_wp2_with fail
          go_ret
          exact ⟨rfl, bstep HBD.out hzd HB4.out⟩
        · have hs01 : (ss == 0) = false := by simpa using hs00
          have hpo := htr rfl hs00
          obtain ⟨PE, hPE⟩ : ∃ P, pop E = P := ⟨_, rfl⟩
          obtain ⟨PK, hPK⟩ : ∃ P, pop K = P := ⟨_, rfl⟩
          have hpb := pop_bd K
          rw [hPE, hPK] at hpo
          rw [hPK] at hpb
          have HPE := Lib.hid hPE
          have HPK := Lib.hid hPK
          have hgd : decide (PK + 2 ≤ PE) = true := by simpa using hpo
          clear hPE hPK htr
          go_wp2_with fail
          refine (LeavesOf_any _ _ _ _ _ _ (HRW.out.later (by have := HB4.out; go_grown))).mono ?_; rintro e w5 ⟨rfl, hb5⟩
          rw [HE.out]
          obtain ⟨hc5, hf5⟩ := bcell hb5
          have hz5_0 : wd.heap.size < w5.heap.size := by have hq := hb5.size; (try simp at hq); omega
          have HK5 := Lib.hid hb5
          have HB5 := Lib.hid (bstep (B := wd.heap.size) (W := wd) (by have hp := HB4.out; go_grown) (by go_size) hb5); clear hb5
          go_wp2_with fail
          refine (lSizeOf_any E hE0 (by omega) _).mono ?_; rintro e6 w6 ⟨rfl, rfl⟩; rw [HPE.out]
          go_wp2_with fail
          refine (lSizeOf_any K hK0 (by omega) _).mono ?_; rintro e7 w7 ⟨rfl, rfl⟩; rw [HPK.out]
          go_wp2_with fail
          go_ret
          exact ⟨rfl, bstep HBD.out hzd HB5.out⟩
end Go.Proofs.YtnbihejoglgdhaaDoor
