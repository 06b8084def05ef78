/- The program's rows of nearest ends and of farthest places. -/
import Derived.Test.YthadehgpeafniaaNxIa
import Derived.Test.YthadehgpeafniaaNxIb
import Derived.Test.YthadehgpeafniaaMH
set_option linter.unusedSimpArgs false
set_option linter.unusedVariables false
attribute [local go_sem ↓] Go.wp_at_zero Go.wp_at_succ
namespace Go.Proofs.Ythadehgpeafniaa
open Go.ChangeShapes Go.WideShapes Go.ChangeAt Go.RowKit

theorem nx_at0 {w : World} {lo hi g m : Nat} {f : Nat → Int} (h : RowF w lo hi (some ⟨g, 0, none⟩) m f) {j : Nat} (hj : j < m) : w.cell? ⟨g, j, none⟩ = some (.int .i64 (f j)) ∧ w.frozen? ⟨g, j, none⟩ = false := by
  obtain ⟨b, o, e, _, _, x0, x1⟩ := h.at_ j hj
  injection e with e; injection e with e1 e2; subst e1; subst e2
  rw [Nat.zero_add] at x0 x1
  exact ⟨x0, x1⟩
theorem nx_upto {w : World} {lo hi : Nat} {A : Option Addr} {m : Nat} {f : Nat → Int} (h : RowF w lo hi A m f) : RowF w lo w.heap.size A m f :=
  ⟨fun j hj => by obtain ⟨b, o, h1, h2, h3, h4⟩ := h.at_ j hj; exact ⟨b, o, h1, h2, Nat.lt_of_lt_of_le h3 h.top, h4⟩, Nat.le_refl _⟩
/-- a row that is filled place by place -/
structure Filled (w wr : World) (T Tt m k : Nat) (f : Nat → Int) (F : Nat → Nat → Int) : Prop where
  below : Below w.heap.size w wr
  row : RowF wr T (T + 1) (some ⟨T, 0, none⟩) m (fun j => if j < k then f j else 0)
  tab : TabM wr Tt (Tt + 1 + m) Tt m (fun i => Tt + 1 + i) (fun _ => m) F
theorem Filled.put {w wr : World} {T Tt m k : Nat} {f : Nat → Int} {F : Nat → Nat → Int} (h : Filled w wr T Tt m k f F) (hw : w.heap.size ≤ T) (hT : T < Tt) (hk : k < m) : Filled w (wr.setCell ⟨T, k, none⟩ (.int .i64 (f k))) T Tt m (k + 1) f F :=
  ⟨h.below.setCell (p := ⟨T, k, none⟩) hw _, h.row.fill0 hk, h.tab.keep (fun q hq _ => Below.heap_setCell _ _ _ _ (by show q ≠ T; omega)) (by simp [World.setCell])⟩
theorem Filled.done {w wr : World} {T Tt m : Nat} {f : Nat → Int} {F : Nat → Nat → Int} {L : List Int} (h : Filled w wr T Tt m m f F) (hw : w.heap.size ≤ T) (hL : L.length = m) (hf : ∀ j, j < m → L.getD j 0 = f j) : NewInts L w (.returned (.slice (some ⟨T, 0, none⟩) m m)) wr :=
  ⟨some ⟨T, 0, none⟩, m, by rw [hL], by rw [hL]; exact nx_upto ((h.row.congr (g := fun j => L.getD j 0) (fun j hj => by rw [if_pos hj, hf j hj])).wider hw), h.below⟩
set_option maxRecDepth 100000 in
set_option maxHeartbeats 4000000 in
theorem NearestRow_any (n e : Int) (A : Option Addr) (cap : Nat) (ws : List Wy) (w : World) (hr : RW w w.heap.size A ws) :
    Calls Try.prog 16 #[.agg #[.int .i64 n, .slice A ws.length cap], .int .i64 e] w (NewInts (nearestRow n ws e) w) := by
  have HR := Lib.hid hr
  clear hr
  unfold nearestRow
  cases hok : netOk n ws && plOk n e
  · have HOK := Lib.hid hok
    rw [if_neg (by simp)]
    clear hok
    go_enter Try.func16, Try.ntmps16
    go_wp2_with fail
    refine (endsOk_any _ _ _ _ _ _ (HR.out.later (by go_grown))).mono ?_; rintro e w1 ⟨rfl, hb1⟩
    rw [HOK.out]
    obtain ⟨hc1, hf1⟩ := bcell hb1
    have hz1_0 : w.heap.size < w1.heap.size := by have hq := hb1.size; (try simp at hq); omega
    have HK1 := Lib.hid hb1
    have HB1 := Lib.hid (bstep (B := w.heap.size) (W := w) (by (try have hp := HB0.out); go_grown) (by go_size) hb1); clear hb1
    go_wp2_with fail
    go_ret
    exact newInts_nil rfl HB1.out
  · have HOK := Lib.hid hok
    obtain ⟨hno, hpe⟩ : netOk n ws = true ∧ plOk n e = true := by simpa using hok
    have hn := netOk_t hno
    have HNO := Lib.hid hno
    obtain ⟨e0, he1⟩ := plOk_t hpe
    obtain ⟨m, rfl⟩ := Int.eq_ofNat_of_zero_le (show 0 ≤ n by have := hn.lo; omega)
    rw [if_pos rfl, Int.toNat_natCast]
    have hn6 := hn.hi
    have hn2 := hn.lo
    have hm6 : m ≤ 6 := by omega
    have hm0 : 0 < m := by omega
    have HNI := Lib.hid hn
    have he64 : e < 64 := by
      have hp := pow_bd (m : Int) 6 (by omega)
      rw [Int.toNat_natCast] at hp he1
      omega
    clear hno hpe he1
    obtain ⟨F, hF⟩ : ∃ F, farF ws m = F := ⟨_, rfl⟩
    have HF := Lib.hid hF
    have HDG : Hid (∀ a, a < m → F a a = 0) := fun a ha => by rw [← hF]; exact farF_diag hn ha
    rw [hF]
    have HLE : Hid (((List.range m).map (fun a => nrTo F e a m)).length = m) := by show _ = _; rw [List.length_map, List.length_range]
    have HLA : Hid (∀ j, j < m → ((List.range m).map (fun a => nrTo F e a m)).getD j 0 = (fun a => nrTo F e a m) j) := fun j hj => by simp [List.getD, hj]
    obtain ⟨L, hL⟩ : ∃ L, (List.range m).map (fun a => nrTo F e a m) = L := ⟨_, rfl⟩
    rw [hL] at HLE HLA ⊢
    have hmk := fun W => mkInts' W m hm6
    clear hok hn hF hL
    go_enter Try.func16, Try.ntmps16
    go_wp2_with fail
    refine (endsOk_any _ _ _ _ _ _ (HR.out.later (by go_grown))).mono ?_; rintro e w1 ⟨rfl, hb1⟩
    rw [HOK.out]
    obtain ⟨hc1, hf1⟩ := bcell hb1
    have hz1_0 : w.heap.size < w1.heap.size := by have hq := hb1.size; (try simp at hq); omega
    have HK1 := Lib.hid hb1
    have HB1 := Lib.hid (bstep (B := w.heap.size) (W := w) (by (try have hp := HB0.out); go_grown) (by go_size) hb1); clear hb1
    have k1 : w1.cell? ⟨w.heap.size, 0, none⟩ = some (.int .i64 m) ∧ w1.cell? ⟨w.heap.size, 1, none⟩ = some (.slice A ws.length cap) := ⟨by go_simp, by go_simp⟩
    clear hc1 hf1
    obtain ⟨b0, b1⟩ := k1
    go_wp2_with fail
    clear hmk
    obtain ⟨T, hT⟩ : ∃ T, w1.heap.size = T := ⟨_, rfl⟩
    have c0' : (w1.alloc (.cells (Array.replicate m (.int .i64 0)) 3)).cell? ⟨w.heap.size, 0, none⟩ = some (.int .i64 m) := (World.cell?_alloc_lt _ _ _ hz1_0).trans b0
    have c1' : (w1.alloc (.cells (Array.replicate m (.int .i64 0)) 3)).cell? ⟨w.heap.size, 1, none⟩ = some (.slice A ws.length cap) := (World.cell?_alloc_lt _ _ _ hz1_0).trans b1
    have HN1 := Lib.hid (show RowF (w1.alloc (.cells (Array.replicate m (.int .i64 0)) 3)) T (T + 1) (some ⟨T, 0, none⟩) m (fun j => if j < 0 then (fun a => nrTo F e a m) j else 0) by
      have h := (new_rowF w1 m 3).congr (g := fun j => if j < 0 then (fun a => nrTo F e a m) j else 0) (fun j _ => by rw [if_neg (by omega)])
      rw [hT] at h; exact h)
    have HB2 := Lib.hid (HB1.out.alloc (Nat.le_of_lt hz1_0) (.cells (Array.replicate m (.int .i64 0)) 3))
    have hsz : (w1.alloc (.cells (Array.replicate m (.int .i64 0)) 3)).heap.size = T + 1 := by rw [World.size_alloc, hT]
    have HSZ := Lib.hid hsz
    rw [hT] at hz1_0 ⊢
    obtain ⟨W1, hW1⟩ : ∃ W1, w1.alloc (.cells (Array.replicate m (.int .i64 0)) 3) = W1 := ⟨_, rfl⟩
    rw [hW1] at c0' c1' HN1 HB2 HSZ ⊢
    clear hT hsz hW1 b0 b1
    go_wp2_with fail
    refine (FarTable_any m A cap ws _ (HR.out.later HB2.out) HNO.out).mono ?_; rintro en2 w2 ⟨Tt, hTt, rfl, htab, hb2⟩
    rw [HF.out] at htab
    have hTT : T < Tt := by rw [HSZ.out] at hTt; omega
    have hwT : w.heap.size ≤ T := Nat.le_of_lt hz1_0
    have HFI : Hid (Filled w w2 T Tt m 0 (fun a => nrTo F e a m) F) := ⟨bstep HB2.out (by rw [HSZ.out]; omega) hb2, HN1.out.below hb2, htab⟩
    clear hTt htab hb2 c0' c1' HN1 HB2 HSZ
    go_wp2_with fail
    go_loopw [18] (fun i wr => ∃ k : Nat, k ≤ m ∧ i = .int .i64 k ∧ Filled w wr T Tt m k (fun a => nrTo F e a m) F) (fun i _ => m - (intOf i).toNat)
    case atStart => exact ⟨0, Nat.zero_le _, rfl, HFI.out⟩
    case round =>
      clear HFI
      obtain ⟨k, hk, rfl, hfi⟩ := hrel
      have HFI := Lib.hid hfi
      by_cases hlk : k < m
      · have k0 : (0 : Int) ≤ (k : Int) := by omega
        have k1 : (k : Int) < (m : Int) := by omega
        have tp := hfi.tab.top k hlk
        (try dsimp only at tp)
        obtain ⟨x0, x1⟩ := nx_at0 hfi.row hlk
        (try dsimp only at x0)
        have HCELL : Hid (∀ b : Nat, b < m → wr.cell? ⟨Tt + 1 + k, b, none⟩ = some (.int .i64 (F k b))) := fun b hb => (hfi.tab.row k b hlk hb).1
        obtain ⟨V, hV⟩ : ∃ V, (fun a => nrTo F e a m) k = V := ⟨_, rfl⟩
        have HV := Lib.hid hV
        have HPUT : Hid (Filled w (wr.setCell ⟨T, k, none⟩ (.int .i64 V)) T Tt m (k + 1) (fun a => nrTo F e a m) F) := by
          show Filled _ _ _ _ _ _ _ _
          rw [← hV]; exact hfi.put hwT hTT hlk
        clear hfi hV HFI
        go_wp2_with fail
        refine (nearestOf_any m (Tt + 1 + k) m F k e wr HCELL.out hm6 e0 he64).mono ?_; rintro en3 w3 ⟨rfl, rfl⟩; rw [show nrTo F e k m = V from HV.out]
        go_wp2_with fail
        go_roundw
        case rel => exact ⟨k + 1, by omega, by go_num, HPUT.out⟩
        case measure => (simp [intOf]) <;> omega
      · obtain rfl : k = m := by omega
        have HEND := Lib.hid (hfi.done hwT HLE.out HLA.out)
        clear hfi HFI
        go_wp2_with fail
        go_ret
        exact HEND.out
end Go.Proofs.Ythadehgpeafniaa
