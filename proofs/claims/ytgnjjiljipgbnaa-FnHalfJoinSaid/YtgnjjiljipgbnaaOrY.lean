/- A region that draws its order, in which an operation near the end may undo what was held: loads may be taken first all the same; behind that operation nothing is held. -/
import Derived.Test.YtgnjjiljipgbnaaOrd
namespace Go.Proofs.Ytgnjjiljipgbnaa
open Go
section
variable {P : Program} {ops : Array Oper} {Q : Exit → Act → World → Prop} {md : Region.Mode} {S : World → Prop} {z : Nat}

/-- in each order from here on: until operation z is done the world meets S; behind it nothing is held -/
def AnyY (P : Program) (md : Region.Mode) (ops : Array Oper) (Q : Exit → Act → World → Prop) (S : World → Prop) (z : Nat) : Nat → Array Bool → Act → World → Prop
  | 0, l, a, w => Region.ready md ops l = [] ∧ Q .normal a w
  | f + 1, l, a, w => (Region.ready md ops l = [] → Q .normal a w) ∧ ∀ i, i ∈ Region.ready md ops l → wpOp P ops Q i (fun a' w' => (i = z → wpAny P md ops Q f (l.setIfInBounds i true) a' w') ∧ (i ≠ z → S w' ∧ AnyY P md ops Q S z f (l.setIfInBounds i true) a' w')) a w
theorem AnyY.any : ∀ (f : Nat) (l : Array Bool) (a : Act) (w : World), AnyY P md ops Q S z f l a w → wpAny P md ops Q f l a w
  | 0, _, _, _, h => h
  | f + 1, _, _, _, h => ⟨h.1, fun i hi => wpOp_mono (fun a' w' k => by
      by_cases e : i = z
      · exact k.1 e
      · exact AnyY.any f _ a' w' (k.2 e).2) (h.2 i hi)⟩
/-- what is done has all done that it waits for -/
def Whole (md : Region.Mode) (ops : Array Oper) (l : Array Bool) : Prop :=
  ∀ j o, ops[j]? = some o → l.getD j false = true → ∀ e ∈ o.after, Region.binds md e = true → l.getD e.on false = true
def wholeB (md : Region.Mode) (ops : Array Oper) (l : Array Bool) : Bool :=
  (List.range ops.size).all fun j => match ops[j]? with
    | some o => !l.getD j false || o.after.all fun e => !Region.binds md e || l.getD e.on false
    | none => true
theorem Whole.of {l : Array Bool} (h : wholeB md ops l = true) : Whole md ops l := by
  intro j o ho hl e he hb
  unfold wholeB at h
  have h1 := List.all_eq_true.1 h j (List.mem_range.2 (Array.getElem?_eq_some_iff.1 ho).1)
  rw [ho] at h1
  simp only [hl, Bool.not_true, Bool.false_or] at h1
  have h2 := Array.all_eq_true_iff_forall_mem.1 h1 e he
  simpa [hb] using h2
theorem Whole.set {i : Nat} {l : Array Bool} (h : Whole md ops l) (hi : i ∈ Region.ready md ops l) : Whole md ops (l.setIfInBounds i true) := by
  intro j o ho hl e he hb
  obtain ⟨_, oi, hoi, hall⟩ := mem_ready.1 hi
  by_cases hj : i = j
  · subst hj
    rw [hoi] at ho; cases ho
    exact getD_set_true (hall e he hb)
  · rw [getD_set_ne false hj] at hl
    exact getD_set_true (h j o ho hl e he hb)
/-- j waits for i, if by others -/
def waitsT (md : Region.Mode) (ops : Array Oper) (i : Nat) : Nat → Nat → Bool
  | 0, _ => false
  | f + 1, j => match ops[j]? with
    | some o => o.after.any fun e => Region.binds md e && (e.on == i || waitsT md ops i f e.on)
    | none => false
theorem waitsT_not {i : Nat} {l : Array Bool} (hw : Whole md ops l) (hi : l.getD i false = false) : ∀ (f j : Nat) (o : Oper), waitsT md ops i f j = true → ops[j]? = some o → (∀ e ∈ o.after, Region.binds md e = true → l.getD e.on false = true) → False
  | 0, _, _, h, _, _ => by simp [waitsT] at h
  | f + 1, j, o, h, ho, hall => by
    unfold waitsT at h
    rw [ho] at h
    obtain ⟨e, he, h⟩ := Array.any_eq_true'.1 h
    simp only [Bool.and_eq_true, Bool.or_eq_true, beq_iff_eq] at h
    have h1 := hall e he h.1
    rcases h.2 with h2 | h2
    · rw [h2, hi] at h1; cases h1
    · cases ho' : ops[e.on]? with
      | none => cases f <;> simp [waitsT, ho'] at h2
      | some o' => exact waitsT_not hw hi f e.on o' h2 ho' (hw e.on o' ho' h1)
theorem waitsT_ready {i f : Nat} {l : Array Bool} (hw : Whole md ops l) (hb : waitsT md ops i f z = true) (hi : i ∈ Region.ready md ops l) : z ∉ Region.ready md ops l := by
  intro hz
  obtain ⟨_, o, ho, hall⟩ := mem_ready.1 hz
  have h0 := (mem_ready.1 hi).1
  refine waitsT_not hw ?_ f z o hb ho hall
  rcases Nat.lt_or_ge i l.size with hl | hl
  · simpa [hl] using h0
  · simp [Array.getElem?_eq_none hl] at h0
theorem AnyY.first {i : Nat} {oi : Oper} {v : Value} (hi : ops[i]? = some oi) (hsel : ∀ (j : Nat) (o : Oper) cs b, ops[j]? = some o → o.op ≠ .select cs b)
    (hQ : ∀ c a w, Q (.panic c) (a.put oi.dst v) w → Q (.panic c) a w) {n : Nat} (hb : waitsT md ops i n z = true) : ∀ (f : Nat) (l : Array Bool) (a : Act) (w : World), Whole md ops l →
      (∀ j oj, ops[j]? = some oj → j ≠ i → l.getD j true = false → (∀ e ∈ oj.after, Region.binds md e = true → e.on ≠ i) → oi.apart ops oj = true) →
      i ∈ Region.ready md ops l → YieldsIf P ops S oi v a → S w → AnyY P md ops Q S z f (l.setIfInBounds i true) (a.put oi.dst v) w → AnyY P md ops Q S z (f + 1) l a w
  | 0, l, a, w, hw, _, hr, hy, hS, H => by
    refine ⟨fun h => (by rw [h] at hr; cases hr), fun j hj => ?_⟩
    by_cases hji : j = i
    · subst hji
      have hjz : j ≠ z := fun e => waitsT_ready hw hb hr (e ▸ hj)
      exact hy.wpOp hi hS ⟨fun e => absurd e hjz, fun _ => ⟨hS, H⟩⟩
    · have hm := ready_mono hj hji
      rw [H.1] at hm; cases hm
  | f + 1, l, a, w, hw, hfr, hr, hy, hS, H => by
    refine ⟨fun h => (by rw [h] at hr; cases hr), fun j hj => ?_⟩
    by_cases hji : j = i
    · subst hji
      have hjz : j ≠ z := fun e => waitsT_ready hw hb hr (e ▸ hj)
      exact hy.wpOp hi hS ⟨fun e => absurd e hjz, fun _ => ⟨hS, H⟩⟩
    · have hjz : j ≠ z := fun e => waitsT_ready hw hb hr (e ▸ hj)
      obtain ⟨hun, oj, hoj, hall⟩ := mem_ready.1 hj
      have hno : ∀ e ∈ oj.after, Region.binds md e = true → e.on ≠ i := fun e he hbe heq => by
        have h1 := hall e he hbe
        have h0 := (mem_ready.1 hr).1
        rw [heq] at h1
        rcases Nat.lt_or_ge i l.size with hl | hl
        · simp [hl] at h0 h1
          rw [h0] at h1; cases h1
        · simp [Array.getElem?_eq_none hl] at h1
      have hmove := wpOp_putIf hoj (hfr j oj hoj hji hun hno) (fun cs b => hsel i oi cs b hi) (fun cs b => hsel j oj cs b hoj) hQ hy (H.2 j (ready_mono hj hji))
      refine wpOp_mono (fun a' w' k => ⟨fun e => absurd e hjz, fun _ => ⟨(k.2.2 hjz).1, AnyY.first hi hsel hQ hb f (l.setIfInBounds j true) a' w' (hw.set hj) ?_ (ready_mono hr (Ne.symm hji)) k.1 (k.2.2 hjz).1 ?_⟩⟩) hmove
      · intro q oq hoq hqi hqun hqno
        refine hfr q oq hoq hqi ?_ hqno
        by_cases hjq : j = q
        · subst hjq; exact hun
        · rw [getD_set_ne true hjq] at hqun; exact hqun
      · rw [Array.setIfInBounds_comm _ _ hji]
        exact (k.2.2 hjz).2
theorem AnyY.take {i : Nat} {oi : Oper} {v : Value} {f : Nat} {l : Array Bool} {a : Act} {w : World} (hi : ops[i]? = some oi) (hs : Region.noSelect ops = true) (hf : Region.free md ops l i = true)
    (hr : (Region.ready md ops l).contains i = true) {n : Nat} (hb : waitsT md ops i n z = true) (hw : wholeB md ops l = true) (hQ : ∀ c a w, Q (.panic c) (a.put oi.dst v) w → Q (.panic c) a w) (hy : YieldsIf P ops S oi v a) (hS : S w)
    (h : AnyY P md ops Q S z f (l.setIfInBounds i true) (a.put oi.dst v) w) : AnyY P md ops Q S z (f + 1) l a w :=
  AnyY.first hi (Region.noSelect_spec hs) hQ hb f l a w (Whole.of hw) (Region.free_spec hi hf) (by simpa using hr) hy hS h
/-- the one operation that may come up, before z -/
theorem AnyY.step {i : Nat} {o : Oper} {f : Nat} {l : Array Bool} {a : Act} {w : World} (hr : Region.ready md ops l = [i]) (hz : i ≠ z) (ho : ops[i]? = some o)
    (h : ∀ K : Act → World → Prop, Shut (∀ a w, S w → (S w → AnyY P md ops Q S z f (l.setIfInBounds i true) a w) → K a w) → if Region.wanted o (yielded ops a.tmps) = true then Oper.wp P o a w K Q else K (a.put o.dst undef) w) :
    AnyY P md ops Q S z (f + 1) l a w :=
  ⟨fun h0 => (by rw [hr] at h0; cases h0), fun j hj => by
    rw [hr] at hj
    obtain rfl := List.mem_singleton.1 hj
    exact wpOp_step ho (fun K hK => h K (fun a w hS hW => hK a w ⟨fun e => absurd e hz, fun _ => ⟨hS, hW hS⟩⟩))⟩
/-- operation z -/
theorem AnyY.stepZ {o : Oper} {f : Nat} {l : Array Bool} {a : Act} {w : World} (hr : Region.ready md ops l = [z]) (ho : ops[z]? = some o)
    (h : ∀ K : Act → World → Prop, Shut (∀ a w, wpAny P md ops Q f (l.setIfInBounds z true) a w → K a w) → if Region.wanted o (yielded ops a.tmps) = true then Oper.wp P o a w K Q else K (a.put o.dst undef) w) :
    AnyY P md ops Q S z (f + 1) l a w :=
  ⟨fun h0 => (by rw [hr] at h0; cases h0), fun j hj => by
    rw [hr] at hj
    obtain rfl := List.mem_singleton.1 hj
    exact wpOp_step ho (fun K hK => h K (fun a w hW => hK a w ⟨fun _ => hW, fun e => absurd rfl e⟩))⟩
/-- behind it: the one operation that may come up -/
theorem wpAny_one {i : Nat} {o : Oper} {f : Nat} {l : Array Bool} {a : Act} {w : World} (hr : Region.ready md ops l = [i]) (ho : ops[i]? = some o)
    (h : ∀ K : Act → World → Prop, Shut (∀ a w, wpAny P md ops Q f (l.setIfInBounds i true) a w → K a w) → if Region.wanted o (yielded ops a.tmps) = true then Oper.wp P o a w K Q else K (a.put o.dst undef) w) :
    wpAny P md ops Q (f + 1) l a w :=
  ⟨fun h0 => (by rw [hr] at h0; cases h0), fun j hj => by
    rw [hr] at hj
    obtain rfl := List.mem_singleton.1 hj
    exact wpOp_step ho h⟩
theorem wpAny_end {l : Array Bool} {a : Act} {w : World} (hr : Region.ready md ops l = []) (h : Q .normal a w) : ∀ f, wpAny P md ops Q f l a w
  | 0 => ⟨hr, h⟩
  | f + 1 => ⟨fun _ => h, fun i hi => by rw [hr] at hi; cases hi⟩
theorem AnyY.region {id : Nat} {a : Act} {w : World} (hm : P.follows .mixedOrders = true) (hS : S w.drew)
    (h : S w.drew → AnyY P .any ops Q S z ops.size (Array.replicate ops.size false) a w.drew) : (Code.region id ops true).wp P Q a w :=
  wp_region_any hm (AnyY.any _ _ _ _ (h hS))
end
end Go.Proofs.Ytgnjjiljipgbnaa
