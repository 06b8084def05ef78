/- More on who is come to. -/
import Derived.Test.YtnbihejoglgdhaaReach
namespace Go.Proofs.Ytnbihejoglgdhaa
open Go.RowKit

theorem reach_ex {n : Int} {ws : List Wy} {s p : Int} (hn : NetIs n ws) : ∀ (m : Nat) (r : Int), (64 - r).toNat ≤ m → OnWay ws s p r → ∃ r', IsReach ws s p r'
  | 0, r, hm, h => by have := h.hi; omega
  | m + 1, r, hm, h => by
    obtain ⟨h1, h2⟩ := waveTo_ok hn h ws.length
    by_cases he : waveTo ws s r ws.length = r
    · exact ⟨r, wave_end hn h he⟩
    · exact reach_ex hn m _ (by have := h1.hi; omega) h1
theorem reach_is {n : Int} {ws : List Wy} {s p : Int} (hn : NetIs n ws) (hp : 0 ≤ p) (hp' : p < n) : IsReach ws s p (reach ws s p) := by
  obtain ⟨r, hr⟩ := reach_ex (s := s) hn 64 _ (by have := pow_bd p 5 (by have := hn.hi; omega); omega) (OnWay.start (s := s) hn hp hp')
  exact Classical.epsilon_spec ⟨r, hr⟩
/-- who is come to comes back -/
theorem IsReach.back {ws : List Wy} {s p q r : Int} (h : IsReach ws s p r) (hq : 0 ≤ q) (hb : bit r q = true) : IsReach ws s q r := by
  refine { lo := h.lo, hi := h.hi, has := hb, closed := h.closed, least := fun T hT hc x hx hxr => ?_ }
  have key : ∀ y, 0 ≤ y → bit r y = true → (T y == T p) = true := fun y hy hyr =>
    h.least (fun y => T y == T p) (by simp) (fun k w hw hk => by simp [hc k w hw hk]) y hy hyr
  have h1 := key q hq hb
  have h2 := key x hx hxr
  simp at h1 h2
  rw [h2, ← h1, hT]
theorem reach_back {n : Int} {ws : List Wy} {s p q : Int} (hn : NetIs n ws) (hp : 0 ≤ p) (hp' : p < n) (hq : 0 ≤ q) (hb : bit (reach ws s p) q = true) : reach ws s q = reach ws s p :=
  (((reach_is hn hp hp').back hq hb).eq).symm
end Go.Proofs.Ytnbihejoglgdhaa
